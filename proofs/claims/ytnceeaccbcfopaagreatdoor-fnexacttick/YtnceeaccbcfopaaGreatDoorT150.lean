/-
  Tick on both sides: each answers what Tick answers; the program's answer is its own. The conditions: sizes of at most 1048576; the program's variables hold what its text lays.
-/
import Derived.Test.YtnceeaccbcfopaaGreatDoorT149
namespace Go.Proofs.YtnceeaccbcfopaaGreatDoor
open Go.ChangeShapes Go.WideShapes Go.ChangeAt Go.RowKit
set_option linter.unusedVariables false
namespace EngR
open OwG CatR ChG DocR
open RowG (cellsAll grown_set MadeG Rws)
open EvtR (Pt)
theorem set_crA (ss:List Cr) (k:Nat) (m:Int):(cellsAll Cr.cells ss).set (k*2+1) (.int .i64 m)=cellsAll Cr.cells (ss.set k ⟨(ss.getD k Cr.zero).a,m⟩):=by
 by_cases h:k<ss.length
 ·exact set_cr ss k m h
 ·rw [List.set_eq_of_length_le (by rw [RowG.cellsAll_len Cr.len];omega),List.set_eq_of_length_le (by omega)]
theorem sm_a {x:Eng} (h:x.Small):∀c∈x.ss,c.a.size≤1048576:=fun c hc=>by
 obtain ⟨i,hi,rfl⟩:=List.getElem_of_mem hc
 have:=h.ss i hi
 simpa [List.getD,hi] using this
theorem sm_w {x:Eng} (h:x.Small):∀w∈x.ws,w.Small:=fun w hw=>by
 obtain ⟨i,hi,rfl⟩:=List.getElem_of_mem hw
 have:=h.ws i hi
 simpa [List.getD,hi] using this
theorem ok_me {x:Eng} (h:x.Ok):x.c.ms.length≤6∧x.c.cs.length≤6∧∀m∈x.c.ms,m.ts.length≤5:=by
 obtain ⟨⟨m6,hm⟩,⟨c6,_⟩⟩:=caB_iffC.1 h.c
 refine ⟨m6,c6,fun m hq=>?_⟩
 obtain ⟨i,hi,rfl⟩:=List.getElem_of_mem hq
 have:=(me_facts (hm i hi).1).2.2
 simpa [List.getD,hi] using this
theorem pc_srH {W:World} {lo hi:Nat} {v:Value} {xs:List Cr} (h:W.ownsRow lo 63 2 v xs.length (cellsAll Cr.cells xs)) (hn:xs.length≤1048576) (hb:∀b,v.ownBlock=some b→b<hi) (hh:hi≤W.heap.size):Pc (RCr xs) 39 94 (2*xs.length) lo hi v W:=by
 obtain ⟨a,c,rfl,_⟩:=RowG.own_made (z:=Cr.zero) Cr.len h
 refine ⟨hh,T1 (.slice a xs.length c),fun b q=>⟨(h.lt b q).1,hb b q⟩,fun W2 hs hb=>?_⟩
 have h2:=own_blk h hs hb
 exact ⟨⟨a,c,rfl,own_crsT h2 rfl⟩,fun K k1 k2=>mkh_src h2 k1 (by omega) hn⟩
theorem eoq_ill (cd:Int) {lo:Nat} {W:World} (hlo:lo≤W.heap.size):EoQ (E0,cd) lo (.agg #[.slice none 0 0,.slice none 0 0,.slice none 0 0,.slice none 0 0,.slice none 0 0,.slice none 0 0,.int .i64 0,.int .i64 0,.int .i64 0,.int .i64 0,.int .i64 0,.int .i64 0,.slice none 0 0,.int .i64 cd]) W:=by
 refine ⟨none,0,none,0,none,0,none,0,none,0,none,0,W.heap.size,rfl,Nat.le_refl _,none,0,none,0,none,0,none,0,none,0,none,0,W.heap.size,W.heap.size,W.heap.size,W.heap.size,W.heap.size,W.heap.size,W.heap.size,W.heap.size,W.heap.size,W.heap.size,rfl,?_,?_,?_,?_,?_,hlo,Nat.le_refl _,Nat.le_refl _,Nat.le_refl _,Nat.le_refl _,Nat.le_refl _,Nat.le_refl _,Nat.le_refl _,Nat.le_refl _,Nat.le_refl _,Nat.le_refl _⟩
 ·obtain ⟨ma,mc,e,h⟩:=pc_ca (c:=⟨[],[]⟩) (lo:=W.heap.size) (mso_nil W.heap.size W) (World.ownsRow_nil _ _ _ _) (by simp) (by simp) (by simp)
  cases e
  exact h
 ·exact pc_sr (lo:=W.heap.size) (World.ownsRow_nil _ _ _ _:W.ownsRow W.heap.size 63 2 (.slice none 0 0) ([]:List Cr).length (cellsAll Cr.cells [])) (by simp [E0])
 ·exact pc_en (lo:=W.heap.size) (World.ownsRow_nil _ _ _ _:W.ownsRow W.heap.size 110 3 (.slice none 0 0) ([]:List SeenR.N).length (cellsAll SeenR.N.cells [])) (by simp [E0])
 ·exact pc_wd (lo:=W.heap.size) (wsq_nil _ _) (by simp [E0]) (by simp [E0])
 ·exact pc_dc (lo:=W.heap.size) (LedR.dso_nil _ _) (by simp [E0]) (by simp [E0])
theorem EgQ.low {x:Eng} {lo lo' hi:Nat} {v:Value} {W:World} (h:EgQ x lo hi v W) (hl:lo'≤lo):EgQ x lo' hi v W:=by
 obtain ⟨ma,mc,ca,cc,sa,sc,ea,ec,ua,uc,da,dc,l1,h1,l2,h2,l3,h3,l4,h4,l5,h5,e,p1,p2,p3,p4,p5,q0,q1,q2,q3,q4,q5,q6,q7,q8,q9,qa⟩:=h
 exact ⟨ma,mc,ca,cc,sa,sc,ea,ec,ua,uc,da,dc,l1,h1,l2,h2,l3,h3,l4,h4,l5,h5,e,p1,p2,p3,p4,p5,Nat.le_trans hl q0,q1,q2,q3,q4,q5,q6,q7,q8,q9,qa⟩
def turn (x:Eng) (k:Nat) (m:Int):Eng:={x with ss:=x.ss.set k ⟨(x.ss.getD k Cr.zero).a,m⟩}
theorem tk_ill2 {x:Eng} {v:Int} {a:ByteArray} {m:Int} (h:8000<a.size):tkD x v a m=(E0,2):=by unfold tkD;rw [if_pos h]
theorem tk_ill1 {x:Eng} {v:Int} {a:ByteArray} {m:Int} (h:a.size≤8000) (hb:engB x v=false):tkD x v a m=(E0,1):=by unfold tkD;rw [if_neg (by omega),if_neg (by rw [hb];simp)]
theorem tk_ill6 {x:Eng} {v:Int} {a:ByteArray} {m:Int} (h:a.size≤8000) (hb:engB x v=true) (hk:¬six x.ss a<x.ss.length):tkD x v a m=(E0,6):=by unfold tkD;rw [if_neg (by omega),if_pos hb,if_neg hk]
theorem tk_ill8 {x:Eng} {v:Int} {a:ByteArray} {m:Int} (h:a.size≤8000) (hb:engB x v=true) (hk:six x.ss a<x.ss.length) (hm:¬((x.ss.getD (six x.ss a) Cr.zero).m≤m∧m≤121000000)):tkD x v a m=(E0,8):=by unfold tkD;rw [if_neg (by omega),if_pos hb,if_pos hk,if_neg hm]
theorem tk_ok {x:Eng} {v:Int} {a:ByteArray} {m:Int} (h:a.size≤8000) (hb:engB x v=true) (hk:six x.ss a<x.ss.length) (hm:(x.ss.getD (six x.ss a) Cr.zero).m≤m∧m≤121000000):tkD x v a m=(turn x (six x.ss a) m,0):=by unfold tkD turn;rw [if_neg (by omega),if_pos hb,if_pos hk,if_pos hm]
set_option maxHeartbeats 4000000 in
theorem icopy_tk (ma:Option Addr) (mc:Nat) (ca:Option Addr) (cc:Nat) (sa:Option Addr) (sc:Nat) (ea:Option Addr) (ec:Nat) (ua:Option Addr) (uc:Nat) (da:Option Addr) (dc:Nat) (x:Eng) (k:Nat) (m:Int) (w:World) (hS:x.Small) (hO:x.Ok) (q1:Mes ma x.c.ms.length x.c.ms w) (q2:Crs ca x.c.cs.length x.c.cs w) (q3:Crs sa x.ss.length x.ss w) (q4:SeenR.Ens ea x.es w) (q5:WinR.Wns ua x.ws w) (q6:LedR.Dcs da x.ds w) :
 Calls Tryz.prog 31 #[.agg #[.slice ma x.c.ms.length mc,.slice ca x.c.cs.length cc,.slice sa x.ss.length sc,.slice ea x.es.length ec,.slice ua x.ws.length uc,.slice da x.ds.length dc,.int .i64 x.fr]] w fun e w'=>∃(xa:Option Addr) (xc:Nat) (ya:Option Addr) (yc:Nat) (za:Option Addr) (zc:Nat) (pa:Option Addr) (pc:Nat) (ra:Option Addr) (rc:Nat) (ta:Option Addr) (tc:Nat),e=.returned (.agg #[.slice xa x.c.ms.length xc,.slice ya x.c.cs.length yc,.slice za x.ss.length zc,.slice pa x.es.length pc,.slice ra x.ws.length rc,.slice ta x.ds.length tc,.int .i64 x.fr])∧(∃g,za=some ⟨g,0,none⟩∧w.heap.size≤g∧Pt g (x.ss.length*2) w')∧(∀W2,Below w'.heap.size w' W2→∀g,za=some ⟨g,0,none⟩→∃hi,hi≤(W2.setCell ⟨g,k*2+1,none⟩ (.int .i64 m)).heap.size∧EgQ (turn x k m) w.heap.size hi (.agg #[.slice xa x.c.ms.length xc,.slice ya x.c.cs.length yc,.slice za x.ss.length zc,.slice pa x.es.length pc,.slice ra x.ws.length rc,.slice ta x.ds.length tc,.int .i64 x.fr]) (W2.setCell ⟨g,k*2+1,none⟩ (.int .i64 m)))∧Below w.heap.size w w':=by
 obtain ⟨m6,c6,t5⟩:=ok_me hO
 have hs:=hO.ss
 have he:=hO.es
 have hw:=hO.ws
 have hd:=hO.ds
 refine (icopy_in ma _ mc ca _ cc sa _ sc ea _ ec ua _ uc da _ dc x.fr
  (fun lo hi v W=>Pc (RCa x.c) 38 93 (totM x.c.ms+2*x.c.cs.length) lo hi v W)
  (fun lo hi v W=>W.ownsRow lo 63 2 v x.ss.length (cellsAll Cr.cells x.ss)∧hi≤W.heap.size∧∀b,v.ownBlock=some b→b<hi)
  (fun lo hi v W=>Pc (REn x.es) 40 95 (3*x.es.length) lo hi v W)
  (fun lo hi v W=>Pc (RWd x.ws) 41 96 (totW x.ws) lo hi v W)
  (fun lo hi v W=>Pc (RDc x.ds) 42 44 (totD x.ds) lo hi v W) w
  (fun lo hi v W W' h hb=>h.below hb) (fun lo hi v W W' g h hg hl=>h.grown hg (fun _ e=>by cases e;exact .inl hl))
  (fun lo hi v W W' h hb=>⟨RowG.own_below h.1 hb,Nat.le_trans h.2.1 hb.size,h.2.2⟩) (fun lo hi v W W' g h hg hl=>⟨own_keepG h.1 hg hl,Nat.le_trans h.2.1 hg.size,h.2.2⟩)
  (fun lo hi v W W' h hb=>h.below hb) (fun lo hi v W W' g h hg hl=>h.grown hg (fun _ e=>by cases e;exact .inl hl))
  (fun lo hi v W W' h hb=>h.below hb) (fun lo hi v W W' g h hg hl=>h.grown hg (fun _ e=>by cases e;exact .inl hl))
  (fun lo hi v W W' h hb=>h.below hb) (fun lo hi v W W' g h hg hl=>h.grown hg (fun _ e=>by cases e;exact .inl hl))
  (fun W hW=>(icopy_m ma mc ca cc x.c W hO.c (q1.below hW) (q2.below hW)).mono ?_)
  (fun W hW=>(icopy_srcs sa sc x.ss W (by omega) (sm_a hS) (q3.below hW)).mono ?_)
  (fun W hW=>(icopy_ens ea ec x.es W he hS.es (q4.below hW)).mono ?_)
  (fun W hW=>(icopy_wins ua uc x.ws W (by omega) (fun y hy=>⟨(sm_w hS y hy).1,(sm_w hS y hy).2.1,(sm_w hS y hy).2.2.1,(sm_w hS y hy).2.2.2.1,(sm_w hS y hy).2.2.2.2,(hO.wl y hy).2.1⟩) (q5.below hW)).mono ?_)
  (fun W hW=>(icopy_docs da dc x.ds W (by omega) (fun d hd=>⟨(hS.ds d hd).1,(hS.ds d hd).2.1,(hS.ds d hd).2.2,(hO.dl d hd).2⟩) (q6.below hW)).mono ?_)).mono ?_
 ·rintro e w' ⟨vm,va,cp,rfl,h1,h2,hb⟩
  obtain ⟨a,c,rfl,h3⟩:=pc_ca h1 h2 (by omega) (fun m hm=>by have:=t5 m hm;omega) (by omega)
  exact ⟨a,c,va,cp,rfl,h3,hb⟩
 ·rintro e w' ⟨v,rfl,h1,hb⟩
  obtain ⟨a,c,rfl⟩:=own_formW h1
  exact ⟨a,c,rfl,⟨h1,Nat.le_refl _,fun b q=>(h1.lt b q).2⟩,hb⟩
 ·rintro e w' ⟨v,rfl,h1,hb⟩
  obtain ⟨a,c,rfl⟩:=own_formW h1
  exact ⟨a,c,rfl,pc_en h1 (by omega),hb⟩
 ·rintro e w' ⟨v,rfl,h1,hb⟩
  have h2:=pc_wd h1 (by omega) (fun y hy=>by have:=hO.wl y hy;omega)
  obtain ⟨a,c,rfl,_⟩:=h2.reads
  exact ⟨a,c,rfl,h2,hb⟩
 ·rintro e w' ⟨v,rfl,h1,hb⟩
  have h2:=pc_dc h1 (by omega) (fun d hd=>by have:=hO.dl d hd;omega)
  obtain ⟨a,c,rfl,_⟩:=h2.reads
  exact ⟨a,c,rfl,h2,hb⟩
 ·rintro e w' ⟨xa,xc,ya,yc,za,zc,pa,pc,ra,rc,ta,tc,rfl,l1,h1,l2,h2,l3,h3,l4,h4,l5,h5,a1,⟨a2,a2h,a2b⟩,a3,a4,a5,⟨o0,o1,o2,o3,o4,o5,o6,o7,o8,o9,oa⟩,hb⟩
  refine ⟨xa,xc,ya,yc,za,zc,pa,pc,ra,rc,ta,tc,rfl,?_,?_,hb⟩
  ·rcases own_k a2 with q|⟨g,e,hg,hp⟩
   ·omega
   ·exact ⟨g,e,by omega,hp⟩
  ·intro W2 hW2 g hza
   subst hza
   have hg1:=a2.lt g rfl
   have hg2:=a2b g rfl
   have b2:=own_wrT (RowG.own_below a2 hW2) (k*2+1) (.int .i64 m)
   rw [set_crA] at b2
   have hl:(x.ss.set k ⟨(x.ss.getD k Cr.zero).a,m⟩).length=x.ss.length:=List.length_set
   rw [←hl] at b2
   have hsz:(W2.setCell ⟨g,k*2+1,none⟩ (.int .i64 m)).heap.size=W2.heap.size:=by simp
   have hW2s:=hW2.size
   have d2:=pc_srH (hi:=h2) b2 (by rw [hl];omega) (fun b q=>by rw [hl] at q;exact a2b b q) (by rw [hsz];omega)
   refine ⟨h5,by rw [hsz];omega,xa,xc,ya,yc,some ⟨g,0,none⟩,zc,pa,pc,ra,rc,ta,tc,l1,h1,l2,h2,l3,h3,l4,h4,l5,h5,?_,(a1.below hW2).put _ _ _ (.inr (by omega)),d2,(a3.below hW2).put _ _ _ (.inl (by omega)),(a4.below hW2).put _ _ _ (.inl (by omega)),(a5.below hW2).put _ _ _ (.inl (by omega)),o0,o1,o2,o3,o4,o5,o6,o7,o8,o9,Nat.le_refl _⟩
   unfold ecells turn
   simp only [List.length_set]
theorem impl_tk (val:Value) (x:Eng) (v:Int) (a:ByteArray) (m:Int) (w:World) (hS:x.Small) (hE:IsEng val x w) (hwf:∀d∈x.ds,(Lit.int .i64 d.mo).wf=true) (hL:∀W,Below w.heap.size w W→CatR.Laid W) (hL2:∀W,Below w.heap.size w W→DateR.Laid W)
 (hv:0≤x.fr→x.fr≤2760→∀W,Below w.heap.size w W→Calls Tryz.prog 125 #[.int .i64 x.fr] W fun e w'=>e=.returned (.int .i64 v)∧Below W.heap.size W w') :
 Calls Tryz.prog 7 #[val,.string a,.int .i64 m] w fun e w'=>∃v',e=.returned v'∧EoQ (tkD x v a m) w.heap.size v' w'∧Below w.heap.size w w':=by
 have hE':=hE
 obtain ⟨ma,mc,ca,cc,sa,sc,ea,ec,ua,uc,da,dc,rfl,q1,q2,q3,q4,q5,q6⟩:=hE'
 refine itick_in ma _ mc ca _ cc sa _ sc ea _ ec ua _ uc da _ dc x.fr a m (engB x v) (sixI x.ss a) (six x.ss a) (x.ss.getD (six x.ss a) Cr.zero).m (fun lo v' W=>∃hi,hi≤W.heap.size∧EgQ (turn x (six x.ss a) m) lo hi v' W) _ w ?_ ?_ ?_ ?_ ?_ ?_ ?_ ?_ ?_ ?_
 ·intro h
  unfold sixI at h ⊢
  by_cases hk:six x.ss a<x.ss.length
  ·rw [if_pos hk]
   obtain ⟨b,off,e,hb,h1⟩:=crs_at q3 _ hk
   exact ⟨rfl,hk,b,off,e,hb,h1.2⟩
  ·rw [if_neg hk] at h
   exact absurd (by decide) h
 ·exact fun W hW=>impl_eng _ x v W hS (hE.below hW) hwf (fun W2 h2=>hL W2 (hW.trans (h2.mono hW.size))) (fun W2 h2=>hL2 W2 (hW.trans (h2.mono hW.size))) (fun a b W2 h2=>hv a b W2 (hW.trans (h2.mono hW.size)))
 ·exact fun W B hW hB hc=>idxS sa sc x.ss a B W (q3.below hW) hS.sl hB hc
 ·exact fun hb W hW=>icopy_tk ma mc ca cc sa sc ea ec ua uc da dc x (six x.ss a) m W hS (eng_ok hb) (q1.below hW) (q2.below hW) (q3.below hW) (q4.below hW) (q5.below hW) (q6.below hW)
 ·rintro lo v' W W' g ⟨hi,h1,h2⟩ hg hl
  exact ⟨hi,Nat.le_trans h1 hg.size,h2.keep hg.size (fun b r1 r2=>hg.block b (by omega) (by simp;omega))⟩
 ·intro h w' hb
  rw [tk_ill2 h]
  exact ⟨_,rfl,eoq_ill 2 hb.size,hb⟩
 ·intro h h1 w' hb
  rw [tk_ill1 h h1]
  exact ⟨_,rfl,eoq_ill 1 hb.size,hb⟩
 ·intro h h1 h2 w' hb
  have hk:¬six x.ss a<x.ss.length:=fun q=>by unfold sixI at h2;rw [if_pos q] at h2;omega
  rw [tk_ill6 h h1 hk]
  exact ⟨_,rfl,eoq_ill 6 hb.size,hb⟩
 ·intro h h1 h2 h3 w' hb
  have hk:six x.ss a<x.ss.length:=Classical.byContradiction (fun q=>by unfold sixI at h2;rw [if_neg q] at h2;exact h2 (by decide))
  rw [tk_ill8 h h1 hk h3]
  exact ⟨_,rfl,eoq_ill 8 hb.size,hb⟩
 ·intro h h1 h2 h3 xa xc ya yc za zc pa pc ra rc ta tc lo w' hlo hR hb
  have hk:six x.ss a<x.ss.length:=Classical.byContradiction (fun q=>by unfold sixI at h2;rw [if_neg q] at h2;exact h2 (by decide))
  rw [tk_ok h h1 hk h3]
  obtain ⟨hi,r1,r2⟩:=hR
  refine ⟨_,rfl,⟨xa,xc,ya,yc,za,zc,pa,pc,ra,rc,ta,tc,hi,?_,r1,?_⟩,hb⟩
  ·unfold eoV turn
   simp only [List.length_set]
  ·have e:(Value.agg (ecells (turn x (six x.ss a) m) xa xc ya yc za zc pa pc ra rc ta tc))=.agg #[.slice xa x.c.ms.length xc,.slice ya x.c.cs.length yc,.slice za x.ss.length zc,.slice pa x.es.length pc,.slice ra x.ws.length rc,.slice ta x.ds.length tc,.int .i64 x.fr]:=by
    unfold ecells turn
    simp only [List.length_set]
   rw [e]
   exact r2.low hlo
end EngR
end Go.Proofs.YtnceeaccbcfopaaGreatDoor
