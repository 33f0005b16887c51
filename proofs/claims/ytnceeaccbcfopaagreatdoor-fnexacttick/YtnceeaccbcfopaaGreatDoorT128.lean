/-
  Answers with an engine, all of it one's own: read, kept, marked. The conditions: sizes.
-/
import Derived.Test.YtnceeaccbcfopaaGreatDoorT127
namespace Go.Proofs.YtnceeaccbcfopaaGreatDoor
open Go.ChangeShapes Go.WideShapes Go.ChangeAt Go.RowKit
set_option linter.unusedVariables false
namespace EngR
open OwG CatR ChG DocR
open RowG (cellsAll grown_set MadeG Rws)
open EvtR (Pt)
def RCa (c:Ca) (v:Value) (W:World):Prop:=∃ma mc ca cc,v=.agg #[.slice ma c.ms.length mc,.slice ca c.cs.length cc]∧Mes ma c.ms.length c.ms W∧Crs ca c.cs.length c.cs W
theorem Pc.mkh {R:Value→World→Prop} {mf hf tot lo hi:Nat} {v:Value} {W:World} (h:Pc R mf hf tot lo hi v W):∃T:Nat→Prop,(∀b,T b→lo≤b∧b<hi)∧∀K,1≤K→K+tot≤5300001→MkH mf hf v K (K+tot) T W:=by
 obtain ⟨_,T,h1,h2⟩:=h
 exact ⟨T,h1,(h2 W (Nat.le_refl _) (fun _ _=>rfl)).2⟩
theorem pc_ca {W:World} {lo:Nat} {vm:Value} {va:Option Addr} {cp:Nat} {c:Ca} (h:MsO lo vm c.ms W) (hc:W.ownsRow lo 151 2 (.slice va c.cs.length cp) c.cs.length (cellsAll Cr.cells c.cs)) (hn:c.ms.length≤1048576) (hl:∀m∈c.ms,m.ts.length≤1048576) (hk:c.cs.length≤1048576) :
 ∃ma mc,vm=.slice ma c.ms.length mc∧Pc (RCa c) 38 93 (totM c.ms+2*c.cs.length) lo W.heap.size (.agg #[.slice ma c.ms.length mc,.slice va c.cs.length cp]) W:=by
 obtain ⟨ms,cs⟩:=c
 dsimp only at *
 obtain ⟨lim,ys,rfl,x2,x3,x4,x5⟩:=h
 rw [List.length_map] at x2 hn
 obtain ⟨ma,mc,rfl,_⟩:=RowG.own_made (z:=MA.zero) MA.len x2
 refine ⟨ma,mc,by rw [List.length_map],?_⟩
 rw [List.length_map]
 refine ⟨Nat.le_refl _,fun b=>TMs (.slice ma ys.length mc) ys b∨T1 (.slice va cs.length cp) b,?_,fun W2 hs hb=>?_⟩
 ·rintro b ((q|⟨y,hy,q⟩)|q)
  ·exact x2.lt b q
  ·exact (x3 y hy).lt b q
  ·exact hc.lt b q
 ·have h2:=own_blk x2 hs (fun b q=>hb b (.inl (.inl q)))
  have h3:∀x∈ys,TnO lo x W2:=fun x hx=>own_blk (x3 x hx) hs (fun b q=>hb b (.inl (.inr ⟨x,hx,q⟩)))
  have h4:=own_blk hc hs (fun b q=>hb b (.inr q))
  have hm:MsO lo (.slice ma ys.length mc) (ys.map MA.m) W2:=⟨lim,ys,rfl,by rw [List.length_map];exact h2,h3,x4,x5⟩
  obtain ⟨ma',mc',e,hme⟩:=hm.mes
  rw [List.length_map] at e
  cases e
  refine ⟨⟨ma,mc,va,cp,by rw [List.length_map],hme,own_crsT h4 rfl⟩,fun K k1 k2=>?_⟩
  have k3:=mkh_cat ma ys.length mc va cs.length cp K (K+totM (ys.map MA.m)) (K+totM (ys.map MA.m)+2*cs.length) _ _ W2 (mkh_mes k1 hn (fun y hy=>hl _ (List.mem_map_of_mem hy)) (by omega) h2 h3 x4) (mkh_cred h4 (by omega) (by omega) hk) (by
   rintro b ((q|⟨y,hy,q⟩)|q)
   ·exact (h2.lt b q).2
   ·exact ((h3 y hy).lt b q).2
   ·exact (h4.lt b q).2) (by
   rintro b (q|⟨y,hy,q⟩) q2
   ·exact own_apart h4 h2 (by decide) b q2 q.symm
   ·exact own_apart h4 (h3 y hy) (by decide) b q2 q.symm)
  rw [Nat.add_assoc] at k3
  exact k3
def totE (x:Eng):Nat:=totM x.c.ms+2*x.c.cs.length+2*x.ss.length+3*x.es.length+totW x.ws+totD x.ds
def EgQ (x:Eng) (lo hi:Nat) (v:Value) (W:World):Prop:=∃ma mc ca cc sa sc ea ec ua uc da dc l1 h1 l2 h2 l3 h3 l4 h4 l5 h5,v=.agg (ecells x ma mc ca cc sa sc ea ec ua uc da dc)∧Pc (RCa x.c) 38 93 (totM x.c.ms+2*x.c.cs.length) l1 h1 (.agg #[.slice ma x.c.ms.length mc,.slice ca x.c.cs.length cc]) W∧Pc (RCr x.ss) 39 94 (2*x.ss.length) l2 h2 (.slice sa x.ss.length sc) W∧Pc (REn x.es) 40 95 (3*x.es.length) l3 h3 (.slice ea x.es.length ec) W∧Pc (RWd x.ws) 41 96 (totW x.ws) l4 h4 (.slice ua x.ws.length uc) W∧Pc (RDc x.ds) 42 44 (totD x.ds) l5 h5 (.slice da x.ds.length dc) W ∧
 lo≤l1∧l1≤h1∧h1≤l2∧l2≤h2∧h2≤l3∧l3≤h3∧h3≤l4∧l4≤h4∧h4≤l5∧l5≤h5∧h5≤hi
theorem EgQ.keep {x:Eng} {lo hi:Nat} {v:Value} {W W':World} (h:EgQ x lo hi v W) (hs:W.heap.size≤W'.heap.size) (hb:∀b,lo≤b→b<hi→W'.heap[b]? = W.heap[b]?):EgQ x lo hi v W':=by
 obtain ⟨ma,mc,ca,cc,sa,sc,ea,ec,ua,uc,da,dc,l1,h1,l2,h2,l3,h3,l4,h4,l5,h5,e,p1,p2,p3,p4,p5,q0,q1,q2,q3,q4,q5,q6,q7,q8,q9,qa⟩:=h
 exact ⟨ma,mc,ca,cc,sa,sc,ea,ec,ua,uc,da,dc,l1,h1,l2,h2,l3,h3,l4,h4,l5,h5,e,p1.keep hs (fun b r1 r2=>hb b (by omega) (by omega)),p2.keep hs (fun b r1 r2=>hb b (by omega) (by omega)),p3.keep hs (fun b r1 r2=>hb b (by omega) (by omega)),p4.keep hs (fun b r1 r2=>hb b (by omega) (by omega)),p5.keep hs (fun b r1 r2=>hb b (by omega) (by omega)),q0,q1,q2,q3,q4,q5,q6,q7,q8,q9,qa⟩
theorem EgQ.eng {x:Eng} {lo hi:Nat} {v:Value} {W:World} (h:EgQ x lo hi v W):IsEng v x W:=by
 obtain ⟨ma,mc,ca,cc,sa,sc,ea,ec,ua,uc,da,dc,l1,h1,l2,h2,l3,h3,l4,h4,l5,h5,e,p1,p2,p3,p4,p5,_⟩:=h
 obtain ⟨a1,c1,a2,c2,e1,r1,r2⟩:=p1.reads
 obtain ⟨a3,c3,e3,r3⟩:=p2.reads
 obtain ⟨a4,c4,e4,r4⟩:=p3.reads
 obtain ⟨a5,c5,e5,r5⟩:=p4.reads
 obtain ⟨a6,c6,e6,r6⟩:=p5.reads
 cases e1
 cases e3
 cases e4
 cases e5
 cases e6
 exact ⟨ma,mc,ca,cc,sa,sc,ea,ec,ua,uc,da,dc,e,r1,r2,r3,r4,r5,r6⟩
theorem EgQ.marked {x:Eng} {lo hi:Nat} {v:Value} {W:World} (h:EgQ x lo hi v W) (hh:hi≤W.heap.size) (ht:1+totE x≤5300001):∃T:Nat→Prop,(∀b,T b→lo≤b∧b<hi)∧MkH 10 43 v 1 (1+totE x) T W:=by
 obtain ⟨ma,mc,ca,cc,sa,sc,ea,ec,ua,uc,da,dc,l1,h1,l2,h2,l3,h3,l4,h4,l5,h5,rfl,p1,p2,p3,p4,p5,q0,q1,q2,q3,q4,q5,q6,q7,q8,q9,qa⟩:=h
 obtain ⟨T1,t1,m1⟩:=p1.mkh
 obtain ⟨T2,t2,m2⟩:=p2.mkh
 obtain ⟨T3,t3,m3⟩:=p3.mkh
 obtain ⟨T4,t4,m4⟩:=p4.mkh
 obtain ⟨T5,t5,m5⟩:=p5.mkh
 unfold totE at ht ⊢
 have n1:=m1 1 (by omega) (by omega)
 have n2:=m2 (1+(totM x.c.ms+2*x.c.cs.length)) (by omega) (by omega)
 have n3:=m3 (1+(totM x.c.ms+2*x.c.cs.length)+2*x.ss.length) (by omega) (by omega)
 have n4:=m4 (1+(totM x.c.ms+2*x.c.cs.length)+2*x.ss.length+3*x.es.length) (by omega) (by omega)
 have n5:=m5 (1+(totM x.c.ms+2*x.c.cs.length)+2*x.ss.length+3*x.es.length+totW x.ws) (by omega) (by omega)
 have hm:=mkh_eng ma _ mc ca _ cc sa _ sc ea _ ec ua _ uc da _ dc x.fr _ _ _ _ _ _ T1 T2 T3 T4 T5 W n1 n2 n3 n4 n5
  (by
   rintro b (q|q|q|q|q)
   ·have:=t1 b q;omega
   ·have:=t2 b q;omega
   ·have:=t3 b q;omega
   ·have:=t4 b q;omega
   ·have:=t5 b q;omega)
  (fun b q r=>by have:=t1 b q;have:=t2 b r;omega) (fun b q r=>by have:=t1 b q;have:=t3 b r;omega) (fun b q r=>by have:=t1 b q;have:=t4 b r;omega) (fun b q r=>by have:=t1 b q;have:=t5 b r;omega)
  (fun b q r=>by have:=t2 b q;have:=t3 b r;omega) (fun b q r=>by have:=t2 b q;have:=t4 b r;omega) (fun b q r=>by have:=t2 b q;have:=t5 b r;omega) (fun b q r=>by have:=t3 b q;have:=t4 b r;omega) (fun b q r=>by have:=t3 b q;have:=t5 b r;omega) (fun b q r=>by have:=t4 b q;have:=t5 b r;omega)
 refine ⟨fun b=>T1 b∨T2 b∨T3 b∨T4 b∨T5 b,?_,?_⟩
 rotate_left
 ·rw [show 1+(totM x.c.ms+2*x.c.cs.length+2*x.ss.length+3*x.es.length+totW x.ws+totD x.ds)=1+(totM x.c.ms+2*x.c.cs.length)+2*x.ss.length+3*x.es.length+totW x.ws+totD x.ds by omega]
  exact hm
 ·rintro b (q|q|q|q|q)
  ·have:=t1 b q;omega
  ·have:=t2 b q;omega
  ·have:=t3 b q;omega
  ·have:=t4 b q;omega
  ·have:=t5 b q;omega
def eoV (x:Eng) (cd:Int) (ma:Option Addr) (mc:Nat) (ca:Option Addr) (cc:Nat) (sa:Option Addr) (sc:Nat) (ea:Option Addr) (ec:Nat) (ua:Option Addr) (uc:Nat) (da:Option Addr) (dc:Nat):Value:=.agg #[.slice ma x.c.ms.length mc,.slice ca x.c.cs.length cc,.slice sa x.ss.length sc,.slice ea x.es.length ec,.slice ua x.ws.length uc,.slice da x.ds.length dc,.int .i64 x.fr,.int .i64 0,.int .i64 0,.int .i64 0,.int .i64 0,.int .i64 0,.slice none 0 0,.int .i64 cd]
def EoR (D:Eng × Int) (v:Value) (W:World):Prop:=∃ma mc ca cc sa sc ea ec ua uc da dc,v=eoV D.1 D.2 ma mc ca cc sa sc ea ec ua uc da dc∧IsEng (.agg (ecells D.1 ma mc ca cc sa sc ea ec ua uc da dc)) D.1 W
theorem EoR.below {D:Eng × Int} {v:Value} {W W':World} (h:EoR D v W) (hb:Below W.heap.size W W'):EoR D v W':=by
 obtain ⟨ma,mc,ca,cc,sa,sc,ea,ec,ua,uc,da,dc,e,h⟩:=h
 exact ⟨ma,mc,ca,cc,sa,sc,ea,ec,ua,uc,da,dc,e,h.below hb⟩
theorem EoR.shape {D:Eng × Int} {v:Value} {W:World} (h:EoR D v W):∃(a:Option Addr) (an ac:Nat) (b:Option Addr) (bn bc:Nat) (c:Option Addr) (cn cc:Nat) (d:Option Addr) (dn dc:Nat) (e:Option Addr) (en ec:Nat) (f:Option Addr) (fn fc:Nat) (g t0 t1 t2 t3 t4:Int) (h:Option Addr) (hn hc:Nat) (z:Int),v=.agg #[.slice a an ac,.slice b bn bc,.slice c cn cc,.slice d dn dc,.slice e en ec,.slice f fn fc,.int .i64 g,.int .i64 t0,.int .i64 t1,.int .i64 t2,.int .i64 t3,.int .i64 t4,.slice h hn hc,.int .i64 z]:=by
 obtain ⟨ma,mc,ca,cc,sa,sc,ea,ec,ua,uc,da,dc,e,h⟩:=h
 exact ⟨_,_,_,_,_,_,_,_,_,_,_,_,_,_,_,_,_,_,_,_,_,_,_,_,_,_,_,_,e⟩
theorem eqEo {D:Eng × Int} {v v':Value} {w:World} (hS:D.1.Small) (h:EoR D v w) (h':EoR D v' w):Calls Tryz.prog 8 #[v,v'] w fun e w'=>e=.returned (.bool true)∧Below w.heap.size w w':=by
 obtain ⟨ma,mc,ca,cc,sa,sc,ea,ec,ua,uc,da,dc,rfl,h⟩:=h
 obtain ⟨ma',mc',ca',cc',sa',sc',ea',ec',ua',uc',da',dc',rfl,h'⟩:=h'
 exact eqEout ma ma' _ mc mc' ca ca' _ cc cc' sa sa' _ sc sc' ea ea' _ ec ec' ua ua' _ uc uc' da da' _ dc dc' none none 0 0 0 D.1.fr 0 0 0 0 0 D.2 w (fun W hW=>eqEngA _ _ D.1 W hS (h.below hW) (h'.below hW)) (fun W hW=>eqCnt 0 0 0 0 0 W) (fun W hW=>eqDcs0 none none 0 0 W)
def EoQ (D:Eng × Int) (lo:Nat) (v:Value) (W:World):Prop:=∃ma mc ca cc sa sc ea ec ua uc da dc hi,v=eoV D.1 D.2 ma mc ca cc sa sc ea ec ua uc da dc∧hi≤W.heap.size∧EgQ D.1 lo hi (.agg (ecells D.1 ma mc ca cc sa sc ea ec ua uc da dc)) W
theorem EoQ.kq {D:Eng × Int} {lo:Nat} {v:Value} {W W':World} (h:EoQ D lo v W) (hk:Kq lo W W'):EoQ D lo v W':=by
 obtain ⟨ma,mc,ca,cc,sa,sc,ea,ec,ua,uc,da,dc,hi,e,hh,h⟩:=h
 exact ⟨ma,mc,ca,cc,sa,sc,ea,ec,ua,uc,da,dc,hi,e,Nat.le_trans hh hk.size,h.keep hk.size (fun b q1 q2=>hk.block b q1 (by omega))⟩
theorem EoQ.reads {D:Eng × Int} {lo:Nat} {v:Value} {W:World} (h:EoQ D lo v W):EoR D v W:=by
 obtain ⟨ma,mc,ca,cc,sa,sc,ea,ec,ua,uc,da,dc,hi,e,hh,h⟩:=h
 exact ⟨ma,mc,ca,cc,sa,sc,ea,ec,ua,uc,da,dc,e,h.eng⟩
theorem markEo {D:Eng × Int} (ht:1+totE D.1≤5300001) {b:Nat} {v:Value} {Wt W:World} (h:EoQ D b v Wt) (hk:Kq b Wt W) :
 Calls Tryz.prog 11 #[v,.int .i64 1] W fun e w'=>∃KK:Nat,e=.returned (.int .i64 KK)∧Chg (fun x=>b≤x∧x<Wt.heap.size) W w' ∧
  ∀w2,Below w'.heap.size w' w2→Calls Tryz.prog 12 #[v,.int .i64 1] w2 fun e w3=>e=.returned (.int .i64 KK)∧Below w2.heap.size w2 w3:=by
 obtain ⟨ma,mc,ca,cc,sa,sc,ea,ec,ua,uc,da,dc,hi,rfl,hh,h⟩:=h
 have hsz:=hk.size
 obtain ⟨T,hT,hm⟩:=(h.keep hsz (fun b q1 q2=>hk.block b q1 (by omega))).marked (by omega) ht
 have hout:=mkh_eout ma _ mc ca _ cc sa _ sc ea _ ec ua _ uc da _ dc none 0 0 D.1.fr 0 0 0 0 0 D.2 1 _ _ T _ W hm (mkh_dcs0 _ none 0 W)
  (by
   rintro b (q|q)
   ·have:=(hT b q).2;omega
   ·exact q.elim)
  (fun b _ q=>q)
 refine (hout (fun _=>False) W (Chg.refl _ _) (fun b q=>q.elim)).mono ?_
 rintro e w' ⟨rfl,h1,h2⟩
 refine ⟨_,rfl,h1.wide ?_,fun w2 hb=>h2 (fun _=>False) w2 (Chg.of_below hb) (fun b q=>q.elim)⟩
 rintro b (q|q)
 ·have:=hT b q;omega
 ·exact q.elim
end EngR
end Go.Proofs.YtnceeaccbcfopaaGreatDoor
