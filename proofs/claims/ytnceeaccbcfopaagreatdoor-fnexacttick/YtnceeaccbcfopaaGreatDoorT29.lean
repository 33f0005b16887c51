/-
  Lists of documents and of windows of one's own are parts of an answer.
  Answers with an engine, all of it one's own: read, kept, marked.
  The model's copies: of a document, of documents.
  The model's copy of documents: spec.l09Copy.
  The conditions stand in what each theorem says.
-/
import Derived.Test.YtnceeaccbcfopaaGreatDoorT28
set_option maxRecDepth 100000
set_option maxHeartbeats 16000000
namespace Go.Proofs.YtnceeaccbcfopaaGreatDoor
open Go.ChangeShapes Go.WideShapes Go.ChangeAt Go.RowKit
set_option linter.unusedVariables false
namespace EngR
open OwG CatR ChG
open RowG (cellsAll grown_set MadeG Rws)
open EvtR (Pt)
def Tm (a:Option Addr) (n b:Nat):Prop:=n≠0∧a=some ⟨b,0,none⟩
theorem pw_ix {α:Type} {R:α→α→Prop} {z:α} {xs:List α} (h:xs.Pairwise R) (hs:∀x y,R x y→R y x) {i j:Nat} (hi:i<xs.length) (hj:j<xs.length) (hn:i≠j):R (xs.getD i z) (xs.getD j z):=by
 have e:∀k,k<xs.length→∃h:k<xs.length,xs.getD k z=xs[k]:=fun k hk=>⟨hk,by simp [List.getD,hk]⟩
 obtain ⟨_,ei⟩:=e i hi
 obtain ⟨_,ej⟩:=e j hj
 rw [ei,ej]
 rw [List.pairwise_iff_getElem] at h
 rcases Nat.lt_or_ge i j with q|q
 ·exact h i j hi hj q
 ·exact hs _ _ (h j i hj hi (by omega))
theorem mkh_ln {w:World} {lo n K:Nat} {a:Option Addr} {c:Nat} (h:n=0∨∃g,a=some ⟨g,0,none⟩∧lo≤g∧Pt g (n*2) w) (hK0:1≤K) (hK:K≤5300001) (hn:n≤1048576):MkH 92 97 (.slice a n c) K (K+2*n) (Tm a n) w:=by
 intro S W hc hS
 by_cases h0:n=0
 ·subst h0
  refine (LinR.marks0K K a c W).mono ?_
  rintro e w' ⟨rfl,hb⟩
  exact ⟨rfl,Chg.of_below hb,fun S' Y _ _=>LinR.held0K K a c Y⟩
 ·rcases h with q|⟨g,rfl,hg,hp⟩
  ·exact absurd q h0
  have hp2:=hc.pt hp (fun q=>hS g q ⟨h0,rfl⟩)
  refine (LinR.marksM K hK0 (by omega) g n c W hn hp2).mono ?_
  rintro e w' ⟨rfl,hg2,_,hM⟩
  refine ⟨rfl,(Chg.refl _ _).grown hg2 ⟨h0,rfl⟩,fun S' Y hc2 hS2=>?_⟩
  exact LinR.heldM K hK0 (by omega) g n c Y hn (hM.block hc2.size (hc2.block g hM.1 (fun q=>hS2 g q ⟨h0,rfl⟩)))
theorem mkh_tg {w:World} {lo n K:Nat} {a:Option Addr} {c:Nat} (h:n=0∨∃g,a=some ⟨g,0,none⟩∧lo≤g∧Pt g (n*1) w) (hK0:1≤K) (hK:K≤5300001) (hn:n≤1048576):MkH 90 147 (.slice a n c) K (K+n) (Tm a n) w:=by
 intro S W hc hS
 by_cases h0:n=0
 ·subst h0
  refine (WinR.nil_any _ (.inl rfl) a c K W (by omega)).mono ?_
  rintro e w' ⟨rfl,hb⟩
  exact ⟨rfl,Chg.of_below hb,fun S' Y _ _=>WinR.nil_any _ (.inr (.inr (.inl rfl))) a c K Y (by omega)⟩
 ·rcases h with q|⟨g,rfl,hg,hp⟩
  ·exact absurd q h0
  have hp2:=hc.pt hp (fun q=>hS g q ⟨h0,rfl⟩)
  refine (WinR.markT g n c K W hn ⟨hK0,by omega⟩ (by rw [Nat.mul_one] at hp2;exact hp2)).mono ?_
  rintro e w' ⟨rfl,hp3,hM,hg2⟩
  refine ⟨rfl,(Chg.refl _ _).grown hg2 ⟨h0,rfl⟩,fun S' Y hc2 hS2=>?_⟩
  have eb:=hc2.block g hp3.lt (fun q=>hS2 g q ⟨h0,rfl⟩)
  exact WinR.heldT g n c K Y hn ⟨hK0,by omega⟩ (Nat.lt_of_lt_of_le hp3.lt hc2.size) (wr_blk hM eb)
theorem mkh_hr {w:World} {lo n K:Nat} {a:Option Addr} {c:Nat} (h:n=0∨∃g,a=some ⟨g,0,none⟩∧lo≤g∧Pt g (n*2) w) (hK0:1≤K) (hK:K≤5300001) (hn:n≤1048576):MkH 91 148 (.slice a n c) K (K+2*n) (Tm a n) w:=by
 intro S W hc hS
 by_cases h0:n=0
 ·subst h0
  refine (WinR.nil_any _ (.inr (.inl rfl)) a c K W (by omega)).mono ?_
  rintro e w' ⟨rfl,hb⟩
  exact ⟨rfl,Chg.of_below hb,fun S' Y _ _=>WinR.nil_any _ (.inr (.inr (.inr rfl))) a c K Y (by omega)⟩
 ·rcases h with q|⟨g,rfl,hg,hp⟩
  ·exact absurd q h0
  have hp2:=hc.pt hp (fun q=>hS g q ⟨h0,rfl⟩)
  refine (WinR.markH g n c K W hn ⟨hK0,by omega⟩ hp2).mono ?_
  rintro e w' ⟨rfl,hp3,hM,hg2⟩
  refine ⟨rfl,(Chg.refl _ _).grown hg2 ⟨h0,rfl⟩,fun S' Y hc2 hS2=>?_⟩
  have eb:=hc2.block g hp3.lt (fun q=>hS2 g q ⟨h0,rfl⟩)
  exact WinR.heldH g n c K Y hn ⟨hK0,by omega⟩ (Nat.lt_of_lt_of_le hp3.lt hc2.size) (wr_blk hM eb)
def totD (ds:List DocR.D):Nat:=(ds.map (fun d=>3+2*d.ls.length)).sum
def totW (ws:List WinR.Wd):Nat:=(ws.map (fun x=>6+x.ts.length+2*x.hs.length)).sum
theorem totD_take:∀(l:List DocR.D) (j:Nat),totD (l.take j)≤totD l
 | [],j=>by simp
 | m::ms,0=>by simp [totD]
 | m::ms,j+1=>by
  have:=totD_take ms j
  simp only [totD,List.take_succ_cons,List.map_cons,List.sum_cons] at *
  omega
theorem totW_take:∀(l:List WinR.Wd) (j:Nat),totW (l.take j)≤totW l
 | [],j=>by simp
 | m::ms,0=>by simp [totW]
 | m::ms,j+1=>by
  have:=totW_take ms j
  simp only [totW,List.take_succ_cons,List.map_cons,List.sum_cons] at *
  omega
theorem totD_more {xs:List LedR.DA} {j:Nat} (h:j<xs.length):totD ((xs.map LedR.DA.d).take (j+1))=totD ((xs.map LedR.DA.d).take j)+3+2*(xs.getD j LedR.DA.zero).d.ls.length:=by
 rw [←List.map_take,←List.map_take,RowG.take_more (z:=LedR.DA.zero) xs j h]
 simp only [totD,List.map_append,List.sum_append,List.map_cons,List.map_nil,List.sum_cons,List.sum_nil]
 omega
theorem pc_dc {W:World} {lo:Nat} {v:Value} {ds:List DocR.D} (h:LedR.DsO lo v ds W) (hn:ds.length≤1048576) (hl:∀d∈ds,d.ls.length≤1048576):Pc (RDc ds) 42 44 (totD ds) lo W.heap.size v W:=by
 obtain ⟨xs,rfl,x2,x3,x4⟩:=h
 rw [List.length_map] at x2 hn
 refine ⟨Nat.le_refl _,fun b=>v.ownBlock=some b∨∃y∈xs,y.v.ownBlock=some b,?_,fun W2 hs hb=>?_⟩
 ·rintro b (q|⟨y,hy,q⟩)
  ·exact x2.lt b q
  ·exact (x3 y hy).lt b q
 have h2:=own_blk x2 hs (fun b q=>hb b (.inl q))
 have h3:∀x∈xs,LedR.LnO lo x W2:=fun x hx=>own_blk (x3 x hx) hs (fun b q=>hb b (.inr ⟨x,hx,q⟩))
 have hm:LedR.DsO lo v (xs.map LedR.DA.d) W2:=⟨xs,rfl,by rw [List.length_map];exact h2,h3,x4⟩
 refine ⟨hm.dcs,fun K k1 k2=>?_⟩
 by_cases h0:xs.length=0
 ·obtain rfl:xs=[]:=List.length_eq_zero_iff.1 h0
  obtain ⟨a,c,rfl,_⟩:=RowG.own_made (z:=LedR.DA.zero) LedR.DA.len h2
  have:=mkh_dcs0 K a c W2
  exact fun S Y hc hS=>(this S Y hc (fun _ _ q=>q)).mono (fun e w' q=>⟨q.1,q.2.1.wide (fun _ q=>q.elim),fun S' Y' hc' _=>q.2.2 S' Y' hc' (fun _ _ q=>q)⟩)
 ·obtain ⟨ao,cap,rfl,hmd⟩:=RowG.own_made (z:=LedR.DA.zero) LedR.DA.len h2
  rcases hmd.own with q|⟨g,rfl,hg,hp⟩
  ·exact absurd q h0
  have hrow:∀j,j<xs.length→∀x,x<4→W2.cell? ⟨g,j*4+x,none⟩=(LedR.DA.cells (xs.getD j LedR.DA.zero))[x]?:=fun j hj x hx=>by
   rcases hmd.rws with q|⟨b,off,e,_,hc⟩
   ·exact absurd q h0
   ·cases e
    have:=hc j hj x hx
    rw [Nat.zero_add] at this
    exact this
  have hmem:=fun j (hj:j<xs.length)=>RowG.getD_mem (z:=LedR.DA.zero) xs j hj
  have hob:∀y∈xs,∀b,Tm y.la y.d.ls.length b→y.v.ownBlock=some b:=fun y hy b q=>by
   unfold LedR.DA.v
   rw [q.2]
   rfl
  have hv:=LedR.mkh_dcs_in g xs.length cap (fun j=>K+totD ((xs.map LedR.DA.d).take j)) (fun j=>(xs.getD j LedR.DA.zero).la) (fun j=>(xs.getD j LedR.DA.zero).d.ls.length) (fun j=>(xs.getD j LedR.DA.zero).lc) (fun j=>Tm (xs.getD j LedR.DA.zero).la (xs.getD j LedR.DA.zero).d.ls.length) W2 hn
   ⟨hp,fun j hj=>hrow j hj 3 (by omega),fun j hj=>⟨by omega,by have:=totD_take (xs.map LedR.DA.d) j;omega⟩,fun j hj=>by
    have hb2:=totD_take (xs.map LedR.DA.d) (j+1)
    have hb3:=totD_more hj
    have:=mkh_ln (w:=W2) (lo:=lo) (c:=(xs.getD j LedR.DA.zero).lc) (own_k (h3 _ (hmem j hj))) (K:=K+totD ((xs.map LedR.DA.d).take j)+3) (by omega) (by omega) (hl _ (List.mem_map_of_mem (hmem j hj)))
    rw [show K+totD ((xs.map LedR.DA.d).take j)+3+2*(xs.getD j LedR.DA.zero).d.ls.length=K+totD ((xs.map LedR.DA.d).take (j+1)) by omega] at this
    exact this,fun j hj=>hl _ (List.mem_map_of_mem (hmem j hj)),fun j hj b q=>?_,fun i j hi hj hij b q q2=>?_⟩
  ·have e:(xs.map LedR.DA.d).take xs.length=xs.map LedR.DA.d:=by rw [←List.length_map (f:=LedR.DA.d),List.take_length]
   rw [e] at hv
   refine fun S Y hc hS=>(hv S Y hc (fun b q q2=>hS b q ?_)).mono (fun e w' q=>⟨q.1,q.2.1.wide ?_,fun S' Y' hc' hS'=>q.2.2 S' Y' hc' (fun b q q2=>hS' b q ?_)⟩)
   ·rcases q2 with rfl|⟨j,hj,q2⟩
    ·exact .inl rfl
    ·exact .inr ⟨_,hmem j hj,hob _ (hmem j hj) b q2⟩
   ·rintro b (rfl|⟨j,hj,q2⟩)
    ·exact .inl rfl
    ·exact .inr ⟨_,hmem j hj,hob _ (hmem j hj) b q2⟩
   ·rcases q2 with rfl|⟨j,hj,q2⟩
    ·exact .inl rfl
    ·exact .inr ⟨_,hmem j hj,hob _ (hmem j hj) b q2⟩
  ·have h9:=own_apart (h3 _ (hmem j hj)) h2 (by decide) b (hob _ (hmem j hj) b q)
   exact fun e=>h9 (by rw [e];rfl)
  ·exact pw_ix (z:=LedR.DA.zero) x4 (fun x y h b h1 h2=>h b h2 h1) hi hj hij b (hob _ (hmem i hi) b q) (hob _ (hmem j hj) b q2)
structure WA where
 x:WinR.Wd
 ta:Option Addr
 tc:Nat
 ha:Option Addr
 hc:Nat
def WA.cells (y:WA):List Value:=[.string y.x.a,.string y.x.m,.int .i64 y.x.mo,.int .i64 y.x.ev,.int .i64 y.x.su,.int .i64 y.x.mx,.slice y.ta y.x.ts.length y.tc,.slice y.ha y.x.hs.length y.hc]
theorem WA.len (y:WA):y.cells.length=8:=rfl
def WA.zero:WA:=⟨WinR.Wd.zero,none,0,none,0⟩
def WA.T (y:WA) (b:Nat):Prop:=Tm y.ta y.x.ts.length b∨Tm y.ha y.x.hs.length b
def WaO (lo:Nat) (y:WA) (W:World):Prop:=MadeG 1 WinR.tcells WinR.tz lo y.ta y.x.ts W∧MadeG 2 WinR.H.cells WinR.H.zero lo y.ha y.x.hs W∧∀b,Tm y.ta y.x.ts.length b→Tm y.ha y.x.hs.length b→False
theorem made_blk {α:Type} {k:Nat} {cells:α→List Value} {z:α} {lo:Nat} {a:Option Addr} {xs:List α} {W W':World} (h:MadeG k cells z lo a xs W) (hs:W.heap.size≤W'.heap.size) (hb:∀b,Tm a xs.length b→W'.heap[b]? = W.heap[b]?):MadeG k cells z lo a xs W':=by
 by_cases h0:xs.length=0
 ·exact ⟨.inl h0,.inl h0⟩
 ·rcases h.own with q|⟨g,rfl,hg,hp⟩
  ·exact absurd q h0
  have eb:=hb g ⟨h0,rfl⟩
  refine ⟨.inr ?_,.inr ⟨g,rfl,hg,pt_block hp hs eb⟩⟩
  rcases h.rws with q|⟨b,off,e,hl,hc⟩
  ·exact absurd q h0
  ·cases e
   exact ⟨g,0,rfl,Nat.lt_of_lt_of_le hl hs,fun j hj i hi=>(World.cell?_of_block (a:=⟨g,0+j*k+i,none⟩) eb).trans (hc j hj i hi)⟩
theorem made_lt {α:Type} {k:Nat} {cells:α→List Value} {z:α} {lo:Nat} {a:Option Addr} {xs:List α} {W:World} (h:MadeG k cells z lo a xs W) {b:Nat} (q:Tm a xs.length b):lo≤b∧b<W.heap.size:=by
 rcases h.own with q1|⟨g,rfl,hg,hp⟩
 ·exact absurd q1 q.1
 ·have:=q.2
  simp only [Option.some.injEq,Addr.mk.injEq,and_true] at this
  have:=hp.lt
  omega
theorem WaO.blk {lo:Nat} {y:WA} {W W':World} (h:WaO lo y W) (hs:W.heap.size≤W'.heap.size) (hb:∀b,y.T b→W'.heap[b]? = W.heap[b]?):WaO lo y W' :=
 ⟨made_blk h.1 hs (fun b q=>hb b (.inl q)),made_blk h.2.1 hs (fun b q=>hb b (.inr q)),h.2.2⟩
theorem WaO.lt {lo:Nat} {y:WA} {W:World} (h:WaO lo y W) {b:Nat} (q:y.T b):lo≤b∧b<W.heap.size:=q.elim (made_lt h.1) (made_lt h.2.1)
theorem WaO.below {lo:Nat} {y:WA} {W W':World} (h:WaO lo y W) (hb:Below W.heap.size W W'):WaO lo y W':=h.blk hb.size (fun b q=>hb.block b (h.lt q).2)
theorem WaO.low {lo lo':Nat} {y:WA} {W:World} (h:WaO lo y W) (hl:lo'≤lo):WaO lo' y W:=⟨h.1.low hl,h.2.1.low hl,h.2.2⟩
def WsQ (lo:Nat) (v:Value) (ws:List WinR.Wd) (W:World):Prop:=∃xs:List WA,xs.map WA.x=ws∧W.ownsRow lo 106 8 v ws.length (cellsAll WA.cells xs)∧(∀y∈xs,WaO lo y W)∧(∀y∈xs,∀b,y.T b→v.ownBlock≠some b)∧xs.Pairwise (fun x y=>∀b,x.T b→¬y.T b)
theorem wsq_nil (lo:Nat) (W:World):WsQ lo (.slice none 0 0) [] W:=⟨[],rfl,World.ownsRow_nil _ _ _ _,(fun x h=>absurd h (by simp)),(fun x h=>absurd h (by simp)),List.Pairwise.nil⟩
theorem WsQ.below {lo:Nat} {v:Value} {ws:List WinR.Wd} {W W':World} (h:WsQ lo v ws W) (hb:Below W.heap.size W W'):WsQ lo v ws W':=by
 obtain ⟨xs,h1,h2,h3,h4,h5⟩:=h
 exact ⟨xs,h1,RowG.own_below h2 hb,fun x hx=>(h3 x hx).below hb,h4,h5⟩
theorem cellsW_snoc (xs:List WA) (y:WA):cellsAll WA.cells (xs ++ [y])=cellsAll WA.cells xs++WA.cells y:=RowG.cellsAll_app xs y
theorem wsq_more {lo L:Nat} {v v':Value} {xs:List WA} {y:WA} {w2 w9:World} (h2:w2.ownsRow lo 106 8 v xs.length (cellsAll WA.cells xs)) (h3:∀y∈xs,WaO lo y w2) (h4:∀y∈xs,∀b,y.T b→v.ownBlock≠some b) (h5:xs.Pairwise (fun x y=>∀b,x.T b→¬y.T b))
 (hL:∀y∈xs,∀b,y.T b→b<L) (hL2:∀b,v.ownBlock=some b→b<L) (hy:WaO L y w2) (hlo:lo≤L)
 (hgrow:w2.grownBy w9 v.ownBlock) (hown:w9.ownsRow lo 106 8 v' (xs.length+1) (cellsAll WA.cells xs++WA.cells y)) (hnew:∀b,v'.ownBlock=some b→v.ownBlock=some b∨b=w2.heap.size):WsQ lo v' ((xs ++ [y]).map WA.x) w9:=by
 have hyb:∀b,y.T b→v.ownBlock≠some b:=fun b q e=>by have:=(hy.lt q).1;have:=hL2 b e;omega
 have hgr:∀z:WA,WaO lo z w2→(∀b,z.T b→v.ownBlock≠some b)→WaO lo z w9∧∀b,z.T b→v'.ownBlock≠some b:=fun z hz hn =>
  ⟨hz.blk hgrow.size (fun b q=>hgrow.block b (hz.lt q).2 (fun e=>hn b q e.symm)),fun b q e=>by
   rcases hnew b e with e|e
   ·exact hn b q e
   ·have:=(hz.lt q).2;omega⟩
 refine ⟨xs ++ [y],rfl,?_,?_,?_,?_⟩
 ·rw [cellsW_snoc,List.length_map,List.length_append]
  exact hown
 ·intro z hz
  rcases List.mem_append.1 hz with h|h
  ·exact (hgr z (h3 z h) (h4 z h)).1
  ·rw [List.mem_singleton] at h
   subst h
   exact (hgr _ (hy.low hlo) hyb).1
 ·intro z hz
  rcases List.mem_append.1 hz with h|h
  ·exact (hgr z (h3 z h) (h4 z h)).2
  ·rw [List.mem_singleton] at h
   subst h
   exact (hgr _ (hy.low hlo) hyb).2
 ·refine List.pairwise_append.2 ⟨h5,List.pairwise_singleton _ _,fun z hz z2 hz2=>?_⟩
  rw [List.mem_singleton] at hz2
  subst hz2
  intro b q1 q2
  have:=hL z hz b q1
  have:=(hy.lt q2).1
  omega
theorem WsQ.reads {lo:Nat} {v:Value} {ws:List WinR.Wd} {W:World} (h:WsQ lo v ws W):RWd ws v W:=by
 obtain ⟨xs,h1,h2,h3,_⟩:=h
 have hl:ws.length=xs.length:=by rw [←h1];simp
 rw [hl] at h2
 obtain ⟨ao,cap,rfl,hm⟩:=RowG.own_made (z:=WA.zero) WA.len h2
 refine ⟨ao,cap,by rw [hl],?_⟩
 rcases hm.rws with h0|⟨b,off,rfl,hb,hc⟩
 ·exact .inl (by omega)
 ·refine .inr ⟨b,off,rfl,hb,fun i hi=>?_⟩
  have hx:i<xs.length:=by omega
  have e:ws.getD i WinR.Wd.zero=(xs.getD i WA.zero).x:=by
   rw [←h1]
   simp [List.getD,hx]
  have hmem:=h3 _ (RowG.getD_mem (z:=WA.zero) xs i hx)
  have c:=hc i hx
  rw [e]
  generalize xs.getD i WA.zero=X at *
  exact ⟨X.ta,X.tc,X.ha,X.hc,c 0 (by omega),c 1 (by omega),c 2 (by omega),c 3 (by omega),c 4 (by omega),c 5 (by omega),c 6 (by omega),c 7 (by omega),hmem.1.rws,hmem.2.1.rws⟩
theorem totW_more {xs:List WA} {j:Nat} (h:j<xs.length):totW ((xs.map WA.x).take (j+1))=totW ((xs.map WA.x).take j)+6+(xs.getD j WA.zero).x.ts.length+2*(xs.getD j WA.zero).x.hs.length:=by
 rw [←List.map_take,←List.map_take,RowG.take_more (z:=WA.zero) xs j h]
 simp only [totW,List.map_append,List.sum_append,List.map_cons,List.map_nil,List.sum_cons,List.sum_nil]
 omega
theorem pc_wd {W:World} {lo:Nat} {v:Value} {ws:List WinR.Wd} (h:WsQ lo v ws W) (hn:ws.length≤1048576) (hl:∀x∈ws,x.ts.length≤1048576∧x.hs.length≤1048576):Pc (RWd ws) 41 96 (totW ws) lo W.heap.size v W:=by
 obtain ⟨xs,rfl,x2,x3,x4,x5⟩:=h
 rw [List.length_map] at x2 hn
 refine ⟨Nat.le_refl _,fun b=>v.ownBlock=some b∨∃y∈xs,y.T b,?_,fun W2 hs hb=>?_⟩
 ·rintro b (q|⟨y,hy,q⟩)
  ·exact x2.lt b q
  ·exact (x3 y hy).lt q
 have h2:=own_blk x2 hs (fun b q=>hb b (.inl q))
 have h3:∀y∈xs,WaO lo y W2:=fun y hy=>(x3 y hy).blk hs (fun b q=>hb b (.inr ⟨y,hy,q⟩))
 have hm:WsQ lo v (xs.map WA.x) W2:=⟨xs,rfl,by rw [List.length_map];exact h2,h3,x4,x5⟩
 refine ⟨hm.reads,fun K k1 k2=>?_⟩
 by_cases h0:xs.length=0
 ·obtain rfl:xs=[]:=List.length_eq_zero_iff.1 h0
  obtain ⟨a,c,rfl,_⟩:=RowG.own_made (z:=WA.zero) WA.len h2
  have:=mkh_wds0 K a c W2
  exact fun S Y hc hS=>(this S Y hc (fun _ _ q=>q)).mono (fun e w' q=>⟨q.1,q.2.1.wide (fun _ q=>q.elim),fun S' Y' hc' _=>q.2.2 S' Y' hc' (fun _ _ q=>q)⟩)
 ·obtain ⟨ao,cap,rfl,hmd⟩:=RowG.own_made (z:=WA.zero) WA.len h2
  rcases hmd.own with q|⟨g,rfl,hg,hp⟩
  ·exact absurd q h0
  have hrow:∀j,j<xs.length→∀x,x<8→W2.cell? ⟨g,j*8+x,none⟩=(WA.cells (xs.getD j WA.zero))[x]?:=fun j hj x hx=>by
   rcases hmd.rws with q|⟨b,off,e,_,hc⟩
   ·exact absurd q h0
   ·cases e
    have:=hc j hj x hx
    rw [Nat.zero_add] at this
    exact this
  have hmem:=fun j (hj:j<xs.length)=>RowG.getD_mem (z:=WA.zero) xs j hj
  have hln:=fun j (hj:j<xs.length)=>hl _ (List.mem_map_of_mem (f:=WA.x) (hmem j hj))
  have hkx:∀j,j<xs.length→K+totW ((xs.map WA.x).take j)+6+(xs.getD j WA.zero).x.ts.length+2*(xs.getD j WA.zero).x.hs.length=K+totW ((xs.map WA.x).take (j+1))∧K+totW ((xs.map WA.x).take (j+1))≤5300001:=fun j hj=>by
   have hb2:=totW_take (xs.map WA.x) (j+1)
   have hb3:=totW_more hj
   omega
  have hv:=WinR.mkh_wds_in g xs.length cap (fun j=>K+totW ((xs.map WA.x).take j)) (fun j=>K+totW ((xs.map WA.x).take j)+6+(xs.getD j WA.zero).x.ts.length) (fun j=>(xs.getD j WA.zero).ta) (fun j=>(xs.getD j WA.zero).x.ts.length) (fun j=>(xs.getD j WA.zero).tc) (fun j=>(xs.getD j WA.zero).ha) (fun j=>(xs.getD j WA.zero).x.hs.length) (fun j=>(xs.getD j WA.zero).hc) (fun j=>Tm (xs.getD j WA.zero).ta (xs.getD j WA.zero).x.ts.length) (fun j=>Tm (xs.getD j WA.zero).ha (xs.getD j WA.zero).x.hs.length) W2 hn
   ⟨hp,fun j hj=>⟨hrow j hj 6 (by omega),hrow j hj 7 (by omega)⟩,fun j hj=>⟨by omega,by have:=totW_take (xs.map WA.x) j;omega⟩,
    fun j hj=>mkh_tg (lo:=lo) (h3 _ (hmem j hj)).1.own (by omega) (by have:=hkx j hj;omega) (hln j hj).1,fun j hj=>(hln j hj).1,
    fun j hj=>by
     have:=mkh_hr (w:=W2) (lo:=lo) (c:=(xs.getD j WA.zero).hc) (h3 _ (hmem j hj)).2.1.own (K:=K+totW ((xs.map WA.x).take j)+6+(xs.getD j WA.zero).x.ts.length) (by omega) (by have:=hkx j hj;omega) (hln j hj).2
     rw [(hkx j hj).1] at this
     exact this,fun j hj=>(hln j hj).2,fun j hj b q e=>x4 _ (hmem j hj) b q (by rw [e];rfl),fun i j hi hj hij b q q2=>pw_ix (z:=WA.zero) x5 (fun x y h b h1 h2=>h b h2 h1) hi hj hij b q q2,fun j hj b q q2=>(h3 _ (hmem j hj)).2.2 b q q2⟩
  have e:(xs.map WA.x).take xs.length=xs.map WA.x:=by rw [←List.length_map (f:=WA.x),List.take_length]
  rw [e] at hv
  refine fun S Y hc hS=>(hv S Y hc (fun b q q2=>hS b q ?_)).mono (fun e w' q=>⟨q.1,q.2.1.wide ?_,fun S' Y' hc' hS'=>q.2.2 S' Y' hc' (fun b q q2=>hS' b q ?_)⟩)
  ·rcases q2 with rfl|⟨j,hj,q2⟩
   ·exact .inl rfl
   ·exact .inr ⟨_,hmem j hj,q2⟩
  ·rintro b (rfl|⟨j,hj,q2⟩)
   ·exact .inl rfl
   ·exact .inr ⟨_,hmem j hj,q2⟩
  ·rcases q2 with rfl|⟨j,hj,q2⟩
   ·exact .inl rfl
   ·exact .inr ⟨_,hmem j hj,q2⟩
end EngR
namespace EngR
open OwG CatR ChG DocR
open RowG (cellsAll grown_set MadeG Rws)
open EvtR (Pt)
def RCa (c:Ca) (v:Value) (W:World):Prop:=∃ma mc ca cc,v=.agg #[.slice ma c.ms.length mc,.slice ca c.cs.length cc]∧Mes ma c.ms.length c.ms W∧Crs ca c.cs.length c.cs W
theorem Pc.mkh {R:Value→World→Prop} {mf hf tot lo hi:Nat} {v:Value} {W:World} (h:Pc R mf hf tot lo hi v W):∃T:Nat→Prop,(∀b,T b→lo≤b∧b<hi)∧∀K,1≤K→K+tot≤5300001→MkH mf hf v K (K+tot) T W:=by
 obtain ⟨_,T,h1,h2⟩:=h
 exact ⟨T,h1,(h2 W (Nat.le_refl _) (fun _ _=>rfl)).2⟩
theorem pc_ca {W:World} {lo:Nat} {vm:Value} {va:Option Addr} {cp:Nat} {c:Ca} (h:MsO lo vm c.ms W) (hc:W.ownsRow lo 151 2 (.slice va c.cs.length cp) c.cs.length (cellsAll Cr.cells c.cs)) (hn:c.ms.length≤1048576) (hl:∀m∈c.ms,m.ts.length≤1048576) (hk:c.cs.length≤1048576) :
 ∃ma mc,vm=.slice ma c.ms.length mc∧Pc (RCa c) 38 93 (totM c.ms+2*c.cs.length) lo W.heap.size (.agg #[.slice ma c.ms.length mc,.slice va c.cs.length cp]) W:=by
 obtain ⟨ms,cs⟩:=c
 dsimp only at *
 obtain ⟨lim,ys,rfl,x2,x3,x4,x5⟩:=h
 rw [List.length_map] at x2 hn
 obtain ⟨ma,mc,rfl,_⟩:=RowG.own_made (z:=MA.zero) MA.len x2
 refine ⟨ma,mc,by rw [List.length_map],?_⟩
 rw [List.length_map]
 refine ⟨Nat.le_refl _,fun b=>TMs (.slice ma ys.length mc) ys b∨T1 (.slice va cs.length cp) b,?_,fun W2 hs hb=>?_⟩
 ·rintro b ((q|⟨y,hy,q⟩)|q)
  ·exact x2.lt b q
  ·exact (x3 y hy).lt b q
  ·exact hc.lt b q
 ·have h2:=own_blk x2 hs (fun b q=>hb b (.inl (.inl q)))
  have h3:∀x∈ys,TnO lo x W2:=fun x hx=>own_blk (x3 x hx) hs (fun b q=>hb b (.inl (.inr ⟨x,hx,q⟩)))
  have h4:=own_blk hc hs (fun b q=>hb b (.inr q))
  have hm:MsO lo (.slice ma ys.length mc) (ys.map MA.m) W2:=⟨lim,ys,rfl,by rw [List.length_map];exact h2,h3,x4,x5⟩
  obtain ⟨ma',mc',e,hme⟩:=hm.mes
  rw [List.length_map] at e
  cases e
  refine ⟨⟨ma,mc,va,cp,by rw [List.length_map],hme,own_crsT h4 rfl⟩,fun K k1 k2=>?_⟩
  have k3:=mkh_cat ma ys.length mc va cs.length cp K (K+totM (ys.map MA.m)) (K+totM (ys.map MA.m)+2*cs.length) _ _ W2 (mkh_mes k1 hn (fun y hy=>hl _ (List.mem_map_of_mem hy)) (by omega) h2 h3 x4) (mkh_cred h4 (by omega) (by omega) hk) (by
   rintro b ((q|⟨y,hy,q⟩)|q)
   ·exact (h2.lt b q).2
   ·exact ((h3 y hy).lt b q).2
   ·exact (h4.lt b q).2) (by
   rintro b (q|⟨y,hy,q⟩) q2
   ·exact own_apart h4 h2 (by decide) b q2 q.symm
   ·exact own_apart h4 (h3 y hy) (by decide) b q2 q.symm)
  rw [Nat.add_assoc] at k3
  exact k3
def totE (x:Eng):Nat:=totM x.c.ms+2*x.c.cs.length+2*x.ss.length+3*x.es.length+totW x.ws+totD x.ds
def EgQ (x:Eng) (lo hi:Nat) (v:Value) (W:World):Prop:=∃ma mc ca cc sa sc ea ec ua uc da dc l1 h1 l2 h2 l3 h3 l4 h4 l5 h5,v=.agg (ecells x ma mc ca cc sa sc ea ec ua uc da dc)∧Pc (RCa x.c) 38 93 (totM x.c.ms+2*x.c.cs.length) l1 h1 (.agg #[.slice ma x.c.ms.length mc,.slice ca x.c.cs.length cc]) W∧Pc (RCr x.ss) 39 94 (2*x.ss.length) l2 h2 (.slice sa x.ss.length sc) W∧Pc (REn x.es) 40 95 (3*x.es.length) l3 h3 (.slice ea x.es.length ec) W∧Pc (RWd x.ws) 41 96 (totW x.ws) l4 h4 (.slice ua x.ws.length uc) W∧Pc (RDc x.ds) 42 44 (totD x.ds) l5 h5 (.slice da x.ds.length dc) W ∧
 lo≤l1∧l1≤h1∧h1≤l2∧l2≤h2∧h2≤l3∧l3≤h3∧h3≤l4∧l4≤h4∧h4≤l5∧l5≤h5∧h5≤hi
theorem EgQ.keep {x:Eng} {lo hi:Nat} {v:Value} {W W':World} (h:EgQ x lo hi v W) (hs:W.heap.size≤W'.heap.size) (hb:∀b,lo≤b→b<hi→W'.heap[b]? = W.heap[b]?):EgQ x lo hi v W':=by
 obtain ⟨ma,mc,ca,cc,sa,sc,ea,ec,ua,uc,da,dc,l1,h1,l2,h2,l3,h3,l4,h4,l5,h5,e,p1,p2,p3,p4,p5,q0,q1,q2,q3,q4,q5,q6,q7,q8,q9,qa⟩:=h
 exact ⟨ma,mc,ca,cc,sa,sc,ea,ec,ua,uc,da,dc,l1,h1,l2,h2,l3,h3,l4,h4,l5,h5,e,p1.keep hs (fun b r1 r2=>hb b (by omega) (by omega)),p2.keep hs (fun b r1 r2=>hb b (by omega) (by omega)),p3.keep hs (fun b r1 r2=>hb b (by omega) (by omega)),p4.keep hs (fun b r1 r2=>hb b (by omega) (by omega)),p5.keep hs (fun b r1 r2=>hb b (by omega) (by omega)),q0,q1,q2,q3,q4,q5,q6,q7,q8,q9,qa⟩
theorem EgQ.eng {x:Eng} {lo hi:Nat} {v:Value} {W:World} (h:EgQ x lo hi v W):IsEng v x W:=by
 obtain ⟨ma,mc,ca,cc,sa,sc,ea,ec,ua,uc,da,dc,l1,h1,l2,h2,l3,h3,l4,h4,l5,h5,e,p1,p2,p3,p4,p5,_⟩:=h
 obtain ⟨a1,c1,a2,c2,e1,r1,r2⟩:=p1.reads
 obtain ⟨a3,c3,e3,r3⟩:=p2.reads
 obtain ⟨a4,c4,e4,r4⟩:=p3.reads
 obtain ⟨a5,c5,e5,r5⟩:=p4.reads
 obtain ⟨a6,c6,e6,r6⟩:=p5.reads
 cases e1
 cases e3
 cases e4
 cases e5
 cases e6
 exact ⟨ma,mc,ca,cc,sa,sc,ea,ec,ua,uc,da,dc,e,r1,r2,r3,r4,r5,r6⟩
theorem EgQ.marked {x:Eng} {lo hi:Nat} {v:Value} {W:World} (h:EgQ x lo hi v W) (hh:hi≤W.heap.size) (ht:1+totE x≤5300001):∃T:Nat→Prop,(∀b,T b→lo≤b∧b<hi)∧MkH 10 43 v 1 (1+totE x) T W:=by
 obtain ⟨ma,mc,ca,cc,sa,sc,ea,ec,ua,uc,da,dc,l1,h1,l2,h2,l3,h3,l4,h4,l5,h5,rfl,p1,p2,p3,p4,p5,q0,q1,q2,q3,q4,q5,q6,q7,q8,q9,qa⟩:=h
 obtain ⟨T1,t1,m1⟩:=p1.mkh
 obtain ⟨T2,t2,m2⟩:=p2.mkh
 obtain ⟨T3,t3,m3⟩:=p3.mkh
 obtain ⟨T4,t4,m4⟩:=p4.mkh
 obtain ⟨T5,t5,m5⟩:=p5.mkh
 unfold totE at ht ⊢
 have n1:=m1 1 (by omega) (by omega)
 have n2:=m2 (1+(totM x.c.ms+2*x.c.cs.length)) (by omega) (by omega)
 have n3:=m3 (1+(totM x.c.ms+2*x.c.cs.length)+2*x.ss.length) (by omega) (by omega)
 have n4:=m4 (1+(totM x.c.ms+2*x.c.cs.length)+2*x.ss.length+3*x.es.length) (by omega) (by omega)
 have n5:=m5 (1+(totM x.c.ms+2*x.c.cs.length)+2*x.ss.length+3*x.es.length+totW x.ws) (by omega) (by omega)
 have hm:=mkh_eng ma _ mc ca _ cc sa _ sc ea _ ec ua _ uc da _ dc x.fr _ _ _ _ _ _ T1 T2 T3 T4 T5 W n1 n2 n3 n4 n5
  (by
   rintro b (q|q|q|q|q)
   ·have:=t1 b q;omega
   ·have:=t2 b q;omega
   ·have:=t3 b q;omega
   ·have:=t4 b q;omega
   ·have:=t5 b q;omega)
  (fun b q r=>by have:=t1 b q;have:=t2 b r;omega) (fun b q r=>by have:=t1 b q;have:=t3 b r;omega) (fun b q r=>by have:=t1 b q;have:=t4 b r;omega) (fun b q r=>by have:=t1 b q;have:=t5 b r;omega)
  (fun b q r=>by have:=t2 b q;have:=t3 b r;omega) (fun b q r=>by have:=t2 b q;have:=t4 b r;omega) (fun b q r=>by have:=t2 b q;have:=t5 b r;omega) (fun b q r=>by have:=t3 b q;have:=t4 b r;omega) (fun b q r=>by have:=t3 b q;have:=t5 b r;omega) (fun b q r=>by have:=t4 b q;have:=t5 b r;omega)
 refine ⟨fun b=>T1 b∨T2 b∨T3 b∨T4 b∨T5 b,?_,?_⟩
 rotate_left
 ·rw [show 1+(totM x.c.ms+2*x.c.cs.length+2*x.ss.length+3*x.es.length+totW x.ws+totD x.ds)=1+(totM x.c.ms+2*x.c.cs.length)+2*x.ss.length+3*x.es.length+totW x.ws+totD x.ds by omega]
  exact hm
 ·rintro b (q|q|q|q|q)
  ·have:=t1 b q;omega
  ·have:=t2 b q;omega
  ·have:=t3 b q;omega
  ·have:=t4 b q;omega
  ·have:=t5 b q;omega
def eoV (x:Eng) (cd:Int) (ma:Option Addr) (mc:Nat) (ca:Option Addr) (cc:Nat) (sa:Option Addr) (sc:Nat) (ea:Option Addr) (ec:Nat) (ua:Option Addr) (uc:Nat) (da:Option Addr) (dc:Nat):Value:=.agg #[.slice ma x.c.ms.length mc,.slice ca x.c.cs.length cc,.slice sa x.ss.length sc,.slice ea x.es.length ec,.slice ua x.ws.length uc,.slice da x.ds.length dc,.int .i64 x.fr,.int .i64 0,.int .i64 0,.int .i64 0,.int .i64 0,.int .i64 0,.slice none 0 0,.int .i64 cd]
def EoR (D:Eng × Int) (v:Value) (W:World):Prop:=∃ma mc ca cc sa sc ea ec ua uc da dc,v=eoV D.1 D.2 ma mc ca cc sa sc ea ec ua uc da dc∧IsEng (.agg (ecells D.1 ma mc ca cc sa sc ea ec ua uc da dc)) D.1 W
theorem EoR.below {D:Eng × Int} {v:Value} {W W':World} (h:EoR D v W) (hb:Below W.heap.size W W'):EoR D v W':=by
 obtain ⟨ma,mc,ca,cc,sa,sc,ea,ec,ua,uc,da,dc,e,h⟩:=h
 exact ⟨ma,mc,ca,cc,sa,sc,ea,ec,ua,uc,da,dc,e,h.below hb⟩
theorem EoR.shape {D:Eng × Int} {v:Value} {W:World} (h:EoR D v W):∃(a:Option Addr) (an ac:Nat) (b:Option Addr) (bn bc:Nat) (c:Option Addr) (cn cc:Nat) (d:Option Addr) (dn dc:Nat) (e:Option Addr) (en ec:Nat) (f:Option Addr) (fn fc:Nat) (g t0 t1 t2 t3 t4:Int) (h:Option Addr) (hn hc:Nat) (z:Int),v=.agg #[.slice a an ac,.slice b bn bc,.slice c cn cc,.slice d dn dc,.slice e en ec,.slice f fn fc,.int .i64 g,.int .i64 t0,.int .i64 t1,.int .i64 t2,.int .i64 t3,.int .i64 t4,.slice h hn hc,.int .i64 z]:=by
 obtain ⟨ma,mc,ca,cc,sa,sc,ea,ec,ua,uc,da,dc,e,h⟩:=h
 exact ⟨_,_,_,_,_,_,_,_,_,_,_,_,_,_,_,_,_,_,_,_,_,_,_,_,_,_,_,_,e⟩
theorem eqEo {D:Eng × Int} {v v':Value} {w:World} (hS:D.1.Small) (h:EoR D v w) (h':EoR D v' w):Calls Tryz.prog 8 #[v,v'] w fun e w'=>e=.returned (.bool true)∧Below w.heap.size w w':=by
 obtain ⟨ma,mc,ca,cc,sa,sc,ea,ec,ua,uc,da,dc,rfl,h⟩:=h
 obtain ⟨ma',mc',ca',cc',sa',sc',ea',ec',ua',uc',da',dc',rfl,h'⟩:=h'
 exact eqEout ma ma' _ mc mc' ca ca' _ cc cc' sa sa' _ sc sc' ea ea' _ ec ec' ua ua' _ uc uc' da da' _ dc dc' none none 0 0 0 D.1.fr 0 0 0 0 0 D.2 w (fun W hW=>eqEngA _ _ D.1 W hS (h.below hW) (h'.below hW)) (fun W hW=>eqCnt 0 0 0 0 0 W) (fun W hW=>eqDcs0 none none 0 0 W)
def EoQ (D:Eng × Int) (lo:Nat) (v:Value) (W:World):Prop:=∃ma mc ca cc sa sc ea ec ua uc da dc hi,v=eoV D.1 D.2 ma mc ca cc sa sc ea ec ua uc da dc∧hi≤W.heap.size∧EgQ D.1 lo hi (.agg (ecells D.1 ma mc ca cc sa sc ea ec ua uc da dc)) W
theorem EoQ.kq {D:Eng × Int} {lo:Nat} {v:Value} {W W':World} (h:EoQ D lo v W) (hk:Kq lo W W'):EoQ D lo v W':=by
 obtain ⟨ma,mc,ca,cc,sa,sc,ea,ec,ua,uc,da,dc,hi,e,hh,h⟩:=h
 exact ⟨ma,mc,ca,cc,sa,sc,ea,ec,ua,uc,da,dc,hi,e,Nat.le_trans hh hk.size,h.keep hk.size (fun b q1 q2=>hk.block b q1 (by omega))⟩
theorem EoQ.reads {D:Eng × Int} {lo:Nat} {v:Value} {W:World} (h:EoQ D lo v W):EoR D v W:=by
 obtain ⟨ma,mc,ca,cc,sa,sc,ea,ec,ua,uc,da,dc,hi,e,hh,h⟩:=h
 exact ⟨ma,mc,ca,cc,sa,sc,ea,ec,ua,uc,da,dc,e,h.eng⟩
theorem markEo {D:Eng × Int} (ht:1+totE D.1≤5300001) {b:Nat} {v:Value} {Wt W:World} (h:EoQ D b v Wt) (hk:Kq b Wt W) :
 Calls Tryz.prog 11 #[v,.int .i64 1] W fun e w'=>∃KK:Nat,e=.returned (.int .i64 KK)∧Chg (fun x=>b≤x∧x<Wt.heap.size) W w' ∧
  ∀w2,Below w'.heap.size w' w2→Calls Tryz.prog 12 #[v,.int .i64 1] w2 fun e w3=>e=.returned (.int .i64 KK)∧Below w2.heap.size w2 w3:=by
 obtain ⟨ma,mc,ca,cc,sa,sc,ea,ec,ua,uc,da,dc,hi,rfl,hh,h⟩:=h
 have hsz:=hk.size
 obtain ⟨T,hT,hm⟩:=(h.keep hsz (fun b q1 q2=>hk.block b q1 (by omega))).marked (by omega) ht
 have hout:=mkh_eout ma _ mc ca _ cc sa _ sc ea _ ec ua _ uc da _ dc none 0 0 D.1.fr 0 0 0 0 0 D.2 1 _ _ T _ W hm (mkh_dcs0 _ none 0 W)
  (by
   rintro b (q|q)
   ·have:=(hT b q).2;omega
   ·exact q.elim)
  (fun b _ q=>q)
 refine (hout (fun _=>False) W (Chg.refl _ _) (fun b q=>q.elim)).mono ?_
 rintro e w' ⟨rfl,h1,h2⟩
 refine ⟨_,rfl,h1.wide ?_,fun w2 hb=>h2 (fun _=>False) w2 (Chg.of_below hb) (fun b q=>q.elim)⟩
 rintro b (q|q)
 ·have:=hT b q;omega
 ·exact q.elim
end EngR
namespace LedR
open LinR DocR NetR
open RowG
theorem lis_src {la:Option Addr} {L:List N} {w:World} (h:Lis la L w):∀W,Below w.heap.size w W→(L.length=0∨∃ad,la=some ad∧∀j u,(cellsAll N.cells L)[j]? = some u→W.cell? (ad.add j)=some u):=by
 intro W hW
 rcases h.below hW with h0|⟨b,off,rfl,hb,hc⟩
 ·exact .inl h0
 ·refine .inr ⟨⟨b,off,none⟩,rfl,fun j u hj=>?_⟩
  have h1:=rws_sub (i:=0) (n:=L.length) N.len (.inr ⟨b,off,rfl,hb,hc⟩:RowG.Rws 2 N.cells N.zero (some ⟨b,off,none⟩) L W) j u (by simpa using hj)
  rw [Nat.zero_mul,Nat.add_zero] at h1
  exact h1
theorem sdoc (d:D) (la:Option Addr) (lc:Nat) (w:World) (hlen:d.ls.length≤1048576) (hI:Lis la d.ls w) :
 Calls Tryz.prog 114 #[.agg #[.string d.a,.int .i64 d.mo,.int .i64 d.sq,.slice la d.ls.length lc]] w fun e w'=>∃ao cap,e=.returned (.agg #[.string d.a,.int .i64 d.mo,.int .i64 d.sq,.slice ao d.ls.length cap])∧w'.ownsRow w.heap.size 209 2 (.slice ao d.ls.length cap) d.ls.length (cellsAll N.cells d.ls)∧Below w.heap.size w w':=by
 obtain ⟨a,mo,sq,ls⟩:=d
 dsimp only at *
 obtain ⟨i0,hi,hz0,hz1,hz2⟩:=info_parts infoN
 have HI:=H_ (lis_src hI)
 have HO1:=H_ (lis_one ls)
 have HLC:Hid ((cellsAll N.cells ls).length=ls.length*2):=H_ (by rw [cellsAll_len N.len])
 have HOM:=H_ (fun (W:World) base v (h:W.ownsRow base 209 2 v ls.length (cellsAll N.cells ls))=>RowG.own_made (z:=N.zero) N.len h)
 generalize cellsAll N.cells ls=C at *
 obtain ⟨len,hl⟩:∃len,len=ls.length:=⟨_,rfl⟩
 rw [←hl] at HI HLC HOM hlen ⊢
 obtain ⟨W0,hW0⟩:∃W0,W0=((w.alloc (.cells #[.string a,.int .i64 mo,.int .i64 sq,.slice la len lc] 122)).alloc (.cells #[.string ⟨#[]⟩,.int .i64 0,.int .i64 0,.slice none 0 0] 122)).alloc (.cells #[] 209):=⟨_,rfl⟩
 have HB0:Hid (Below w.heap.size w W0):=H_ (by rw [hW0];exact ((al_ _ _).alloc (by simp) _).alloc (by simp;omega) _)
 have HV0:Hid (BlkW w.heap.size [.string a,.int .i64 mo,.int .i64 sq,.slice la len lc] W0):=H_ (by rw [hW0];exact ((BlkW.new w [.string a,.int .i64 mo,.int .i64 sq,.slice la len lc] 122).below (al_ _ _)).below (al_ _ _))
 have HR0:Hid (BlkW (w.heap.size+1) [.string ⟨#[]⟩,.int .i64 0,.int .i64 0,.slice none 0 0] W0):=H_ (by
  rw [hW0]
  have:=(BlkW.new (w.alloc (.cells #[.string a,.int .i64 mo,.int .i64 sq,.slice la len lc] 122)) [.string ⟨#[]⟩,.int .i64 0,.int .i64 0,.slice none 0 0] 122).below ((Below.refl _ _).alloc (Nat.le_refl _) (.cells #[] 209))
  simpa using this)
 have HE0:Hid (W0.ownsRow (w.heap.size+2) 209 2 (.slice (some ⟨w.heap.size+1+1,0,none⟩) 0 0) 0 []):=H_ (by
  rw [hW0]
  have:=own_empty ((w.alloc (.cells #[.string a,.int .i64 mo,.int .i64 sq,.slice la len lc] 122)).alloc (.cells #[.string ⟨#[]⟩,.int .i64 0,.int .i64 0,.slice none 0 0] 122)) (w.heap.size+2) 209 2 (by simp)
  simpa using this)
 have hS0:W0.heap.size=w.heap.size+3:=by rw [hW0];simp
 have HW:=H_ hW0
 have HSZ:=H_ hS0
 clear hI hl hW0 hS0
 go_enter Tryz.func114,Tryz.ntmps114
 go_wp2_with (at_builtin;rw [←HW.out];refine RowG.wpList_append_whole _ rfl _ _ 120 rfl (w.heap.size+2) 209 i0 (.agg #[.string ⟨#[]⟩,.int .i64 0]) 2 24 Tryz.underlying120 hi hz0 hz1 hz2 rfl (by decide) (w.heap.size+1+1) rfl HE0.out la len lc C rfl HLC.out (HI.out _ HB0.out) HO1.out (by unfold maxLen;omega) (by omega) (by rw [HSZ.out];omega) ?_)
 intro v1 w2 hown hgrow hne
 have HB2:=H_ (HB0.out.grown hgrow HB0.out.size (fun k e=>by simp only [Option.some.injEq] at e;omega))
 have HV2:=H_ (OwG.blkW_grown HV0.out hgrow (by simp only [ne_eq,Option.some.injEq];omega))
 have HR2:=H_ (OwG.blkW_grown HR0.out hgrow (by simp only [ne_eq,Option.some.injEq];omega))
 obtain ⟨ao,cap,rfl,-⟩:=HOM.out w2 _ v1 hown
 have HOF:=H_ (own_low (OwG.own_keepG (OwG.own_keepG hown (RowG.grown_set w2 w.heap.size 3 (.slice ao len cap)) (by omega)) (StR.stL_grown (w.heap.size+1) [.string a,.int .i64 mo,.int .i64 sq,.slice ao len cap] 0 _) (by omega)) (show w.heap.size≤w.heap.size+2 by omega))
 have HBF:=H_ ((HB2.out.setCell (p:=⟨w.heap.size,3,none⟩) (Nat.le_refl _) (.slice ao len cap)).grown (StR.stL_grown (w.heap.size+1) [.string a,.int .i64 mo,.int .i64 sq,.slice ao len cap] 0 _) (by have:=HB2.out.size;simpa using this) (fun k h=>by cases h;omega))
 simp only [StR.stL,Nat.zero_add,Nat.reduceAdd] at HOF HBF
 have l1:=HV2.out.1.1
 have l2:=HR2.out.1.1
 have f3:=HV2.out.2 3 (by simp)
 have c0:=HV2.out.1.2 0 (by simp)
 have c1:=HV2.out.1.2 1 (by simp)
 have c2:=HV2.out.1.2 2 (by simp)
 have c3:=HV2.out.1.2 3 (by simp)
 have r0:=HR2.out.1.2 0 (by simp)
 have r1:=HR2.out.1.2 1 (by simp)
 have r2:=HR2.out.1.2 2 (by simp)
 have r3:=HR2.out.1.2 3 (by simp)
 have g0:=HR2.out.2 0 (by simp)
 have g1:=HR2.out.2 1 (by simp)
 have g2:=HR2.out.2 2 (by simp)
 have g3:=HR2.out.2 3 (by simp)
 simp only [List.getElem?_cons_zero,List.getElem?_cons_succ] at c0 c1 c2 c3 r0 r1 r2 r3
 clear hown hgrow hne
 go_wp2_with fail
 refine bodyPost_ret (v:=.agg #[.string a,.int .i64 mo,.int .i64 sq,.slice ao len cap]) (by simp [results,Tryz.results114,go_sem,r0,r1,r2,r3]) rfl ⟨ao,cap,rfl,HOF.out,HBF.out⟩
end LedR
namespace LedR
open LinR DocR NetR OwG
open RowG (cellsAll cellsAll_len H_ take_more)
theorem dso_snoc {base:Nat} {v v':Value} {xs:List DA} {ds:List D} {d:D} {la:Option Addr} {lc:Nat} {w2 w9:World} (hds:xs.map DA.d=ds) (hLn:∀x∈xs,LnO base x w2) (hPw:xs.Pairwise Apt) (hn:LnO base ⟨d,la,lc⟩ w2) (hap:∀x∈xs,Apt x ⟨d,la,lc⟩)
 (hO:w2.ownsRow base 122 4 v ds.length (cellsAll DA.cells xs)) (hgrow:w2.grownBy w9 v.ownBlock)
 (hown:w9.ownsRow base 122 4 v' (ds.length+1) (cellsAll DA.cells xs ++ [.string d.a,.int .i64 d.mo,.int .i64 d.sq,.slice la d.ls.length lc])) :
 (xs ++ [(⟨d,la,lc⟩:DA)]).map DA.d=ds ++ [d]∧w9.ownsRow base 122 4 v' (ds ++ [d]).length (cellsAll DA.cells (xs ++ [(⟨d,la,lc⟩:DA)]))∧(∀x∈xs ++ [(⟨d,la,lc⟩:DA)],LnO base x w9)∧(xs ++ [(⟨d,la,lc⟩:DA)]).Pairwise Apt:=by
 have hk:∀x:DA,LnO base x w2→LnO base x w9:=fun x hx=>hx.grown hgrow (own_apart hx hO (by decide))
 refine ⟨by rw [List.map_append,hds];rfl,?_,?_,?_⟩
 ·rw [cellsAll_snoc,List.length_append]
  exact hown
 ·intro x hx
  rcases List.mem_append.1 hx with h|h
  ·exact hk x (hLn x h)
  ·rw [List.mem_singleton] at h
   subst h
   exact hk _ hn
 ·refine List.pairwise_append.2 ⟨hPw,List.pairwise_singleton _ _,fun x hx y hy=>?_⟩
  rw [List.mem_singleton] at hy
  subst hy
  exact hap x hx
theorem new_cells4 (W:World) (cs:List Value) (T:TypeId):∀(j:Nat) u,cs[j]? = some u→(W.alloc (.cells cs.toArray T)).cell? ((⟨W.heap.size,0,none⟩:Addr).add j)=some u:=by
 intro j u hx
 have hb:=(BlkW.new W cs T).1
 rw [Addr.add_lit,Nat.zero_add,hb.2 j (List.getElem?_eq_some_iff.1 hx).1]
 exact hx
theorem scopy (ao:Option Addr) (cap:Nat) (ds:List D) (w:World) (hlen:ds.length≤1048575) (hL:∀d∈ds,d.ls.length≤1048576) (hI:Dcs ao ds w) :
 Calls Tryz.prog 61 #[.slice ao ds.length cap] w fun e w'=>∃v,e=.returned v∧DsO w.heap.size v ds w'∧Below w.heap.size w w':=by
 obtain ⟨i0,hi,hz0,hz1,hz2⟩:=info_parts infoD
 have HI:=H_ hI
 have HL:=H_ hL
 obtain ⟨len,hl⟩:∃len,len=ds.length:=⟨_,rfl⟩
 have HLN:=H_ hl
 have HEND:Hid (ds.take len=ds):=H_ (by rw [hl];exact List.take_length)
 rw [←hl] at hlen ⊢
 have HE0:=H_ (own_empty w w.heap.size 122 4 (Nat.le_refl _))
 clear hI hL hl
 go_enter Tryz.func61,Tryz.ntmps61
 go_wp2_with fail
 go_loopw [3,4] (fun v z wr=>∃k:Nat,k≤len∧z=.int .i64 k∧Hid (DsO w.heap.size v (ds.take k) wr)∧Hid (Below w.heap.size w wr)) (fun v z _=>len-(intOf z).toNat)
 case atStart=>exact ⟨0,by omega,rfl,H_ ⟨[],rfl,HE0.out,(fun x h=>by cases h),List.Pairwise.nil⟩,H_ (al_ _ _)⟩
 case round =>
  obtain ⟨k,hk,rfl,HO,HB⟩:=hrel
  by_cases hlt:k<len
  ·have hlt2:(k:Int)<(len:Int):=by omega
   have hkl:k<ds.length:=by have:=HLN.out;omega
   obtain ⟨b,off,la,lc,rfl,hbl,c0,c1,c2,c3,hLi⟩:=(HI.out.below HB.out).at k hkl
   have hdl:=HL.out _ (RowG.getD_mem (z:=D.zero) ds k hkl)
   have HT:=H_ (take_more (z:=D.zero) ds k hkl)
   have HDK:Hid ((ds.take k).length=k):=H_ (by rw [List.length_take];omega)
   generalize ds.getD k D.zero=X at *
   obtain ⟨xs,hx1,hx2,hx3,hx4⟩:=HO.out
   have HX1:=H_ hx1
   have HX2:=H_ hx2
   have HX3:=H_ hx3
   have HX4:=H_ hx4
   have HSD:=H_ (fun W (hb:Below wr.heap.size wr W)=>sdoc X la lc W hdl (hLi.below hb))
   obtain ⟨a,mo,sq,ls⟩:=X
   dsimp only at c0 c1 c2 c3 HSD hdl
   obtain ⟨nl,hnl⟩:∃nl,nl=ls.length:=⟨_,rfl⟩
   rw [←hnl] at c3 HSD hdl
   have HNL:=H_ hnl
   clear hx1 hx2 hx3 hx4 hLi hnl HO
   go_wp2_with fail
   refine (HSD.out _ (Below.refl _ _)).mono ?_
   rintro e w1 ⟨no,nc,rfl,hnew,hb1⟩
   have HN1:=H_ hnew
   have HB1:=H_ hb1
   have HS1:Hid (w.heap.size≤wr.heap.size):=H_ HB.out.size
   obtain ⟨w2,hw2⟩:∃z,z=w1.alloc (.cells #[.string a,.int .i64 mo,.int .i64 sq,.slice no nl nc] 122):=⟨_,rfl⟩
   have al:Below w1.heap.size w1 w2:=by rw [hw2];exact (Below.refl _ _).alloc (Nat.le_refl _) _
   have HAL:=H_ al
   have HO2:=H_ (RowG.own_below (RowG.own_below HX2.out hb1) al)
   have HNW:Hid (∀j u,([.string a,.int .i64 mo,.int .i64 sq,.slice no nl nc]:List Value)[j]? = some u→w2.cell? ((⟨w1.heap.size,0,none⟩:Addr).add j)=some u):=H_ (by rw [hw2];exact new_cells4 w1 [.string a,.int .i64 mo,.int .i64 sq,.slice no nl nc] 122)
   have HS2:Hid (w.heap.size≤w2.heap.size):=H_ (by have:=al.size;have:=hb1.size;have:=HB.out.size;omega)
   have HW2:=H_ hw2
   have HDO:Hid (∀u∈([.string a,.int .i64 mo,.int .i64 sq,.slice no nl nc]:List Value),u.oneCell'=true):=H_ (by intro u hu;simp at hu;rcases hu with rfl|rfl|rfl|rfl<;>rfl)
   rw [HDK.out] at HO2
   have hsz1:k+1≤maxLen:=by unfold maxLen;omega
   have hsz2:(k+1)*56≤140737488355328:=by omega
   clear hnew hb1 al hw2 HSD
   go_wp2_with (at_builtin;rw [←HW2.out];refine wpList_append_own _ rfl _ _ 40 rfl w.heap.size 122 i0 (.agg #[.string ⟨#[]⟩,.int .i64 0,.int .i64 0,.slice none 0 0]) 4 56 Tryz.underlying40 hi hz0 hz1 hz2 rfl (by decide) _ _ _ rfl HO2.out ⟨w1.heap.size,0,none⟩ 1 1 [.string a,.int .i64 mo,.int .i64 sq,.slice no nl nc] rfl rfl HNW.out HDO.out hsz1 hsz2 HS2.out ?_)
   intro v' w9 hown hgrow hne
   have HD9:Hid (DsO w.heap.size v' (ds.take (k+1)) w9):=H_ (by
    rw [HT.out]
    have e:=HNL.out
    subst e
    have h:=dso_snoc (d:=⟨a,mo,sq,ls⟩) (la:=no) (lc:=nc) HX1.out (fun x hx=>RowG.own_below (RowG.own_below (HX3.out x hx) HB1.out) HAL.out) HX4.out (RowG.own_below (OwG.own_low HN1.out HS1.out) HAL.out) (fun x hx b h1 h2=>by
     have p1:=((HX3.out x hx).lt b h1).2
     have p2:=(HN1.out.lt b h2).1
     omega) (by rw [HDK.out];exact HO2.out) hgrow (by rw [HDK.out];exact hown)
    exact ⟨_,h.1,h.2.1,h.2.2.1,h.2.2.2⟩)
   have HB9:Hid (Below w.heap.size w w9):=H_ (((HB.out.trans (HB1.out.mono HB.out.size)).trans (HAL.out.mono (Nat.le_trans HB.out.size HB1.out.size))).grown hgrow HS2.out (fun k e=>by have:=(HO2.out.lt k e).1;omega))
   clear hown hgrow hne
   go_wp2_with fail
   go_roundw
   case rel=>exact ⟨k+1,by omega,by go_num,HD9,HB9⟩
   case measure=>simp [intOf];omega
  ·have hlt2:¬(k:Int)<(len:Int):=by omega
   obtain rfl:k=len:=by omega
   rw [HEND.out] at HO
   go_wp2_with fail
   go_ret
   exact ⟨_,rfl,HO.out,HB.out⟩
end LedR
end Go.Proofs.YtnceeaccbcfopaaGreatDoor
