/-
  Lists of documents and of windows of one's own are parts of an answer. The conditions: sizes.
-/
import Derived.Test.YtnceeaccbcfopaaGreatDoorT126
namespace Go.Proofs.YtnceeaccbcfopaaGreatDoor
open Go.ChangeShapes Go.WideShapes Go.ChangeAt Go.RowKit
set_option linter.unusedVariables false
namespace EngR
open OwG CatR ChG
open RowG (cellsAll grown_set MadeG Rws)
open EvtR (Pt)
def Tm (a:Option Addr) (n b:Nat):Prop:=n≠0∧a=some ⟨b,0,none⟩
theorem pw_ix {α:Type} {R:α→α→Prop} {z:α} {xs:List α} (h:xs.Pairwise R) (hs:∀x y,R x y→R y x) {i j:Nat} (hi:i<xs.length) (hj:j<xs.length) (hn:i≠j):R (xs.getD i z) (xs.getD j z):=by
 have e:∀k,k<xs.length→∃h:k<xs.length,xs.getD k z=xs[k]:=fun k hk=>⟨hk,by simp [List.getD,hk]⟩
 obtain ⟨_,ei⟩:=e i hi
 obtain ⟨_,ej⟩:=e j hj
 rw [ei,ej]
 rw [List.pairwise_iff_getElem] at h
 rcases Nat.lt_or_ge i j with q|q
 ·exact h i j hi hj q
 ·exact hs _ _ (h j i hj hi (by omega))
theorem mkh_ln {w:World} {lo n K:Nat} {a:Option Addr} {c:Nat} (h:n=0∨∃g,a=some ⟨g,0,none⟩∧lo≤g∧Pt g (n*2) w) (hK0:1≤K) (hK:K≤5300001) (hn:n≤1048576):MkH 92 97 (.slice a n c) K (K+2*n) (Tm a n) w:=by
 intro S W hc hS
 by_cases h0:n=0
 ·subst h0
  refine (LinR.marks0K K a c W).mono ?_
  rintro e w' ⟨rfl,hb⟩
  exact ⟨rfl,Chg.of_below hb,fun S' Y _ _=>LinR.held0K K a c Y⟩
 ·rcases h with q|⟨g,rfl,hg,hp⟩
  ·exact absurd q h0
  have hp2:=hc.pt hp (fun q=>hS g q ⟨h0,rfl⟩)
  refine (LinR.marksM K hK0 (by omega) g n c W hn hp2).mono ?_
  rintro e w' ⟨rfl,hg2,_,hM⟩
  refine ⟨rfl,(Chg.refl _ _).grown hg2 ⟨h0,rfl⟩,fun S' Y hc2 hS2=>?_⟩
  exact LinR.heldM K hK0 (by omega) g n c Y hn (hM.block hc2.size (hc2.block g hM.1 (fun q=>hS2 g q ⟨h0,rfl⟩)))
theorem mkh_tg {w:World} {lo n K:Nat} {a:Option Addr} {c:Nat} (h:n=0∨∃g,a=some ⟨g,0,none⟩∧lo≤g∧Pt g (n*1) w) (hK0:1≤K) (hK:K≤5300001) (hn:n≤1048576):MkH 90 147 (.slice a n c) K (K+n) (Tm a n) w:=by
 intro S W hc hS
 by_cases h0:n=0
 ·subst h0
  refine (WinR.nil_any _ (.inl rfl) a c K W (by omega)).mono ?_
  rintro e w' ⟨rfl,hb⟩
  exact ⟨rfl,Chg.of_below hb,fun S' Y _ _=>WinR.nil_any _ (.inr (.inr (.inl rfl))) a c K Y (by omega)⟩
 ·rcases h with q|⟨g,rfl,hg,hp⟩
  ·exact absurd q h0
  have hp2:=hc.pt hp (fun q=>hS g q ⟨h0,rfl⟩)
  refine (WinR.markT g n c K W hn ⟨hK0,by omega⟩ (by rw [Nat.mul_one] at hp2;exact hp2)).mono ?_
  rintro e w' ⟨rfl,hp3,hM,hg2⟩
  refine ⟨rfl,(Chg.refl _ _).grown hg2 ⟨h0,rfl⟩,fun S' Y hc2 hS2=>?_⟩
  have eb:=hc2.block g hp3.lt (fun q=>hS2 g q ⟨h0,rfl⟩)
  exact WinR.heldT g n c K Y hn ⟨hK0,by omega⟩ (Nat.lt_of_lt_of_le hp3.lt hc2.size) (wr_blk hM eb)
theorem mkh_hr {w:World} {lo n K:Nat} {a:Option Addr} {c:Nat} (h:n=0∨∃g,a=some ⟨g,0,none⟩∧lo≤g∧Pt g (n*2) w) (hK0:1≤K) (hK:K≤5300001) (hn:n≤1048576):MkH 91 148 (.slice a n c) K (K+2*n) (Tm a n) w:=by
 intro S W hc hS
 by_cases h0:n=0
 ·subst h0
  refine (WinR.nil_any _ (.inr (.inl rfl)) a c K W (by omega)).mono ?_
  rintro e w' ⟨rfl,hb⟩
  exact ⟨rfl,Chg.of_below hb,fun S' Y _ _=>WinR.nil_any _ (.inr (.inr (.inr rfl))) a c K Y (by omega)⟩
 ·rcases h with q|⟨g,rfl,hg,hp⟩
  ·exact absurd q h0
  have hp2:=hc.pt hp (fun q=>hS g q ⟨h0,rfl⟩)
  refine (WinR.markH g n c K W hn ⟨hK0,by omega⟩ hp2).mono ?_
  rintro e w' ⟨rfl,hp3,hM,hg2⟩
  refine ⟨rfl,(Chg.refl _ _).grown hg2 ⟨h0,rfl⟩,fun S' Y hc2 hS2=>?_⟩
  have eb:=hc2.block g hp3.lt (fun q=>hS2 g q ⟨h0,rfl⟩)
  exact WinR.heldH g n c K Y hn ⟨hK0,by omega⟩ (Nat.lt_of_lt_of_le hp3.lt hc2.size) (wr_blk hM eb)
def totD (ds:List DocR.D):Nat:=(ds.map (fun d=>3+2*d.ls.length)).sum
def totW (ws:List WinR.Wd):Nat:=(ws.map (fun x=>6+x.ts.length+2*x.hs.length)).sum
theorem totD_take:∀(l:List DocR.D) (j:Nat),totD (l.take j)≤totD l
 | [],j=>by simp
 | m::ms,0=>by simp [totD]
 | m::ms,j+1=>by
  have:=totD_take ms j
  simp only [totD,List.take_succ_cons,List.map_cons,List.sum_cons] at *
  omega
theorem totW_take:∀(l:List WinR.Wd) (j:Nat),totW (l.take j)≤totW l
 | [],j=>by simp
 | m::ms,0=>by simp [totW]
 | m::ms,j+1=>by
  have:=totW_take ms j
  simp only [totW,List.take_succ_cons,List.map_cons,List.sum_cons] at *
  omega
theorem totD_more {xs:List LedR.DA} {j:Nat} (h:j<xs.length):totD ((xs.map LedR.DA.d).take (j+1))=totD ((xs.map LedR.DA.d).take j)+3+2*(xs.getD j LedR.DA.zero).d.ls.length:=by
 rw [←List.map_take,←List.map_take,RowG.take_more (z:=LedR.DA.zero) xs j h]
 simp only [totD,List.map_append,List.sum_append,List.map_cons,List.map_nil,List.sum_cons,List.sum_nil]
 omega
theorem pc_dc {W:World} {lo:Nat} {v:Value} {ds:List DocR.D} (h:LedR.DsO lo v ds W) (hn:ds.length≤1048576) (hl:∀d∈ds,d.ls.length≤1048576):Pc (RDc ds) 42 44 (totD ds) lo W.heap.size v W:=by
 obtain ⟨xs,rfl,x2,x3,x4⟩:=h
 rw [List.length_map] at x2 hn
 refine ⟨Nat.le_refl _,fun b=>v.ownBlock=some b∨∃y∈xs,y.v.ownBlock=some b,?_,fun W2 hs hb=>?_⟩
 ·rintro b (q|⟨y,hy,q⟩)
  ·exact x2.lt b q
  ·exact (x3 y hy).lt b q
 have h2:=own_blk x2 hs (fun b q=>hb b (.inl q))
 have h3:∀x∈xs,LedR.LnO lo x W2:=fun x hx=>own_blk (x3 x hx) hs (fun b q=>hb b (.inr ⟨x,hx,q⟩))
 have hm:LedR.DsO lo v (xs.map LedR.DA.d) W2:=⟨xs,rfl,by rw [List.length_map];exact h2,h3,x4⟩
 refine ⟨hm.dcs,fun K k1 k2=>?_⟩
 by_cases h0:xs.length=0
 ·obtain rfl:xs=[]:=List.length_eq_zero_iff.1 h0
  obtain ⟨a,c,rfl,_⟩:=RowG.own_made (z:=LedR.DA.zero) LedR.DA.len h2
  have:=mkh_dcs0 K a c W2
  exact fun S Y hc hS=>(this S Y hc (fun _ _ q=>q)).mono (fun e w' q=>⟨q.1,q.2.1.wide (fun _ q=>q.elim),fun S' Y' hc' _=>q.2.2 S' Y' hc' (fun _ _ q=>q)⟩)
 ·obtain ⟨ao,cap,rfl,hmd⟩:=RowG.own_made (z:=LedR.DA.zero) LedR.DA.len h2
  rcases hmd.own with q|⟨g,rfl,hg,hp⟩
  ·exact absurd q h0
  have hrow:∀j,j<xs.length→∀x,x<4→W2.cell? ⟨g,j*4+x,none⟩=(LedR.DA.cells (xs.getD j LedR.DA.zero))[x]?:=fun j hj x hx=>by
   rcases hmd.rws with q|⟨b,off,e,_,hc⟩
   ·exact absurd q h0
   ·cases e
    have:=hc j hj x hx
    rw [Nat.zero_add] at this
    exact this
  have hmem:=fun j (hj:j<xs.length)=>RowG.getD_mem (z:=LedR.DA.zero) xs j hj
  have hob:∀y∈xs,∀b,Tm y.la y.d.ls.length b→y.v.ownBlock=some b:=fun y hy b q=>by
   unfold LedR.DA.v
   rw [q.2]
   rfl
  have hv:=LedR.mkh_dcs_in g xs.length cap (fun j=>K+totD ((xs.map LedR.DA.d).take j)) (fun j=>(xs.getD j LedR.DA.zero).la) (fun j=>(xs.getD j LedR.DA.zero).d.ls.length) (fun j=>(xs.getD j LedR.DA.zero).lc) (fun j=>Tm (xs.getD j LedR.DA.zero).la (xs.getD j LedR.DA.zero).d.ls.length) W2 hn
   ⟨hp,fun j hj=>hrow j hj 3 (by omega),fun j hj=>⟨by omega,by have:=totD_take (xs.map LedR.DA.d) j;omega⟩,fun j hj=>by
    have hb2:=totD_take (xs.map LedR.DA.d) (j+1)
    have hb3:=totD_more hj
    have:=mkh_ln (w:=W2) (lo:=lo) (c:=(xs.getD j LedR.DA.zero).lc) (own_k (h3 _ (hmem j hj))) (K:=K+totD ((xs.map LedR.DA.d).take j)+3) (by omega) (by omega) (hl _ (List.mem_map_of_mem (hmem j hj)))
    rw [show K+totD ((xs.map LedR.DA.d).take j)+3+2*(xs.getD j LedR.DA.zero).d.ls.length=K+totD ((xs.map LedR.DA.d).take (j+1)) by omega] at this
    exact this,fun j hj=>hl _ (List.mem_map_of_mem (hmem j hj)),fun j hj b q=>?_,fun i j hi hj hij b q q2=>?_⟩
  ·have e:(xs.map LedR.DA.d).take xs.length=xs.map LedR.DA.d:=by rw [←List.length_map (f:=LedR.DA.d),List.take_length]
   rw [e] at hv
   refine fun S Y hc hS=>(hv S Y hc (fun b q q2=>hS b q ?_)).mono (fun e w' q=>⟨q.1,q.2.1.wide ?_,fun S' Y' hc' hS'=>q.2.2 S' Y' hc' (fun b q q2=>hS' b q ?_)⟩)
   ·rcases q2 with rfl|⟨j,hj,q2⟩
    ·exact .inl rfl
    ·exact .inr ⟨_,hmem j hj,hob _ (hmem j hj) b q2⟩
   ·rintro b (rfl|⟨j,hj,q2⟩)
    ·exact .inl rfl
    ·exact .inr ⟨_,hmem j hj,hob _ (hmem j hj) b q2⟩
   ·rcases q2 with rfl|⟨j,hj,q2⟩
    ·exact .inl rfl
    ·exact .inr ⟨_,hmem j hj,hob _ (hmem j hj) b q2⟩
  ·have h9:=own_apart (h3 _ (hmem j hj)) h2 (by decide) b (hob _ (hmem j hj) b q)
   exact fun e=>h9 (by rw [e];rfl)
  ·exact pw_ix (z:=LedR.DA.zero) x4 (fun x y h b h1 h2=>h b h2 h1) hi hj hij b (hob _ (hmem i hi) b q) (hob _ (hmem j hj) b q2)
structure WA where
 x:WinR.Wd
 ta:Option Addr
 tc:Nat
 ha:Option Addr
 hc:Nat
def WA.cells (y:WA):List Value:=[.string y.x.a,.string y.x.m,.int .i64 y.x.mo,.int .i64 y.x.ev,.int .i64 y.x.su,.int .i64 y.x.mx,.slice y.ta y.x.ts.length y.tc,.slice y.ha y.x.hs.length y.hc]
theorem WA.len (y:WA):y.cells.length=8:=rfl
def WA.zero:WA:=⟨WinR.Wd.zero,none,0,none,0⟩
def WA.T (y:WA) (b:Nat):Prop:=Tm y.ta y.x.ts.length b∨Tm y.ha y.x.hs.length b
def WaO (lo:Nat) (y:WA) (W:World):Prop:=MadeG 1 WinR.tcells WinR.tz lo y.ta y.x.ts W∧MadeG 2 WinR.H.cells WinR.H.zero lo y.ha y.x.hs W∧∀b,Tm y.ta y.x.ts.length b→Tm y.ha y.x.hs.length b→False
theorem made_blk {α:Type} {k:Nat} {cells:α→List Value} {z:α} {lo:Nat} {a:Option Addr} {xs:List α} {W W':World} (h:MadeG k cells z lo a xs W) (hs:W.heap.size≤W'.heap.size) (hb:∀b,Tm a xs.length b→W'.heap[b]? = W.heap[b]?):MadeG k cells z lo a xs W':=by
 by_cases h0:xs.length=0
 ·exact ⟨.inl h0,.inl h0⟩
 ·rcases h.own with q|⟨g,rfl,hg,hp⟩
  ·exact absurd q h0
  have eb:=hb g ⟨h0,rfl⟩
  refine ⟨.inr ?_,.inr ⟨g,rfl,hg,pt_block hp hs eb⟩⟩
  rcases h.rws with q|⟨b,off,e,hl,hc⟩
  ·exact absurd q h0
  ·cases e
   exact ⟨g,0,rfl,Nat.lt_of_lt_of_le hl hs,fun j hj i hi=>(World.cell?_of_block (a:=⟨g,0+j*k+i,none⟩) eb).trans (hc j hj i hi)⟩
theorem made_lt {α:Type} {k:Nat} {cells:α→List Value} {z:α} {lo:Nat} {a:Option Addr} {xs:List α} {W:World} (h:MadeG k cells z lo a xs W) {b:Nat} (q:Tm a xs.length b):lo≤b∧b<W.heap.size:=by
 rcases h.own with q1|⟨g,rfl,hg,hp⟩
 ·exact absurd q1 q.1
 ·have:=q.2
  simp only [Option.some.injEq,Addr.mk.injEq,and_true] at this
  have:=hp.lt
  omega
theorem WaO.blk {lo:Nat} {y:WA} {W W':World} (h:WaO lo y W) (hs:W.heap.size≤W'.heap.size) (hb:∀b,y.T b→W'.heap[b]? = W.heap[b]?):WaO lo y W' :=
 ⟨made_blk h.1 hs (fun b q=>hb b (.inl q)),made_blk h.2.1 hs (fun b q=>hb b (.inr q)),h.2.2⟩
theorem WaO.lt {lo:Nat} {y:WA} {W:World} (h:WaO lo y W) {b:Nat} (q:y.T b):lo≤b∧b<W.heap.size:=q.elim (made_lt h.1) (made_lt h.2.1)
theorem WaO.below {lo:Nat} {y:WA} {W W':World} (h:WaO lo y W) (hb:Below W.heap.size W W'):WaO lo y W':=h.blk hb.size (fun b q=>hb.block b (h.lt q).2)
theorem WaO.low {lo lo':Nat} {y:WA} {W:World} (h:WaO lo y W) (hl:lo'≤lo):WaO lo' y W:=⟨h.1.low hl,h.2.1.low hl,h.2.2⟩
def WsQ (lo:Nat) (v:Value) (ws:List WinR.Wd) (W:World):Prop:=∃xs:List WA,xs.map WA.x=ws∧W.ownsRow lo 106 8 v ws.length (cellsAll WA.cells xs)∧(∀y∈xs,WaO lo y W)∧(∀y∈xs,∀b,y.T b→v.ownBlock≠some b)∧xs.Pairwise (fun x y=>∀b,x.T b→¬y.T b)
theorem wsq_nil (lo:Nat) (W:World):WsQ lo (.slice none 0 0) [] W:=⟨[],rfl,World.ownsRow_nil _ _ _ _,(fun x h=>absurd h (by simp)),(fun x h=>absurd h (by simp)),List.Pairwise.nil⟩
theorem WsQ.below {lo:Nat} {v:Value} {ws:List WinR.Wd} {W W':World} (h:WsQ lo v ws W) (hb:Below W.heap.size W W'):WsQ lo v ws W':=by
 obtain ⟨xs,h1,h2,h3,h4,h5⟩:=h
 exact ⟨xs,h1,RowG.own_below h2 hb,fun x hx=>(h3 x hx).below hb,h4,h5⟩
theorem cellsW_snoc (xs:List WA) (y:WA):cellsAll WA.cells (xs ++ [y])=cellsAll WA.cells xs++WA.cells y:=RowG.cellsAll_app xs y
theorem wsq_more {lo L:Nat} {v v':Value} {xs:List WA} {y:WA} {w2 w9:World} (h2:w2.ownsRow lo 106 8 v xs.length (cellsAll WA.cells xs)) (h3:∀y∈xs,WaO lo y w2) (h4:∀y∈xs,∀b,y.T b→v.ownBlock≠some b) (h5:xs.Pairwise (fun x y=>∀b,x.T b→¬y.T b))
 (hL:∀y∈xs,∀b,y.T b→b<L) (hL2:∀b,v.ownBlock=some b→b<L) (hy:WaO L y w2) (hlo:lo≤L)
 (hgrow:w2.grownBy w9 v.ownBlock) (hown:w9.ownsRow lo 106 8 v' (xs.length+1) (cellsAll WA.cells xs++WA.cells y)) (hnew:∀b,v'.ownBlock=some b→v.ownBlock=some b∨b=w2.heap.size):WsQ lo v' ((xs ++ [y]).map WA.x) w9:=by
 have hyb:∀b,y.T b→v.ownBlock≠some b:=fun b q e=>by have:=(hy.lt q).1;have:=hL2 b e;omega
 have hgr:∀z:WA,WaO lo z w2→(∀b,z.T b→v.ownBlock≠some b)→WaO lo z w9∧∀b,z.T b→v'.ownBlock≠some b:=fun z hz hn =>
  ⟨hz.blk hgrow.size (fun b q=>hgrow.block b (hz.lt q).2 (fun e=>hn b q e.symm)),fun b q e=>by
   rcases hnew b e with e|e
   ·exact hn b q e
   ·have:=(hz.lt q).2;omega⟩
 refine ⟨xs ++ [y],rfl,?_,?_,?_,?_⟩
 ·rw [cellsW_snoc,List.length_map,List.length_append]
  exact hown
 ·intro z hz
  rcases List.mem_append.1 hz with h|h
  ·exact (hgr z (h3 z h) (h4 z h)).1
  ·rw [List.mem_singleton] at h
   subst h
   exact (hgr _ (hy.low hlo) hyb).1
 ·intro z hz
  rcases List.mem_append.1 hz with h|h
  ·exact (hgr z (h3 z h) (h4 z h)).2
  ·rw [List.mem_singleton] at h
   subst h
   exact (hgr _ (hy.low hlo) hyb).2
 ·refine List.pairwise_append.2 ⟨h5,List.pairwise_singleton _ _,fun z hz z2 hz2=>?_⟩
  rw [List.mem_singleton] at hz2
  subst hz2
  intro b q1 q2
  have:=hL z hz b q1
  have:=(hy.lt q2).1
  omega
theorem WsQ.reads {lo:Nat} {v:Value} {ws:List WinR.Wd} {W:World} (h:WsQ lo v ws W):RWd ws v W:=by
 obtain ⟨xs,h1,h2,h3,_⟩:=h
 have hl:ws.length=xs.length:=by rw [←h1];simp
 rw [hl] at h2
 obtain ⟨ao,cap,rfl,hm⟩:=RowG.own_made (z:=WA.zero) WA.len h2
 refine ⟨ao,cap,by rw [hl],?_⟩
 rcases hm.rws with h0|⟨b,off,rfl,hb,hc⟩
 ·exact .inl (by omega)
 ·refine .inr ⟨b,off,rfl,hb,fun i hi=>?_⟩
  have hx:i<xs.length:=by omega
  have e:ws.getD i WinR.Wd.zero=(xs.getD i WA.zero).x:=by
   rw [←h1]
   simp [List.getD,hx]
  have hmem:=h3 _ (RowG.getD_mem (z:=WA.zero) xs i hx)
  have c:=hc i hx
  rw [e]
  generalize xs.getD i WA.zero=X at *
  exact ⟨X.ta,X.tc,X.ha,X.hc,c 0 (by omega),c 1 (by omega),c 2 (by omega),c 3 (by omega),c 4 (by omega),c 5 (by omega),c 6 (by omega),c 7 (by omega),hmem.1.rws,hmem.2.1.rws⟩
theorem totW_more {xs:List WA} {j:Nat} (h:j<xs.length):totW ((xs.map WA.x).take (j+1))=totW ((xs.map WA.x).take j)+6+(xs.getD j WA.zero).x.ts.length+2*(xs.getD j WA.zero).x.hs.length:=by
 rw [←List.map_take,←List.map_take,RowG.take_more (z:=WA.zero) xs j h]
 simp only [totW,List.map_append,List.sum_append,List.map_cons,List.map_nil,List.sum_cons,List.sum_nil]
 omega
theorem pc_wd {W:World} {lo:Nat} {v:Value} {ws:List WinR.Wd} (h:WsQ lo v ws W) (hn:ws.length≤1048576) (hl:∀x∈ws,x.ts.length≤1048576∧x.hs.length≤1048576):Pc (RWd ws) 41 96 (totW ws) lo W.heap.size v W:=by
 obtain ⟨xs,rfl,x2,x3,x4,x5⟩:=h
 rw [List.length_map] at x2 hn
 refine ⟨Nat.le_refl _,fun b=>v.ownBlock=some b∨∃y∈xs,y.T b,?_,fun W2 hs hb=>?_⟩
 ·rintro b (q|⟨y,hy,q⟩)
  ·exact x2.lt b q
  ·exact (x3 y hy).lt q
 have h2:=own_blk x2 hs (fun b q=>hb b (.inl q))
 have h3:∀y∈xs,WaO lo y W2:=fun y hy=>(x3 y hy).blk hs (fun b q=>hb b (.inr ⟨y,hy,q⟩))
 have hm:WsQ lo v (xs.map WA.x) W2:=⟨xs,rfl,by rw [List.length_map];exact h2,h3,x4,x5⟩
 refine ⟨hm.reads,fun K k1 k2=>?_⟩
 by_cases h0:xs.length=0
 ·obtain rfl:xs=[]:=List.length_eq_zero_iff.1 h0
  obtain ⟨a,c,rfl,_⟩:=RowG.own_made (z:=WA.zero) WA.len h2
  have:=mkh_wds0 K a c W2
  exact fun S Y hc hS=>(this S Y hc (fun _ _ q=>q)).mono (fun e w' q=>⟨q.1,q.2.1.wide (fun _ q=>q.elim),fun S' Y' hc' _=>q.2.2 S' Y' hc' (fun _ _ q=>q)⟩)
 ·obtain ⟨ao,cap,rfl,hmd⟩:=RowG.own_made (z:=WA.zero) WA.len h2
  rcases hmd.own with q|⟨g,rfl,hg,hp⟩
  ·exact absurd q h0
  have hrow:∀j,j<xs.length→∀x,x<8→W2.cell? ⟨g,j*8+x,none⟩=(WA.cells (xs.getD j WA.zero))[x]?:=fun j hj x hx=>by
   rcases hmd.rws with q|⟨b,off,e,_,hc⟩
   ·exact absurd q h0
   ·cases e
    have:=hc j hj x hx
    rw [Nat.zero_add] at this
    exact this
  have hmem:=fun j (hj:j<xs.length)=>RowG.getD_mem (z:=WA.zero) xs j hj
  have hln:=fun j (hj:j<xs.length)=>hl _ (List.mem_map_of_mem (f:=WA.x) (hmem j hj))
  have hkx:∀j,j<xs.length→K+totW ((xs.map WA.x).take j)+6+(xs.getD j WA.zero).x.ts.length+2*(xs.getD j WA.zero).x.hs.length=K+totW ((xs.map WA.x).take (j+1))∧K+totW ((xs.map WA.x).take (j+1))≤5300001:=fun j hj=>by
   have hb2:=totW_take (xs.map WA.x) (j+1)
   have hb3:=totW_more hj
   omega
  have hv:=WinR.mkh_wds_in g xs.length cap (fun j=>K+totW ((xs.map WA.x).take j)) (fun j=>K+totW ((xs.map WA.x).take j)+6+(xs.getD j WA.zero).x.ts.length) (fun j=>(xs.getD j WA.zero).ta) (fun j=>(xs.getD j WA.zero).x.ts.length) (fun j=>(xs.getD j WA.zero).tc) (fun j=>(xs.getD j WA.zero).ha) (fun j=>(xs.getD j WA.zero).x.hs.length) (fun j=>(xs.getD j WA.zero).hc) (fun j=>Tm (xs.getD j WA.zero).ta (xs.getD j WA.zero).x.ts.length) (fun j=>Tm (xs.getD j WA.zero).ha (xs.getD j WA.zero).x.hs.length) W2 hn
   ⟨hp,fun j hj=>⟨hrow j hj 6 (by omega),hrow j hj 7 (by omega)⟩,fun j hj=>⟨by omega,by have:=totW_take (xs.map WA.x) j;omega⟩,
    fun j hj=>mkh_tg (lo:=lo) (h3 _ (hmem j hj)).1.own (by omega) (by have:=hkx j hj;omega) (hln j hj).1,fun j hj=>(hln j hj).1,
    fun j hj=>by
     have:=mkh_hr (w:=W2) (lo:=lo) (c:=(xs.getD j WA.zero).hc) (h3 _ (hmem j hj)).2.1.own (K:=K+totW ((xs.map WA.x).take j)+6+(xs.getD j WA.zero).x.ts.length) (by omega) (by have:=hkx j hj;omega) (hln j hj).2
     rw [(hkx j hj).1] at this
     exact this,fun j hj=>(hln j hj).2,fun j hj b q e=>x4 _ (hmem j hj) b q (by rw [e];rfl),fun i j hi hj hij b q q2=>pw_ix (z:=WA.zero) x5 (fun x y h b h1 h2=>h b h2 h1) hi hj hij b q q2,fun j hj b q q2=>(h3 _ (hmem j hj)).2.2 b q q2⟩
  have e:(xs.map WA.x).take xs.length=xs.map WA.x:=by rw [←List.length_map (f:=WA.x),List.take_length]
  rw [e] at hv
  refine fun S Y hc hS=>(hv S Y hc (fun b q q2=>hS b q ?_)).mono (fun e w' q=>⟨q.1,q.2.1.wide ?_,fun S' Y' hc' hS'=>q.2.2 S' Y' hc' (fun b q q2=>hS' b q ?_)⟩)
  ·rcases q2 with rfl|⟨j,hj,q2⟩
   ·exact .inl rfl
   ·exact .inr ⟨_,hmem j hj,q2⟩
  ·rintro b (rfl|⟨j,hj,q2⟩)
   ·exact .inl rfl
   ·exact .inr ⟨_,hmem j hj,q2⟩
  ·rcases q2 with rfl|⟨j,hj,q2⟩
   ·exact .inl rfl
   ·exact .inr ⟨_,hmem j hj,q2⟩
end EngR
end Go.Proofs.YtnceeaccbcfopaaGreatDoor
