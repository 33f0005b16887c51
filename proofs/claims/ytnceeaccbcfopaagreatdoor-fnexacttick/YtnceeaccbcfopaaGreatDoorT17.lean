/-
  Lists of meters and of credits of one's own, marked, and their marks read later on. The conditions: the catalog is small; the marks are below 5300001.
-/
import Derived.Test.YtnceeaccbcfopaaGreatDoorT16
namespace Go.Proofs.YtnceeaccbcfopaaGreatDoor
open Go.ChangeShapes Go.WideShapes Go.ChangeAt Go.RowKit
set_option linter.unusedVariables false
namespace CatR
open ChG
open RowG (cellsAll)
open EvtR (Pt cell_put cell_far)
open MarkR (mk mT mark_any H_)
def totM (ms:List Me):Nat:=(ms.map (fun m=>5+2*m.ts.length)).sum
def KxM (K:Nat) (xs:List MA) (j:Nat):Nat:=K+totM ((xs.take j).map MA.m)
theorem kxM_more (K:Nat) (xs:List MA) (j:Nat) (h:j<xs.length):KxM K xs (j+1)=KxM K xs j+5+2*(xs.getD j MA.zero).m.ts.length:=by
 unfold KxM
 have e:(xs.take (j+1)).map MA.m=(xs.take j).map MA.m ++ [(xs.getD j MA.zero).m]:=by
  rw [RowG.take_more (z:=MA.zero) xs j h,List.map_append]
  rfl
 rw [e]
 simp only [totM,List.map_append,List.sum_append,List.map_cons,List.map_nil,List.sum_cons,List.sum_nil]
 omega
theorem totM_take:∀(ms:List Me) (j:Nat),totM (ms.take j)≤totM ms
 | [],j=>by simp
 | m::ms,0=>by simp [totM]
 | m::ms,j+1=>by
  have:=totM_take ms j
  simp only [totM,List.take_succ_cons,List.map_cons,List.sum_cons] at *
  omega
theorem kxM_le (K:Nat) (xs:List MA) (j:Nat):KxM K xs j≤K+totM (xs.map MA.m):=by
 unfold KxM
 have h:=totM_take (xs.map MA.m) j
 rw [←List.map_take] at h
 omega
set_option maxHeartbeats 4000000 in
theorem markM0 (K:Int) (ao:Option Addr) (cap:Nat) (w:World):Calls Tryz.prog 87 #[.slice ao 0 cap,.int .i64 K] w fun e w'=>e=.returned (.int .i64 K)∧Below w.heap.size w w':=by
 go_enter Tryz.func87,Tryz.ntmps87
 go_wp2_with fail
 go_loopw [5,1] (fun x z wr=>x=.int .i64 0∧z=.int .i64 K∧Hid (Below w.heap.size w wr)) (fun x _ _=>0)
 case atStart=>exact ⟨rfl,rfl,H_ (Below.refl _ _)⟩
 case round =>
  obtain ⟨rfl,rfl,HB⟩:=hrel
  go_wp2_with fail
  go_ret
  exact ⟨rfl,HB.out⟩
set_option maxHeartbeats 4000000 in
theorem heldM0 (K:Int) (ao:Option Addr) (cap:Nat) (w:World):Calls Tryz.prog 145 #[.slice ao 0 cap,.int .i64 K] w fun e w'=>e=.returned (.int .i64 K)∧Below w.heap.size w w':=by
 go_enter Tryz.func145,Tryz.ntmps145
 go_wp2_with fail
 go_loopw [5,1] (fun x z wr=>x=.int .i64 0∧z=.int .i64 K∧Hid (Below w.heap.size w wr)) (fun x _ _=>0)
 case atStart=>exact ⟨rfl,rfl,H_ (Below.refl _ _)⟩
 case round =>
  obtain ⟨rfl,rfl,HB⟩:=hrel
  go_wp2_with fail
  go_ret
  exact ⟨rfl,HB.out⟩
theorem msB_of {base:Nat} {v:Value} {xs:List MA} {W:World} (h2:W.ownsRow base 150 6 v xs.length (cellsAll MA.cells xs)) (h3:∀x∈xs,TnO base x W) (h4:xs.Pairwise AptM) (h0:xs.length≠0):∃g cap lb,v=.slice (some ⟨g,0,none⟩) xs.length cap∧v.ownBlock=some g∧(∀j,j<xs.length→(xs.getD j MA.zero).m.ts.length≠0→(xs.getD j MA.zero).v.ownBlock=some (lb j))∧MsB base g xs.length (fun j=>(xs.getD j MA.zero).ta) (fun j=>(xs.getD j MA.zero).m.ts.length) (fun j=>(xs.getD j MA.zero).tc) lb W:=by
 have hap:=fun j (hj:j<xs.length)=>OwG.own_apart (h3 _ (RowG.getD_mem (z:=MA.zero) xs j hj)) h2 (by decide)
 obtain ⟨ao,cap,rfl,hm⟩:=RowG.own_made (z:=MA.zero) MA.len h2
 rcases hm.own with q|⟨g,rfl,hg,hp⟩
 ·exact absurd q h0
 have hl:∀j,j<xs.length→(xs.getD j MA.zero).m.ts.length=0∨∃b,(xs.getD j MA.zero).ta=some ⟨b,0,none⟩∧base≤b∧Pt b ((xs.getD j MA.zero).m.ts.length*2) W:=by
  intro j hj
  have h:=h3 _ (RowG.getD_mem (z:=MA.zero) xs j hj)
  obtain ⟨ao',cap',e',hm'⟩:=RowG.own_made (z:=Ti.zero) Ti.len h
  unfold MA.v at e'
  cases e'
  exact hm'.own
 refine ⟨g,cap,fun j=>match (xs.getD j MA.zero).ta with|some a=>a.block|none=>0,rfl,rfl,?_,hg,hp,?_,?_,?_⟩
 ·intro j hj hn
  rcases hl j hj with q|⟨b,e1,_⟩
  ·exact absurd q hn
  ·dsimp only
   unfold MA.v
   rw [e1]
   rfl
 ·intro j hj
  rcases hm.rws with q|⟨b,off,e,hb,hc⟩
  ·exact absurd q h0
  ·simp only [Option.some.injEq,Addr.mk.injEq,and_true] at e
   obtain ⟨rfl,rfl⟩:=e
   have:=hc j hj 5 (by omega)
   rw [Nat.zero_add] at this
   exact this
 ·intro j hj
  rcases hl j hj with q|⟨b,e1,e2,e3⟩
  ·exact .inl q
  ·by_cases hn:(xs.getD j MA.zero).m.ts.length=0
   ·exact .inl hn
   refine .inr ?_
   rw [e1]
   refine ⟨rfl,e2,?_,e3⟩
   have:=hap j hj b (by unfold MA.v;rw [e1];rfl)
   simp [Value.ownBlock] at this
   exact this
 ·intro i j hi hj hne n1 n2 q
  rcases hl i hi with q1|⟨b1,e1,_⟩
  ·exact n1 q1
  rcases hl j hj with q2|⟨b2,e2,_⟩
  ·exact n2 q2
  rw [e1,e2] at q
  have q3:b1=b2:=q
  subst q3
  have eb1:(xs.getD i MA.zero).v.ownBlock=some b1:=by unfold MA.v;rw [e1];rfl
  have eb2:(xs.getD j MA.zero).v.ownBlock=some b1:=by unfold MA.v;rw [e2];rfl
  have gi:xs.getD i MA.zero=xs[i]:=by simp [List.getD,hi]
  have gj:xs.getD j MA.zero=xs[j]:=by simp [List.getD,hj]
  rw [gi] at eb1
  rw [gj] at eb2
  rcases Nat.lt_or_gt_of_ne hne with lt|gt
  ·exact List.pairwise_iff_getElem.1 h4 i j hi hj lt b1 eb1 eb2
  ·exact List.pairwise_iff_getElem.1 h4 j i hj hi gt b1 eb2 eb1
theorem markMsO (base K:Nat) (vm:Value) (xs:List MA) (w:World) (hK0:1≤K) (hlen:xs.length≤1048576) (hln:∀y∈xs,y.m.ts.length≤1048576) (ht:K+totM (xs.map MA.m)≤5300001) (h2:w.ownsRow base 150 6 vm xs.length (cellsAll MA.cells xs)) (h3:∀x∈xs,TnO base x w) (h4:xs.Pairwise AptM) :
 Calls Tryz.prog 87 #[vm,.int .i64 K] w fun e w'=>e=.returned (.int .i64 (K+totM (xs.map MA.m):Nat))∧(∃S:Nat→Prop,Chg S w w'∧(∀b,S b→base≤b∧(vm.ownBlock=some b∨∃y∈xs,y.v.ownBlock=some b)) ∧
  (∀(S':Nat→Prop) w2,Chg S' w' w2→(∀b,S' b→¬S b)→Calls Tryz.prog 145 #[vm,.int .i64 K] w2 fun e w3=>e=.returned (.int .i64 (K+totM (xs.map MA.m):Nat))∧Below w2.heap.size w2 w3)):=by
 by_cases h0:xs.length=0
 ·obtain rfl:xs=[]:=List.length_eq_zero_iff.1 h0
  obtain ⟨ao,cap,rfl,hm⟩:=RowG.own_made (z:=MA.zero) MA.len h2
  refine (markM0 K ao cap w).mono ?_
  rintro e w' ⟨rfl,hb⟩
  exact ⟨rfl,fun _=>False,Chg.of_below hb,fun b q=>q.elim,fun S' w2 _ _=>heldM0 K ao cap w2⟩
 ·obtain ⟨g,cap,lb,rfl,hob,hlb,hD⟩:=msB_of h2 h3 h4 h0
  have hK:∀j,j≤xs.length→1≤KxM K xs j∧KxM K xs j≤5300001:=fun j _=>⟨by unfold KxM;omega,by have:=kxM_le K xs j;omega⟩
  have hL:∀j,j<xs.length→(xs.getD j MA.zero).m.ts.length≤1048576:=fun j hj=>hln _ (RowG.getD_mem (z:=MA.zero) xs j hj)
  have hz:KxM K xs 0=K:=by simp [KxM,totM]
  have hN:KxM K xs xs.length=K+totM (xs.map MA.m):=by unfold KxM;rw [List.take_length]
  have hm:=markMB base g xs.length cap _ _ _ lb (KxM K xs) w hlen (fun j hj=>kxM_more K xs j hj) hK hL hD
  rw [hz,hN] at hm
  refine hm.mono ?_
  rintro e w' ⟨rfl,hM,hC⟩
  refine ⟨rfl,_,hC,?_,?_⟩
  ·rintro b (rfl|⟨j,hj,hn,rfl⟩)
   ·exact ⟨hD.low,.inl hob⟩
   ·refine ⟨?_,.inr ⟨_,RowG.getD_mem (z:=MA.zero) xs j hj,hlb j hj hn⟩⟩
    rcases hD.own j hj with q|⟨_,q,_⟩
    ·exact absurd q hn
    ·exact q
  ·intro S' w2 hc hS
   have hM2:=hM.chg hc (fun q=>hS g q (.inl rfl)) (fun j hj hn q=>hS _ q (.inr ⟨j,hj,hn,rfl⟩))
   have hh:=heldMB g xs.length cap _ _ _ lb (KxM K xs) w2 hlen (fun j hj=>kxM_more K xs j hj) hK hL hM2
   rw [hz,hN] at hh
   exact hh
end CatR
end Go.Proofs.YtnceeaccbcfopaaGreatDoor
