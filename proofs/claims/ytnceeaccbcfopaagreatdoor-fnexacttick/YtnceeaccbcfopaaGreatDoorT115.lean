/-
  The model's way to add lines to others. The conditions: at most 400 lines to add to at most 100000 that rise, the numbers far from running over.
-/
import Derived.Test.YtnceeaccbcfopaaGreatDoorT114
namespace Go.Proofs.YtnceeaccbcfopaaGreatDoor
open Go.ChangeShapes Go.WideShapes Go.ChangeAt Go.RowKit
set_option linter.unusedVariables false
namespace NetR
open LinR RowG LtR
open DocR (BlkW BlkW.new BlkW.below)
theorem own_row_set {w:World} {base e s g n cap j:Nat} {xs:List Value} {u:Value} (h:w.ownsRow base e s (.slice (some ⟨g,0,none⟩) n cap) n xs) (hj:j<xs.length):(w.setCell ⟨g,j,none⟩ u).ownsRow base e s (.slice (some ⟨g,0,none⟩) n cap) n (xs.set j u):=by
 rcases h.2 with ⟨h0,_⟩|⟨g',cap',cur,hv,hb,hh,r1,r2,r3,r4⟩
 ·cases h0
 ·simp only [Value.slice.injEq,Option.some.injEq,Addr.mk.injEq,and_true,true_and] at hv
  obtain ⟨rfl,rfl⟩:=hv
  refine ⟨by simpa using h.1,.inr ⟨g,cap,cur.setIfInBounds j u,rfl,hb,?_,r1,r2,by simpa using r3,?_⟩⟩
  ·simp [World.setCell,Array.getElem?_modify,hh]
  ·rw [Array.toList_setIfInBounds,List.take_set,r4]
theorem cells_set:∀(M:List N) (k:Nat) (m:Int),k<M.length→(cellsAll N.cells M).set (k*2+1) (.int .i64 m)=cellsAll N.cells (M.set k ⟨(M.getD k N.zero).i,m⟩)
 | [],k,m,h=>by simp at h
 | y::l,0,m,h=>by simp [cellsAll,N.cells]
 | y::l,k+1,m,h=>by
  have ih:=cells_set l k m (by simpa using h)
  simp only [cellsAll,List.flatMap_cons,N.cells,List.set_cons_succ,List.getD_cons_succ] at *
  rw [←ih,show (k+1)*2+1=k*2+1+1+1 by omega]
  rfl
def upd (x y:N):N:=if y.i=x.i then ⟨y.i,y.n+x.n⟩ else y
def mix (L:List N) (x:N) (k:Nat):List N:=(L.take k).map (upd x)++L.drop k
theorem mix_len (L:List N) (x:N) (k:Nat):(mix L x k).length=L.length:=by simp [mix];omega
theorem mix_at (L:List N) (x:N) (k:Nat) (h:k<L.length):(mix L x k).getD k N.zero=L.getD k N.zero:=by
 unfold mix
 have hl:((L.take k).map (upd x)).length=k:=by simp;omega
 rw [List.getD,List.getElem?_append_right (by omega),hl,Nat.sub_self,List.getElem?_drop,Nat.add_zero]
 rfl
theorem mix_more (L:List N) (x:N) (k:Nat) (h:k<L.length):mix L x (k+1)=(mix L x k).set k (upd x (L.getD k N.zero)):=by
 unfold mix
 have hl:((L.take k).map (upd x)).length=k:=by simp;omega
 have hd:L.drop k=L.getD k N.zero::L.drop (k+1):=by
  rw [List.drop_eq_getElem_cons h]
  simp [List.getD,h]
 rw [take_more (z:=N.zero) L k h,List.map_append,List.set_append_right _ _ (by omega),hl,Nat.sub_self,hd]
 simp
theorem set_self:∀(M:List N) (k:Nat),k<M.length→M.set k (M.getD k N.zero)=M
 | [],k,h=>by simp at h
 | y::l,0,h=>by simp
 | y::l,k+1,h=>by
  have:=set_self l k (by simpa using h)
  simp only [List.set_cons_succ,List.getD_cons_succ,this]
theorem upd_all:∀{l:List N} {x:N},(∀y∈l,y.i≠x.i)→l.map (upd x)=l
 | [],x,_=>rfl
 | y::l,x,h=>by
  rw [List.map_cons,upd_all (fun y hy=>h y (by simp [hy]))]
  unfold upd
  rw [if_neg (h y (by simp))]
theorem put_map:∀{L:List N} {x:N},Rise L→fnd L x.i=true→put L x=L.map (upd x)
 | [],x,_,h=>by cases h
 | a::l,x,hr,h=>by
  have h0:=List.pairwise_cons.1 hr
  rw [fnd] at h
  unfold put
  rw [ins]
  cases h1:lt a.i x.i
  ·rw [h1,cond_false] at h
   have e:a.i=x.i:=toList_inj (by simpa using h)
   have h2:nlt x a=false:=by unfold nlt;rw [e];exact lt_irrefl _
   rw [if_neg (by unfold nlt;rw [h1];simp),if_neg (by rw [h2];simp),List.map_cons,upd_all (fun y hy e2=>by
    have:=h0.1 y hy
    rw [e2,e,lt_irrefl] at this
    cases this)]
   unfold upd addN
   rw [if_pos e]
  ·rw [h1,cond_true] at h
   have ih:=put_map h0.2 h
   unfold put at ih
   rw [if_pos (show nlt a x=true from h1),ih,List.map_cons]
   unfold upd
   rw [if_neg (fun e=>by rw [e,lt_irrefl] at h1;cases h1)]
theorem mix_end {L:List N} {x:N} (hr:Rise L) (h:fnd L x.i=true):mix L x L.length=put L x:=by
 rw [put_map hr h,mix,List.take_length,List.drop_length,List.append_nil]
def LB (w:World) (b o:Nat) (xi:ByteArray) (xn:Int) (W:World):Prop:=Below w.heap.size w W∧b<W.heap.size∧W.cell? ⟨b,o,none⟩=some (.string xi)∧W.cell? ⟨b,o+1,none⟩=some (.int .i64 xn)
theorem LB.below {w:World} {b o:Nat} {xi:ByteArray} {xn:Int} {W W':World} (h:LB w b o xi xn W) (hb:Below W.heap.size W W'):LB w b o xi xn W':=by
 obtain ⟨h0,hl,p0,p1⟩:=h
 have f:=fun x=>hb.cell (p:=⟨b,x,none⟩) hl
 have hs:=hb.size
 exact ⟨h0.trans (hb.mono h0.size),by omega,(f _).trans p0,(f _).trans p1⟩
def OwnN (w:World) (base:Nat) (v:Value) (L:List N):Prop:=w.ownsRow base 209 2 v L.length (cellsAll N.cells L)∧v≠.slice none 0 0
theorem OwnN.open {w:World} {base:Nat} {v:Value} {L:List N} (h:OwnN w base v L):∃g cap,v=.slice (some ⟨g,0,none⟩) L.length cap∧L.length≤cap∧cap≤maxLen∧base≤g∧g<w.heap.size∧Lis (some ⟨g,0,none⟩) L w:=by
 obtain ⟨h,hn⟩:=h
 obtain ⟨ao,cp,e,hm⟩:=own_made (z:=N.zero) N.len h
 rcases h.2 with ⟨h0,h1⟩|⟨g,cap,cur,hv,hbb,hh,h1,h2,_⟩
 ·exact absurd h0 hn
 ·rw [hv] at e
  simp only [Value.slice.injEq] at e
  obtain ⟨rfl,_,rfl⟩:=e
  exact ⟨g,cap,hv,h1,h2,hbb,(Array.getElem?_eq_some_iff.1 hh).1,hm.rws⟩
theorem OwnN.below {w w':World} {base:Nat} {v:Value} {L:List N} (h:OwnN w base v L) (hb:Below w.heap.size w w'):OwnN w' base v L:=⟨own_below h.1 hb,h.2⟩
theorem lis_pt {w:World} {base g cap:Nat} {L:List N} (h:w.ownsRow base 209 2 (.slice (some ⟨g,0,none⟩) L.length cap) L.length (cellsAll N.cells L)):EvtR.Pt g (L.length*2) w:=by
 obtain ⟨ao,cp,e,hm⟩:=own_made (z:=N.zero) N.len h
 simp only [Value.slice.injEq] at e
 obtain ⟨rfl,_,rfl⟩:=e
 rcases hm.own with h0|⟨g',e,_,hp⟩
 ·rcases h.2 with ⟨h0',_⟩|⟨g2,cap2,cur,hv,_,hh,_⟩
  ·cases h0'
  ·simp only [Value.slice.injEq,Option.some.injEq,Addr.mk.injEq,and_true,true_and] at hv
   obtain ⟨rfl,rfl⟩:=hv
   exact ⟨(Array.getElem?_eq_some_iff.1 hh).1,fun o ho=>by omega,fun o ho=>by omega⟩
 ·simp only [Option.some.injEq,Addr.mk.injEq,and_true] at e
  obtain rfl:=e
  exact hp
end NetR
end Go.Proofs.YtnceeaccbcfopaaGreatDoor
