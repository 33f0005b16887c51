/-
  Rows of things of so many cells each, read, written cell by cell, made by append. No condition.
-/
import Derived.OwnWalk
import Derived.Test.YtnceeaccbcfopaaGreatDoorT2
namespace Go.Proofs.YtnceeaccbcfopaaGreatDoor
open Go.ChangeShapes Go.WideShapes Go.ChangeAt Go.RowKit
set_option linter.unusedVariables false
namespace RowG
open EvtR (Pt cell_put cell_far)
theorem H_ {p:Prop} (h:p):Hid p:=h
section
variable {α:Type} (k:Nat) (cells:α→List Value) (z:α)
def AtG (w:World) (b o:Nat) (x:α):Prop:=∀j,j<k→w.cell? ⟨b,o+j,none⟩=(cells x)[j]?
def Rws (ao:Option Addr) (xs:List α) (w:World):Prop:=xs.length=0∨∃b off,ao=some ⟨b,off,none⟩∧b<w.heap.size∧∀j,j<xs.length→AtG k cells w b (off+j*k) (xs.getD j z)
def cellAt (xs:List α) (o:Nat):Option Value:=(cells (xs.getD (o / k) z))[o % k]?
def Wr (f:Nat→Option Value) (j g:Nat) (w:World):Prop:=∀o,o<j→w.cell? ⟨g,o,none⟩=f o
end
section
variable {α:Type} {k:Nat} {cells:α→List Value} {z:α}
theorem AtG.below {w w':World} {b o:Nat} {x:α} (h:AtG k cells w b o x) (hl:b<w.heap.size) (hb:Below w.heap.size w w'):AtG k cells w' b o x :=
 fun j hj=>(hb.cell (p:=⟨b,o+j,none⟩) hl).trans (h j hj)
theorem Rws.below {ao:Option Addr} {xs:List α} {w w':World} (h:Rws k cells z ao xs w) (hb:Below w.heap.size w w'):Rws k cells z ao xs w':=by
 rcases h with h0|⟨b,off,rfl,hlt,hc⟩
 ·exact .inl h0
 ·exact .inr ⟨b,off,rfl,by have:=hb.size;omega,fun j hj=>(hc j hj).below hlt hb⟩
theorem Rws.grown {ao:Option Addr} {xs:List α} {w w':World} {row:Option Nat} (h:Rws k cells z ao xs w) (hg:w.grownBy w' row) (hne:xs.length=0∨∀b off,ao=some ⟨b,off,none⟩→some b≠row):Rws k cells z ao xs w':=by
 rcases h with h0|⟨b,off,rfl,hlt,hc⟩
 ·exact .inl h0
 ·rcases hne with h0|hne
  ·exact .inl h0
  have e:=hg.block b hlt (hne b off rfl)
  exact .inr ⟨b,off,rfl,by have:=hg.size;omega,fun j hj i hi=>(World.cell?_of_block (a:=⟨b,off+j*k+i,none⟩) e).trans (hc j hj i hi)⟩
theorem Rws.at {ao:Option Addr} {xs:List α} {w:World} (h:Rws k cells z ao xs w) (j:Nat) (hj:j<xs.length):∃b off,ao=some ⟨b,off,none⟩∧b<w.heap.size∧AtG k cells w b (off+j*k) (xs.getD j z):=by
 rcases h with h0|⟨b,off,rfl,hlt,hc⟩
 ·omega
 ·exact ⟨b,off,rfl,hlt,hc j hj⟩
theorem getD_mem (xs:List α) (j:Nat) (h:j<xs.length):xs.getD j z∈xs:=by
 have:xs.getD j z=xs[j]:=by simp [List.getD,h]
 rw [this];exact List.getElem_mem h
theorem take_more (xs:List α) (j:Nat) (h:j<xs.length):xs.take (j+1)=xs.take j ++ [xs.getD j z]:=by
 rw [List.take_add_one,List.getElem?_eq_getElem h]
 simp [List.getD,h]
theorem Wr.below {f:Nat→Option Value} {j g m:Nat} {w w':World} (h:Wr f j g w) (hp:Pt g m w) (hb:Below w.heap.size w w'):Wr f j g w' :=
 fun o ho=>(hb.cell (p:=⟨g,o,none⟩) hp.lt).trans (h o ho)
theorem Wr.more {f:Nat→Option Value} {j g m:Nat} {w:World} (h:Wr f j g w) (hp:Pt g m w) (hj:j<m) (v:Value) (hv:f j=some v):Wr f (j+1) g (w.setCell ⟨g,j,none⟩ v):=by
 intro o ho
 by_cases e:j=o
 ·subst e;rw [cell_put hp j hj v,hv]
 ·rw [cell_far j o e v];exact h o (by omega)
theorem Wr.at {xs:List α} {n g:Nat} {w:World} (h:Wr (cellAt k cells z xs) (n*k) g w) (i:Nat) (hi:i<n) (x:Nat) (hx:x<k):w.cell? ⟨g,i*k+x,none⟩=(cells (xs.getD i z))[x]?:=by
 have hlt:i*k+x<n*k:=by
  have:(i+1)*k≤n*k:=Nat.mul_le_mul_right _ hi
  rw [Nat.add_mul,Nat.one_mul] at this
  omega
 rw [h _ hlt]
 unfold cellAt
 rw [show i*k+x=x+k*i by rw [Nat.mul_comm];omega,Nat.add_mul_div_left _ _ (by omega),Nat.div_eq_of_lt hx,Nat.zero_add,Nat.add_mul_mod_self_left,Nat.mod_eq_of_lt hx]
theorem Wr.rws {xs:List α} {g:Nat} {w:World} (h:Wr (cellAt k cells z xs) (xs.length*k) g w) (hl:g<w.heap.size):Rws k cells z (some ⟨g,0,none⟩) xs w :=
 .inr ⟨g,0,rfl,hl,fun j hj i hi=>by rw [Nat.zero_add];exact h.at j hj i hi⟩
theorem cellAt_of {xs:List α} (i x:Nat) (hx:x<k):cellAt k cells z xs (i*k+x)=(cells (xs.getD i z))[x]?:=by
 unfold cellAt
 rw [show i*k+x=x+k*i by rw [Nat.mul_comm];omega,Nat.add_mul_div_left _ _ (by omega),Nat.div_eq_of_lt hx,Nat.zero_add,Nat.add_mul_mod_self_left,Nat.mod_eq_of_lt hx]
def cellsAll (cells:α→List Value) (xs:List α):List Value:=xs.flatMap cells
theorem cellsAll_app (xs:List α) (x:α):cellsAll cells (xs ++ [x])=cellsAll cells xs++cells x:=by simp [cellsAll]
theorem cellsAll_len (hk:∀x,(cells x).length=k) (xs:List α):(cellsAll cells xs).length=xs.length*k:=by
 induction xs with
 | nil=>simp [cellsAll]
 | cons x xs ih=>simp only [cellsAll,List.flatMap_cons,List.length_append,hk,List.length_cons] at *;rw [ih,Nat.add_mul];omega
theorem cellsAll_get (hk:∀x,(cells x).length=k) (xs:List α) (i x:Nat) (hi:i<xs.length) (hx:x<k):(cellsAll cells xs)[i*k+x]? = (cells (xs.getD i z))[x]?:=by
 induction xs generalizing i with
 | nil=>simp at hi
 | cons a xs ih =>
  simp only [cellsAll,List.flatMap_cons]
  cases i with
  | zero =>
   rw [Nat.zero_mul,Nat.zero_add,List.getElem?_append_left (by rw [hk];exact hx)]
   rfl
  | succ i =>
   rw [List.getElem?_append_right (by rw [hk,Nat.add_mul];omega),hk,show (i+1)*k+x-k=i*k+x by rw [Nat.add_mul];omega]
   simp only [List.length_cons] at hi
   exact ih i (by omega)
structure MadeG (k:Nat) (cells:α→List Value) (z:α) (base:Nat) (ao:Option Addr) (xs:List α) (w:World):Prop where
 rws:Rws k cells z ao xs w
 own:xs.length=0∨∃g,ao=some ⟨g,0,none⟩∧base≤g∧Pt g (xs.length*k) w
theorem made_nil (base:Nat) (ao:Option Addr) (w:World):MadeG k cells z base ao [] w:=⟨.inl rfl,.inl rfl⟩
theorem MadeG.below {base:Nat} {ao:Option Addr} {xs:List α} {w w':World} (h:MadeG k cells z base ao xs w) (hb:Below w.heap.size w w'):MadeG k cells z base ao xs w' :=
 ⟨h.rws.below hb,h.own.imp id (fun ⟨g,h1,h2,h3⟩=>⟨g,h1,h2,h3.below hb⟩)⟩
theorem MadeG.low {base base':Nat} {ao:Option Addr} {xs:List α} {w:World} (h:MadeG k cells z base ao xs w) (hb:base'≤base):MadeG k cells z base' ao xs w :=
 ⟨h.rws,h.own.imp id (fun ⟨g,h1,h2,h3⟩=>⟨g,h1,by omega,h3⟩)⟩
theorem own_made (hk:∀x,(cells x).length=k) {w:World} {base T:Nat} {v:Value} {xs:List α} (h:w.ownsRow base T k v xs.length (cellsAll cells xs)):∃ao cap,v=.slice ao xs.length cap∧MadeG k cells z base ao xs w:=by
 rcases h.2 with ⟨h0,h1⟩|⟨g,cap,cur,hv,hg,hh,hc,_,hz,hcur⟩
 ·obtain rfl:xs=[]:=List.length_eq_zero_iff.1 h1
  exact ⟨none,0,h0,made_nil _ _ _⟩
 ·have hm:xs.length*k≤cur.size:=by rw [hz];exact Nat.mul_le_mul_right _ hc
  have hl:=(h.lt g (by rw [hv];rfl)).2
  refine ⟨_,_,hv,.inr ⟨g,0,rfl,hl,fun j hj i hi=>?_⟩,.inr ⟨g,rfl,hg,hl,fun o ho=>?_,fun o ho=>?_⟩⟩
  ·rw [Nat.zero_add,←cellsAll_get hk xs j i hj hi,←hcur]
   have hlt:j*k+i<xs.length*k:=by
    have:(j+1)*k≤xs.length*k:=Nat.mul_le_mul_right _ hj
    rw [Nat.add_mul,Nat.one_mul] at this
    omega
   rw [List.getElem?_take,if_pos hlt]
   simp [World.cell?,hh]
  ·have:o<cur.size:=by omega
   refine ⟨cur[o],?_⟩
   simp [World.cell?,hh,this]
  ·simp [World.frozen?,hh]
end
theorem own_below {w w':World} {base e size n:Nat} {v:Value} {xs:List Value} (h:w.ownsRow base e size v n xs) (hb:Below w.heap.size w w'):w'.ownsRow base e size v n xs:=by
 refine h.kept (row:=none) ⟨hb.os,hb.tape,hb.output,hb.size,fun k hk _=>hb.block k hk⟩ ?_
 rcases hob:v.ownBlock with _|b
 ·exact .inl rfl
 ·exact .inr (by simp)
theorem grown_set (w:World) (b o:Nat) (v:Value):w.grownBy (w.setCell ⟨b,o,none⟩ v) (some b):=by
 refine ⟨rfl,rfl,rfl,by simp,fun k hk hne=>?_⟩
 simp only [World.setCell]
 rw [Array.getElem?_modify,if_neg (fun e=>hne (by rw [e]))]
theorem own_set {w:World} {base e size n:Nat} {v:Value} {xs:List Value} (h:w.ownsRow base e size v n xs) (g o:Nat) (u:Value) (hg:∀b,v.ownBlock=some b→b≠g):(w.setCell ⟨g,o,none⟩ u).ownsRow base e size v n xs:=by
 refine h.kept (grown_set w g o u) ?_
 rcases hob:v.ownBlock with _|b
 ·exact .inl rfl
 ·exact .inr (fun e=>hg b hob (by simpa using e))
end RowG
end Go.Proofs.YtnceeaccbcfopaaGreatDoor
