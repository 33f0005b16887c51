/-
  Small facts that the other texts use: what a call hands back, read as one equation. No condition.
  A row of cells that may be written. No condition.
  Rows of things of so many cells each, read, written cell by cell, made by append. No condition.
  A block of cells that stays. No condition.
  Blocks that may be written, and rows beside them. No condition.
  Cells of a block written one behind another. No condition.
  Memory of one's own that is kept while other memory grows or is written. No condition.
  The law's own mark, a text. The condition: its number is 1 to 99999999.
  Lists of texts that the law is given: how many letters, the law's own copies, held against each other, marked. The condition: at most 1048576 of each.
  What the program calls a name is what the model calls one, of every text of at most 1048576 bytes. No condition.
  The order of texts. No condition.
-/
import Derived.Test.YtmalfhhkjdkadaaGreatDoorRows
import Derived.WalkKit
import Derived.ProofKit
import Derived.OpenShut
import Derived.ShutString
import Derived.Below
import Derived.WalkSpells
import Derived.WalkLawsBesides
import Derived.OwnWalk
import Derived.Lib.ConvBytes
import Derived.Laws.BytesArg
import Derived.Deep.RegionWith
import Derived.Deep.QuietTactic
import Derived.Deep.RegionHeld3
namespace Go.Proofs.YtmalfhhkjdkadaaGreatDoor
theorem SL {α:Type}:(∀(l:List α) (i:Nat) (x:α),l.toArray.setIfInBounds i x=(l.set i x).toArray)∧(∀(x:α) (xs:List α) (b:α),(x::xs).set 0 b=b::xs)∧(∀(x:α) (xs:List α) (n:Nat) (b:α),(x::xs).set (n+1) b=x::xs.set n b) :=
 ⟨fun _ _ _=>List.setIfInBounds_toArray ..,fun _ _ _=>List.set_cons_zero ..,fun _ _ _ _=>List.set_cons_succ ..⟩
theorem tk {P:Program} {ops:Array Oper} {Q:Exit→Act→World→Prop} {md:Region.Mode} {S:World→Prop} {i:Nat} {oi:Oper} {v:Value} {fuel:Nat} {listed:Array Bool} {a:Act} {w:World}
 (hy:∀w,S w→(execOp a.eval oi).run P w=.ok (.value v) w) (h:wpAnyH P md ops Q S fuel (listed.setIfInBounds i true) (a.put oi.dst v) w)
 (hi:ops[i]? = some oi:=by exact rfl) (hs:Region.noSelect ops=true:=by kernel_rfl) (hf:Region.free md ops listed i=true:=by kernel_rfl) (hr:(Region.ready md ops listed).contains i=true:=by kernel_rfl)
 (hQ:∀c a w,Q (.panic c) (a.put oi.dst v) w→Q (.panic c) a w:=by exact fun _ _ _ h=>h) (hw:Region.wanted oi (yielded ops a.tmps)=true:=by rfl) (hS:S w:=by assumption):wpAnyH P md ops Q S (fuel+1) listed a w :=
 wpAnyH_take hi hs hf hr hQ (.inl ⟨hw,hy⟩) hS h
end Go.Proofs.YtmalfhhkjdkadaaGreatDoor
namespace Go.Proofs.YtmalfhhkjdkadaaGreatDoor
open Go.RowKit
theorem ret_bool {a b:Bool} (h:a=b):Ending.returned (.bool a)=.returned (.bool b):=by rw [h]
theorem ret_int {k:IntKind} {a b:Int} (h:a=b):Ending.returned (.int k a)=.returned (.int k b):=by rw [h]
theorem ret_str {a b:ByteArray} (h:a=b):Ending.returned (.string a)=.returned (.string b):=by rw [h]
theorem bcell {W w1:World} (hb:Below W.heap.size W w1):(∀b o,b<W.heap.size→w1.cell? ⟨b,o,none⟩=W.cell? ⟨b,o,none⟩)∧(∀b o,b<W.heap.size→w1.frozen? ⟨b,o,none⟩=W.frozen? ⟨b,o,none⟩) :=
 ⟨fun b o h=>hb.cell (p:=⟨b,o,none⟩) h,fun b o h=>hb.frozen (p:=⟨b,o,none⟩) h⟩
theorem bel_alloc {w w1:World} {o:Obj} (h:Below (w.alloc o).heap.size (w.alloc o) w1):Below w.heap.size w w1 :=
 ((Below.refl _ _).alloc (Nat.le_refl _) _).trans (h.mono (by simp))
theorem bel_alloc_drew {w w1:World} {o:Obj} (h:Below (w.alloc o).drew.heap.size (w.alloc o).drew w1):Below w.heap.size w w1 :=
 (((Below.refl _ _).alloc (Nat.le_refl _) _).drew).trans (h.mono (by simp))
end Go.Proofs.YtmalfhhkjdkadaaGreatDoor
namespace Go.Proofs.YtmalfhhkjdkadaaGreatDoor
open Go.ChangeShapes Go.WideShapes Go.ChangeAt Go.RowKit
set_option linter.unusedVariables false
namespace EvtR
structure Pt (g m:Nat) (w:World):Prop where
 lt:g<w.heap.size
 has:∀o,o<m→∃v,w.cell? ⟨g,o,none⟩=some v
 free:∀o,o<m→w.frozen? ⟨g,o,none⟩=false
theorem Pt.below {g m:Nat} {w w':World} (h:Pt g m w) (hb:Below w.heap.size w w'):Pt g m w' :=
 ⟨by have:=hb.size;have:=h.lt;omega,fun o ho=>by obtain ⟨v,hv⟩:=h.has o ho;exact ⟨v,(hb.cell (p:=⟨g,o,none⟩) h.lt).trans hv⟩,fun o ho=>(hb.frozen (p:=⟨g,o,none⟩) h.lt).trans (h.free o ho)⟩
theorem cell_put {g m:Nat} {w:World} (h:Pt g m w) (o:Nat) (ho:o<m) (v:Value):(w.setCell ⟨g,o,none⟩ v).cell? ⟨g,o,none⟩=some v:=by
 obtain ⟨u,hu⟩:=h.has o ho
 simp [go_sem,hu]
theorem cell_far {g:Nat} {w:World} (o o':Nat) (ho:o≠o') (v:Value):(w.setCell ⟨g,o,none⟩ v).cell? ⟨g,o',none⟩=w.cell? ⟨g,o',none⟩:=by
 simp [go_sem]
theorem Pt.set {g m:Nat} {w:World} (h:Pt g m w) (o:Nat) (v:Value):Pt g m (w.setCell ⟨g,o,none⟩ v):=by
 refine ⟨by simpa using h.lt,fun x hx=>?_,fun x hx=>?_⟩
 ·by_cases e:o=x
  ·subst e;exact ⟨v,cell_put h o hx v⟩
  ·obtain ⟨u,hu⟩:=h.has x hx
   exact ⟨u,(cell_far o x e v).trans hu⟩
 ·have:=h.free x hx
  simp [go_sem,this]
end EvtR
namespace RowG
open EvtR (Pt cell_put cell_far)
theorem hid_intro {p:Prop} (h:p):Hid p:=h
section
variable {α:Type} (k:Nat) (cells:α→List Value) (z:α)
def AtG (w:World) (b o:Nat) (x:α):Prop:=∀j,j<k→w.cell? ⟨b,o+j,none⟩=(cells x)[j]?
def Rws (ao:Option Addr) (xs:List α) (w:World):Prop:=xs.length=0∨∃b off,ao=some ⟨b,off,none⟩∧b<w.heap.size∧∀j,j<xs.length→AtG k cells w b (off+j*k) (xs.getD j z)
def cellAt (xs:List α) (o:Nat):Option Value:=(cells (xs.getD (o / k) z))[o % k]?
def Wr (f:Nat→Option Value) (j g:Nat) (w:World):Prop:=∀o,o<j→w.cell? ⟨g,o,none⟩=f o
end
section
variable {α:Type} {k:Nat} {cells:α→List Value} {z:α}
theorem AtG.below {w w':World} {b o:Nat} {x:α} (h:AtG k cells w b o x) (hl:b<w.heap.size) (hb:Below w.heap.size w w'):AtG k cells w' b o x :=
 fun j hj=>(hb.cell (p:=⟨b,o+j,none⟩) hl).trans (h j hj)
theorem Rws.below {ao:Option Addr} {xs:List α} {w w':World} (h:Rws k cells z ao xs w) (hb:Below w.heap.size w w'):Rws k cells z ao xs w':=by
 rcases h with h0|⟨b,off,rfl,hlt,hc⟩
 ·exact .inl h0
 ·exact .inr ⟨b,off,rfl,by have:=hb.size;omega,fun j hj=>(hc j hj).below hlt hb⟩
theorem Rws.grown {ao:Option Addr} {xs:List α} {w w':World} {row:Option Nat} (h:Rws k cells z ao xs w) (hg:w.grownBy w' row) (hne:xs.length=0∨∀b off,ao=some ⟨b,off,none⟩→some b≠row):Rws k cells z ao xs w':=by
 rcases h with h0|⟨b,off,rfl,hlt,hc⟩
 ·exact .inl h0
 ·rcases hne with h0|hne
  ·exact .inl h0
  have e:=hg.block b hlt (hne b off rfl)
  exact .inr ⟨b,off,rfl,by have:=hg.size;omega,fun j hj i hi=>(World.cell?_of_block (a:=⟨b,off+j*k+i,none⟩) e).trans (hc j hj i hi)⟩
theorem Rws.at {ao:Option Addr} {xs:List α} {w:World} (h:Rws k cells z ao xs w) (j:Nat) (hj:j<xs.length):∃b off,ao=some ⟨b,off,none⟩∧b<w.heap.size∧AtG k cells w b (off+j*k) (xs.getD j z):=by
 rcases h with h0|⟨b,off,rfl,hlt,hc⟩
 ·omega
 ·exact ⟨b,off,rfl,hlt,hc j hj⟩
theorem rws_nil (ao:Option Addr) (w:World):Rws k cells z ao [] w:=.inl rfl
theorem getD_mem (xs:List α) (j:Nat) (h:j<xs.length):xs.getD j z∈xs:=by
 have:xs.getD j z=xs[j]:=by simp [List.getD,h]
 rw [this];exact List.getElem_mem h
theorem take_more (xs:List α) (j:Nat) (h:j<xs.length):xs.take (j+1)=xs.take j ++ [xs.getD j z]:=by
 rw [List.take_add_one,List.getElem?_eq_getElem h]
 simp [List.getD,h]
theorem Wr.below {f:Nat→Option Value} {j g m:Nat} {w w':World} (h:Wr f j g w) (hp:Pt g m w) (hb:Below w.heap.size w w'):Wr f j g w' :=
 fun o ho=>(hb.cell (p:=⟨g,o,none⟩) hp.lt).trans (h o ho)
theorem Wr.more {f:Nat→Option Value} {j g m:Nat} {w:World} (h:Wr f j g w) (hp:Pt g m w) (hj:j<m) (v:Value) (hv:f j=some v):Wr f (j+1) g (w.setCell ⟨g,j,none⟩ v):=by
 intro o ho
 by_cases e:j=o
 ·subst e;rw [cell_put hp j hj v,hv]
 ·rw [cell_far j o e v];exact h o (by omega)
theorem Wr.at {xs:List α} {n g:Nat} {w:World} (h:Wr (cellAt k cells z xs) (n*k) g w) (i:Nat) (hi:i<n) (x:Nat) (hx:x<k):w.cell? ⟨g,i*k+x,none⟩=(cells (xs.getD i z))[x]?:=by
 have hlt:i*k+x<n*k:=by
  have:(i+1)*k≤n*k:=Nat.mul_le_mul_right _ hi
  rw [Nat.add_mul,Nat.one_mul] at this
  omega
 rw [h _ hlt]
 unfold cellAt
 rw [show i*k+x=x+k*i by rw [Nat.mul_comm];omega,Nat.add_mul_div_left _ _ (by omega),Nat.div_eq_of_lt hx,Nat.zero_add,Nat.add_mul_mod_self_left,Nat.mod_eq_of_lt hx]
theorem Wr.rws {xs:List α} {g:Nat} {w:World} (h:Wr (cellAt k cells z xs) (xs.length*k) g w) (hl:g<w.heap.size):Rws k cells z (some ⟨g,0,none⟩) xs w :=
 .inr ⟨g,0,rfl,hl,fun j hj i hi=>by rw [Nat.zero_add];exact h.at j hj i hi⟩
theorem cellAt_of {xs:List α} (i x:Nat) (hx:x<k):cellAt k cells z xs (i*k+x)=(cells (xs.getD i z))[x]?:=by
 unfold cellAt
 rw [show i*k+x=x+k*i by rw [Nat.mul_comm];omega,Nat.add_mul_div_left _ _ (by omega),Nat.div_eq_of_lt hx,Nat.zero_add,Nat.add_mul_mod_self_left,Nat.mod_eq_of_lt hx]
def cellsAll (cells:α→List Value) (xs:List α):List Value:=xs.flatMap cells
theorem cellsAll_app (xs:List α) (x:α):cellsAll cells (xs ++ [x])=cellsAll cells xs++cells x:=by simp [cellsAll]
theorem cellsAll_len (hk:∀x,(cells x).length=k) (xs:List α):(cellsAll cells xs).length=xs.length*k:=by
 induction xs with
 | nil=>simp [cellsAll]
 | cons x xs ih=>simp only [cellsAll,List.flatMap_cons,List.length_append,hk,List.length_cons] at *;rw [ih,Nat.add_mul];omega
theorem cellsAll_get (hk:∀x,(cells x).length=k) (xs:List α) (i x:Nat) (hi:i<xs.length) (hx:x<k):(cellsAll cells xs)[i*k+x]? = (cells (xs.getD i z))[x]?:=by
 induction xs generalizing i with
 | nil=>simp at hi
 | cons a xs ih =>
  simp only [cellsAll,List.flatMap_cons]
  cases i with
  | zero =>
   rw [Nat.zero_mul,Nat.zero_add,List.getElem?_append_left (by rw [hk];exact hx)]
   rfl
  | succ i =>
   rw [List.getElem?_append_right (by rw [hk,Nat.add_mul];omega),hk,show (i+1)*k+x-k=i*k+x by rw [Nat.add_mul];omega]
   simp only [List.length_cons] at hi
   exact ih i (by omega)
structure MadeG (k:Nat) (cells:α→List Value) (z:α) (base:Nat) (ao:Option Addr) (xs:List α) (w:World):Prop where
 rws:Rws k cells z ao xs w
 own:xs.length=0∨∃g,ao=some ⟨g,0,none⟩∧base≤g∧Pt g (xs.length*k) w
theorem made_nil (base:Nat) (ao:Option Addr) (w:World):MadeG k cells z base ao [] w:=⟨.inl rfl,.inl rfl⟩
theorem MadeG.below {base:Nat} {ao:Option Addr} {xs:List α} {w w':World} (h:MadeG k cells z base ao xs w) (hb:Below w.heap.size w w'):MadeG k cells z base ao xs w' :=
 ⟨h.rws.below hb,h.own.imp id (fun ⟨g,h1,h2,h3⟩=>⟨g,h1,h2,h3.below hb⟩)⟩
theorem MadeG.low {base base':Nat} {ao:Option Addr} {xs:List α} {w:World} (h:MadeG k cells z base ao xs w) (hb:base'≤base):MadeG k cells z base' ao xs w :=
 ⟨h.rws,h.own.imp id (fun ⟨g,h1,h2,h3⟩=>⟨g,h1,by omega,h3⟩)⟩
theorem own_made (hk:∀x,(cells x).length=k) {w:World} {base T:Nat} {v:Value} {xs:List α} (h:w.ownsRow base T k v xs.length (cellsAll cells xs)):∃ao cap,v=.slice ao xs.length cap∧MadeG k cells z base ao xs w:=by
 rcases h.2 with ⟨h0,h1⟩|⟨g,cap,cur,hv,hg,hh,hc,_,hz,hcur⟩
 ·obtain rfl:xs=[]:=List.length_eq_zero_iff.1 h1
  exact ⟨none,0,h0,made_nil _ _ _⟩
 ·have hm:xs.length*k≤cur.size:=by rw [hz];exact Nat.mul_le_mul_right _ hc
  have hl:=(h.lt g (by rw [hv];rfl)).2
  refine ⟨_,_,hv,.inr ⟨g,0,rfl,hl,fun j hj i hi=>?_⟩,.inr ⟨g,rfl,hg,hl,fun o ho=>?_,fun o ho=>?_⟩⟩
  ·rw [Nat.zero_add,←cellsAll_get hk xs j i hj hi,←hcur]
   have hlt:j*k+i<xs.length*k:=by
    have:(j+1)*k≤xs.length*k:=Nat.mul_le_mul_right _ hj
    rw [Nat.add_mul,Nat.one_mul] at this
    omega
   rw [List.getElem?_take,if_pos hlt]
   simp [World.cell?,hh]
  ·have:o<cur.size:=by omega
   refine ⟨cur[o],?_⟩
   simp [World.cell?,hh,this]
  ·simp [World.frozen?,hh]
end
theorem own_below {w w':World} {base e size n:Nat} {v:Value} {xs:List Value} (h:w.ownsRow base e size v n xs) (hb:Below w.heap.size w w'):w'.ownsRow base e size v n xs:=by
 refine h.kept (row:=none) ⟨hb.os,hb.tape,hb.output,hb.size,fun k hk _=>hb.block k hk⟩ ?_
 rcases hob:v.ownBlock with _|b
 ·exact .inl rfl
 ·exact .inr (by simp)
theorem grown_set (w:World) (b o:Nat) (v:Value):w.grownBy (w.setCell ⟨b,o,none⟩ v) (some b):=by
 refine ⟨rfl,rfl,rfl,by simp,fun k hk hne=>?_⟩
 simp only [World.setCell]
 rw [Array.getElem?_modify,if_neg (fun e=>hne (by rw [e]))]
theorem own_set {w:World} {base e size n:Nat} {v:Value} {xs:List Value} (h:w.ownsRow base e size v n xs) (g o:Nat) (u:Value) (hg:∀b,v.ownBlock=some b→b≠g):(w.setCell ⟨g,o,none⟩ u).ownsRow base e size v n xs:=by
 refine h.kept (grown_set w g o u) ?_
 rcases hob:v.ownBlock with _|b
 ·exact .inl rfl
 ·exact .inr (fun e=>hg b hob (by simpa using e))
end RowG
end Go.Proofs.YtmalfhhkjdkadaaGreatDoor
namespace Go.Proofs.YtmalfhhkjdkadaaGreatDoor
open Go.ChangeShapes Go.WideShapes Go.ChangeAt Go.RowKit
set_option linter.unusedVariables false
namespace CatR
def Blk (b:Nat) (cs:List Value) (w:World):Prop:=b<w.heap.size∧∀i,i<cs.length→w.cell? ⟨b,i,none⟩=cs[i]?
theorem Blk.below {b:Nat} {cs:List Value} {w w':World} (h:Blk b cs w) (hb:Below w.heap.size w w'):Blk b cs w' :=
 ⟨by have:=hb.size;have:=h.1;omega,fun i hi=>(hb.cell (p:=⟨b,i,none⟩) h.1).trans (h.2 i hi)⟩
theorem Blk.new (w:World) (cs:List Value) (T:TypeId):Blk w.heap.size cs (w.alloc (.cells cs.toArray T)) :=
 ⟨by simp,fun i hi=>by simp [go_sem]⟩
theorem Blk.alloc {b:Nat} {cs:List Value} {w:World} (h:Blk b cs w) (o:Obj):Blk b cs (w.alloc o):=h.below ((Below.refl _ _).alloc (Nat.le_refl _) _)
theorem Blk.drew {b:Nat} {cs:List Value} {w:World} (h:Blk b cs w):Blk b cs w.drew:=h
theorem Blk.drewN {b:Nat} {cs:List Value} {w:World} (h:Blk b cs w) (n:Nat):Blk b cs (w.drewN n):=h
end CatR
namespace DocR
open RowG
open EvtR (Pt)
open CatR (Blk Blk.new)
def BlkW (b:Nat) (cs:List Value) (w:World):Prop:=Blk b cs w∧∀i,i<cs.length→w.frozen? ⟨b,i,none⟩=false
theorem BlkW.below {b:Nat} {cs:List Value} {w w':World} (h:BlkW b cs w) (hb:Below w.heap.size w w'):BlkW b cs w' :=
 ⟨h.1.below hb,fun i hi=>(hb.frozen (p:=⟨b,i,none⟩) h.1.1).trans (h.2 i hi)⟩
theorem BlkW.new (w:World) (cs:List Value) (T:TypeId):BlkW w.heap.size cs (w.alloc (.cells cs.toArray T)) :=
 ⟨Blk.new w cs T,fun i hi=>by simp [go_sem]⟩
theorem BlkW.set {b:Nat} {cs:List Value} {w:World} (h:BlkW b cs w) (o:Nat) (v:Value) (ho:o<cs.length):BlkW b (cs.set o v) (w.setCell ⟨b,o,none⟩ v):=by
 obtain ⟨⟨hl,hc⟩,hf⟩:=h
 refine ⟨⟨by simpa using hl,fun i hi=>?_⟩,fun i hi=>?_⟩
 ·rw [List.length_set] at hi
  by_cases e:o=i
  ·subst e
   have:=hc o hi
   rw [List.getElem?_eq_getElem hi] at this
   rw [List.getElem?_set_self ho]
   simp [go_sem,this]
  ·rw [List.getElem?_set_ne e,←hc i hi]
   simp [go_sem]
 ·rw [List.length_set] at hi
  have:=hf i hi
  simp [go_sem,this]
theorem BlkW.other {b:Nat} {cs:List Value} {w:World} (h:BlkW b cs w) (g o:Nat) (v:Value) (hg:g≠b):BlkW b cs (w.setCell ⟨g,o,none⟩ v):=by
 have e:=(grown_set w g o v).block b h.1.1 (by simp;exact fun q=>hg q.symm)
 exact ⟨⟨by simpa using h.1.1,fun i hi=>(World.cell?_of_block (a:=⟨b,i,none⟩) e).trans (h.1.2 i hi)⟩,fun i hi=>(World.frozen?_of_block (a:=⟨b,i,none⟩) e).trans (h.2 i hi)⟩
theorem Rws.put {α:Type} {k:Nat} {cells:α→List Value} {z:α} {ao:Option Addr} {xs:List α} {w:World} (h:Rws k cells z ao xs w) (g o:Nat) (v:Value) (hne:xs.length=0∨∀b off,ao=some ⟨b,off,none⟩→b≠g):Rws k cells z ao xs (w.setCell ⟨g,o,none⟩ v) :=
 h.grown (grown_set w g o v) (hne.imp id (fun hn b off e q=>hn b off e (by simpa using q)))
theorem MadeG.put {α:Type} {k:Nat} {cells:α→List Value} {z:α} {base:Nat} {ao:Option Addr} {xs:List α} {w:World} (h:MadeG k cells z base ao xs w) (g o:Nat) (v:Value) (hne:xs.length=0∨∀b off,ao=some ⟨b,off,none⟩→b≠g):MadeG k cells z base ao xs (w.setCell ⟨g,o,none⟩ v):=by
 refine ⟨Rws.put h.rws g o v hne,?_⟩
 rcases h.own with h0|⟨b,e1,e2,e3⟩
 ·exact .inl h0
 ·rcases hne with h0|hn
  ·exact .inl h0
  have e:=(grown_set w g o v).block b e3.lt (by simp;exact fun q=>hn b 0 e1 q)
  exact .inr ⟨b,e1,e2,by simpa using e3.lt,fun x hx=>by obtain ⟨u,hu⟩:=e3.has x hx;exact ⟨u,(World.cell?_of_block (a:=⟨b,x,none⟩) e).trans hu⟩,fun x hx=>(World.frozen?_of_block (a:=⟨b,x,none⟩) e).trans (e3.free x hx)⟩
end DocR
namespace StR
open EvtR (Pt cell_put cell_far)
open CatR (Blk)
def stL (W:World) (p:Nat):Nat→List Value→World
 | _,[]=>W
 | o,v::vs=>stL (W.setCell ⟨p,o,none⟩ v) p (o+1) vs
theorem gtr {w w1 w2:World} {g:Option Nat} (h1:w.grownBy w1 g) (h2:w1.grownBy w2 g):w.grownBy w2 g :=
 ⟨h2.os.trans h1.os,h2.tape.trans h1.tape,h2.output.trans h1.output,Nat.le_trans h1.size h2.size,fun k hk hne=>(h2.block k (by have:=h1.size;omega) hne).trans (h1.block k hk hne)⟩
theorem stL_grown (p:Nat):∀(vs:List Value) (o:Nat) (W:World),W.grownBy (stL W p o vs) (some p)
 | [],_,W=>⟨rfl,rfl,rfl,Nat.le_refl _,fun _ _ _=>rfl⟩
 | v::vs,o,W=>gtr (RowG.grown_set W p o v) (stL_grown p vs (o+1) _)
theorem stL_pt {p n:Nat}:∀(vs:List Value) (o:Nat) (W:World),Pt p n W→Pt p n (stL W p o vs)
 | [],_,_,h=>h
 | v::vs,o,W,h=>stL_pt vs (o+1) _ (h.set o v)
theorem stL_old {p:Nat}:∀(vs:List Value) (o:Nat) (W:World) (j:Nat),j<o→(stL W p o vs).cell? ⟨p,j,none⟩=W.cell? ⟨p,j,none⟩
 | [],_,_,_,_=>rfl
 | v::vs,o,W,j,hj=>(stL_old vs (o+1) _ j (by omega)).trans (cell_far o j (by omega) v)
theorem stL_cells {p n:Nat}:∀(vs:List Value) (o:Nat) (W:World),Pt p n W→o+vs.length≤n→∀i,i<vs.length→(stL W p o vs).cell? ⟨p,o+i,none⟩=vs[i]?
 | [],_,_,_,_,i,hi=>absurd hi (by simp)
 | v::vs,o,W,hp,hn,i,hi=>by
  simp only [List.length_cons] at hn hi
  cases i with
  | zero =>
   rw [Nat.add_zero]
   exact (stL_old vs (o+1) _ o (by omega)).trans ((cell_put hp o (by omega) v).trans rfl)
  | succ i =>
   have:=stL_cells vs (o+1) (W.setCell ⟨p,o,none⟩ v) (hp.set o v) (by omega) i (by omega)
   rw [show o+1+i=o+(i+1) by omega] at this
   exact this.trans rfl
theorem stL_blk {p n:Nat} {vs:List Value} {W:World} (hp:Pt p n W) (hn:vs.length≤n):Blk p vs (stL W p 0 vs) :=
 ⟨(stL_pt vs 0 W hp).lt,fun i hi=>by have:=stL_cells vs 0 W hp (by omega) i hi;rw [Nat.zero_add] at this;exact this⟩
theorem pt_far {p q n:Nat} {W W':World} (h:Pt p n W) (hg:W.grownBy W' (some q)) (hne:p≠q):Pt p n W':=by
 have e:=hg.block p h.lt (by simpa using hne)
 exact ⟨by have:=hg.size;have:=h.lt;omega,fun o ho=>by obtain ⟨v,hv⟩:=h.has o ho;exact ⟨v,(World.cell?_of_block (a:=⟨p,o,none⟩) e).trans hv⟩,fun o ho=>(World.frozen?_of_block (a:=⟨p,o,none⟩) e).trans (h.free o ho)⟩
theorem blk_far {p q:Nat} {cs:List Value} {W W':World} (h:Blk p cs W) (hg:W.grownBy W' (some q)) (hne:p≠q):Blk p cs W':=by
 have e:=hg.block p h.1 (by simpa using hne)
 exact ⟨by have:=hg.size;have:=h.1;omega,fun i hi=>(World.cell?_of_block (a:=⟨p,i,none⟩) e).trans (h.2 i hi)⟩
theorem pt_new (w:World) (cs:List Value) (T:TypeId):Pt w.heap.size cs.length (w.alloc (.cells cs.toArray T)) :=
 ⟨by simp,fun o ho=>⟨cs[o],by simp [go_sem,ho]⟩,fun o ho=>by simp [go_sem]⟩
end StR
namespace OwG
open RowG (MadeG Rws cellsAll)
open EvtR (Pt)
open CatR (Blk Blk.new)
open DocR (BlkW)
theorem gtransO {w w1 w2:World} {g:Option Nat} (h1:w.grownBy w1 g) (h2:w1.grownBy w2 g):w.grownBy w2 g :=
 ⟨h2.os.trans h1.os,h2.tape.trans h1.tape,h2.output.trans h1.output,Nat.le_trans h1.size h2.size,fun k hk hne=>(h2.block k (by have:=h1.size;omega) hne).trans (h1.block k hk hne)⟩
theorem rgrownO {w w':World} (hb:Below w.heap.size w w') (row:Option Nat):w.grownBy w' row:=⟨hb.os,hb.tape,hb.output,hb.size,fun k hk _=>hb.block k hk⟩
theorem gnewG {w wx wy:World} {g X:Nat} (h:w.grownBy wx (some g)) (hg:wx.grownBy wy (some X)) (hX:w.heap.size≤X):w.grownBy wy (some g):=by
 refine ⟨hg.os.trans h.os,hg.tape.trans h.tape,hg.output.trans h.output,Nat.le_trans h.size hg.size,fun k hk hne=>?_⟩
 have hs:=h.size
 exact (hg.block k (by omega) (by intro e;cases e;omega)).trans (h.block k hk hne)
theorem gnewR {w wx wy:World} {g:Nat} {row:Option Nat} (h:w.grownBy wx (some g)) (hg:wx.grownBy wy row) (hX:∀X,row=some X→w.heap.size≤X):w.grownBy wy (some g):=by
 refine ⟨hg.os.trans h.os,hg.tape.trans h.tape,hg.output.trans h.output,Nat.le_trans h.size hg.size,fun k hk hne=>?_⟩
 have hs:=h.size
 exact (hg.block k (by omega) (by intro e;have:=hX k e.symm;omega)).trans (h.block k hk hne)
theorem galloc {w wx:World} {g:Nat} (h:w.grownBy wx (some g)) (o:Obj):w.grownBy (wx.alloc o) (some g):=gtransO h (World.grownBy_alloc wx o _)
theorem blkW_grown {b:Nat} {cs:List Value} {w w':World} {row:Option Nat} (h:BlkW b cs w) (hg:w.grownBy w' row) (hne:some b≠row):BlkW b cs w':=by
 have e:=hg.block b h.1.1 hne
 exact ⟨⟨Nat.lt_of_lt_of_le h.1.1 hg.size,fun i hi=>(World.cell?_of_block (a:=⟨b,i,none⟩) e).trans (h.1.2 i hi)⟩,fun i hi=>(World.frozen?_of_block (a:=⟨b,i,none⟩) e).trans (h.2 i hi)⟩
theorem blkW_pt {b n:Nat} {cs:List Value} {w:World} (h:BlkW b cs w) (hn:cs.length=n):Pt b n w:=by
 subst hn
 exact ⟨h.1.1,fun o ho=>⟨cs[o],by rw [h.1.2 o ho];simp [ho]⟩,h.2⟩
theorem stL_blkW {b:Nat} {cs vs:List Value} {w:World} (h:BlkW b cs w) (hn:cs.length=vs.length):BlkW b vs (StR.stL w b 0 vs):=by
 have hp:=blkW_pt h hn
 exact ⟨StR.stL_blk hp (Nat.le_refl _),fun i hi=>(StR.stL_pt vs 0 w hp).free i hi⟩
theorem pt_row {p n:Nat} {W W':World} {row:Option Nat} (h:Pt p n W) (hg:W.grownBy W' row) (hne:some p≠row):Pt p n W':=by
 have e:=hg.block p h.lt hne
 exact ⟨by have:=hg.size;have:=h.lt;omega,fun o ho=>by obtain ⟨v,hv⟩:=h.has o ho;exact ⟨v,(World.cell?_of_block (a:=⟨p,o,none⟩) e).trans hv⟩,fun o ho=>(World.frozen?_of_block (a:=⟨p,o,none⟩) e).trans (h.free o ho)⟩
theorem own_keepG {w w':World} {base e size n:Nat} {v:Value} {xs:List Value} {g:Nat} (h:w.ownsRow base e size v n xs) (hg:w.grownBy w' (some g)) (hlt:g<base):w'.ownsRow base e size v n xs:=by
 refine h.kept hg ?_
 rcases hob:v.ownBlock with _|b
 ·exact .inl rfl
 ·refine .inr (fun e=>?_)
  have:=(h.lt b hob).1
  simp only [Option.some.injEq] at e
  omega
theorem own_apart {w:World} {base e size n base' e' size' n':Nat} {v v':Value} {xs xs':List Value} (h:w.ownsRow base e size v n xs) (h':w.ownsRow base' e' size' v' n' xs') (hT:e'≠e):∀b,v.ownBlock=some b→some b≠v'.ownBlock:=by
 intro b hb q
 rcases h.2 with ⟨h0,_⟩|⟨g,cap,cur,hv,_,hh,_⟩
 ·rw [h0] at hb;simp [Value.ownBlock] at hb
 ·rw [hv] at hb
  simp only [Value.ownBlock,Option.some.injEq] at hb
  rcases h'.2 with ⟨h0,_⟩|⟨g2,cap2,cur2,hv2,_,hh2,_⟩
  ·rw [h0] at q;simp [Value.ownBlock] at q
  ·rw [hv2] at q
   simp only [Value.ownBlock,Option.some.injEq] at q
   subst hb
   subst q
   rw [hh2] at hh
   simp at hh
   exact hT hh.2
theorem own_keepO {w w':World} {base e size n:Nat} {v:Value} {xs:List Value} {row:Option Nat} (h:w.ownsRow base e size v n xs) (hg:w.grownBy w' row) (hne:∀b,v.ownBlock=some b→some b≠row):w'.ownsRow base e size v n xs:=by
 refine h.kept hg ?_
 rcases hob:v.ownBlock with _|b
 ·exact .inl rfl
 ·exact .inr (hne b hob)
theorem own_low {w:World} {base base' e size n:Nat} {v:Value} {xs:List Value} (h:w.ownsRow base e size v n xs) (hb:base'≤base):w.ownsRow base' e size v n xs:=by
 refine ⟨h.1,?_⟩
 rcases h.2 with hn|⟨g,cap,cur,rfl,h1,rest⟩
 ·exact .inl hn
 ·exact .inr ⟨g,cap,cur,rfl,by omega,rest⟩
theorem own_form {w:World} {base e size n:Nat} {v:Value} {xs:List Value} (h:w.ownsRow base e size v (n+1) xs):∃b c,v=.slice (some ⟨b,0,none⟩) (n+1) c:=by
 rcases h.2 with ⟨_,h0⟩|⟨g,cap,cur,hv,_⟩
 ·omega
 ·exact ⟨_,_,hv⟩
theorem cellsAll_snoc {α:Type} (cells:α→List Value) (l:List α) (x:α):cellsAll cells (l ++ [x])=cellsAll cells l++cells x:=by simp [cellsAll]
theorem stay {P:Nat→Option Nat} (h:∀k,P k=none→P (k+1)=none) {i:Nat} (hi:P i=none):∀n,P (i+n)=none
 | 0=>hi
 | n+1=>h _ (stay h hi n)
theorem s_nil {s:ByteArray} (h:s.size=0):s=⟨#[]⟩:=by
 apply ByteArray.ext
 exact Array.eq_empty_of_size_eq_zero h
theorem new_cells (w:World) (cs:List Value) (T:TypeId):∀j u,cs[j]? = some u→(w.alloc (.cells cs.toArray T)).cell? ((⟨w.heap.size,0,none⟩:Addr).add j)=some u:=by
 intro j u hj
 have hl:=(List.getElem?_eq_some_iff.1 hj).1
 have:=(Blk.new w cs T).2 j hl
 rw [hj] at this
 rw [←this]
 congr 1
 unfold Addr.add;split<;>simp_all
end OwG
namespace MarkR
theorem hid_intro {p:Prop} (h:p):Hid p:=h
theorem conv_m (w:World) (z:Int):(convert 203 9 (.slice (some ⟨w.heap.size,0,none⟩) 1 1)).run Tryz.prog (w.alloc (Obj.cells #[.int .u8 z] 5))=.ok (.string (strOfNums [z])) (w.alloc (Obj.cells #[.int .u8 z] 5)):=by
 refine run_convert_bytes_arg _ 203 5 Tryz.underlying203 Tryz.underlying5 w.heap.size 0 1 1 _ rfl ?_ 9 Tryz.underlying9
 intro i hi
 match i,hi with
 | 0,_=>simp [go_sem]
def mk:Nat→Nat→ByteArray→ByteArray
 | 0,_,out=>out
 | f+1,k,out=>if k=0 then out else mk f (k / 10) (strOfNums [48+((k % 10:Nat):Int)]++out)
def mT (k:Nat):ByteArray:=(⟨#[109]⟩:ByteArray)++mk 9 k ⟨#[]⟩
set_option maxRecDepth 100000 in
set_option maxHeartbeats 4000000 in
theorem mark_any (K:Nat) (h0:1≤K) (h:K<100000000) (w:World):Calls Tryz.prog 86 #[.int .i64 K] w fun e w'=>e=.returned (.string (mT K))∧Below w.heap.size w w':=by
 have h1:¬(K:Int)≤0:=by omega
 have HT:Hid (mT K=(⟨#[109]⟩:ByteArray)++mk 9 K ⟨#[]⟩):=rfl
 generalize mT K=R at *
 go_enter Tryz.func86,Tryz.ntmps86
 go_wp2_with fail
 go_loopw [0,3] (fun x z wr=>∃(f k:Nat) (out:ByteArray),x=.int .i64 (k:Int)∧z=.string out∧k<10 ^ f∧f≤9∧Hid (mk 9 K ⟨#[]⟩=mk f k out)∧out.size+f=9∧Hid (Below w.heap.size w wr)) (fun x _ _=>(intOf x).toNat)
 case atStart=>exact ⟨9,K,⟨#[]⟩,rfl,rfl,by omega,by omega,rfl,rfl,hid_intro (Below.refl _ _)⟩
 case round =>
  obtain ⟨f,k,out,rfl,rfl,hk,hf,HD,hz,HB⟩:=hrel
  by_cases hk0:k=0
  ·subst hk0
   have HO:Hid (R=(⟨#[109]⟩:ByteArray)++out):=hid_intro (by rw [HT.out,HD.out];cases f<;>simp [mk])
   have q1:¬9223372036854775807<1+out.size:=by omega
   go_wp2_with fail
   go_ret
   exact ⟨ret_str HO.out.symm,HB.out⟩
  ·obtain ⟨g,rfl⟩:∃g,f=g+1:=⟨f-1,by rcases f with _|f;simp at hk;omega;omega⟩
   have hk2:k / 10<10 ^ g:=by rw [Nat.pow_succ] at hk;omega
   have HD2:Hid (mk 9 K ⟨#[]⟩=mk g (k / 10) (strOfNums [48+((k % 10:Nat):Int)]++out)):=hid_intro (by rw [HD.out,mk,if_neg hk0])
   have hkb:k<1000000000:=by
    have:10 ^ (g+1)≤10 ^ 9:=Nat.pow_le_pow_right (by omega) hf
    omega
   have k1:(0:Int)<(k:Int):=by omega
   have e1:(k:Int) % 10=((k % 10:Nat):Int):=by omega
   have e2:(k:Int) / 10=((k / 10:Nat):Int):=by omega
   have e3:(k:Int).tmod 10=((k % 10:Nat):Int):=by rw [Int.tmod_eq_emod_of_nonneg (by omega)];omega
   have e4:(k:Int).tdiv 10=((k / 10:Nat):Int):=by rw [Int.tdiv_eq_ediv_of_nonneg (by omega)];omega
   have d10:k % 10<10:=by omega
   have dk:k / 10<k:=by omega
   have hC:(strOfNums [48+((k % 10:Nat):Int)]).size=1:=strOfNums_size _
   have hcv:=conv_m wr (48+((k % 10:Nat):Int))
   generalize k % 10=d at *
   generalize k / 10=q at *
   generalize strOfNums [48+(d:Int)]=T at *
   have q1:¬9223372036854775807<T.size+out.size:=by omega
   have HDk:=hid_intro dk
   clear dk hk HD
   go_wp2_with fail
   go_roundw
   case rel=>exact ⟨g,q,T++out,rfl,rfl,hk2,by omega,HD2,by rw [ByteArray.size_append];omega,hid_intro (HB.out.alloc HB.out.size _)⟩
   case measure=>simp [intOf];have:=HDk.out;omega
end MarkR
namespace StxR
open RowG
open EvtR (Pt)
open MarkR (mk mT)
theorem bdN {B:Nat} {a w:World} (h:Below B a w) (n:Nat):Below B a (w.drewN n):=⟨h.os,h.tape,h.output,h.size,h.block⟩
def tz:ByteArray:=⟨#[]⟩
def tcells (t:ByteArray):List Value:=[.string t]
theorem t_len (t:ByteArray):(tcells t).length=1:=rfl
def Tgs (ao:Option Addr) (ts:List ByteArray) (w:World):Prop:=Rws 1 tcells tz ao ts w
theorem Tgs.below {ao:Option Addr} {ts:List ByteArray} {w w':World} (h:Tgs ao ts w) (hb:Below w.heap.size w w'):Tgs ao ts w':=Rws.below h hb
theorem Tgs.at {ao:Option Addr} {ts:List ByteArray} {w:World} (h:Tgs ao ts w) (j:Nat) (hj:j<ts.length):∃b off,ao=some ⟨b,off,none⟩∧b<w.heap.size∧w.cell? ⟨b,off+j,none⟩=some (.string (ts.getD j tz)):=by
 obtain ⟨b,off,h1,h2,h3⟩:=Rws.at h j hj
 have:=h3 0 (by omega)
 rw [Nat.mul_one] at this
 exact ⟨b,off,h1,h2,this⟩
def tsz (ts:List ByteArray):Int:=(ts.map (fun t=>(t.size:Int))).sum
theorem tsz_nn (ts:List ByteArray):0≤tsz ts:=by
 unfold tsz
 induction ts with
 | nil=>simp
 | cons e es ih=>simp only [List.map_cons,List.sum_cons];omega
theorem tsz_take (ts:List ByteArray) (k:Nat) (h:k<ts.length):tsz (ts.take (k+1))=tsz (ts.take k)+((ts.getD k tz).size:Int):=by
 unfold tsz
 rw [take_more (z:=tz) ts k h,List.map_append,List.sum_append]
 simp
theorem tsz_le (ts:List ByteArray) (k:Nat):tsz (ts.take k)≤tsz ts:=by
 have:=tsz_nn (ts.drop k)
 have e:tsz ts=tsz (ts.take k)+tsz (ts.drop k):=by
  unfold tsz
  rw [←List.sum_append,←List.map_append,List.take_append_drop]
 omega
theorem tsz_mem {ts:List ByteArray} {t:ByteArray} (h:t∈ts):(t.size:Int)≤tsz ts:=by
 unfold tsz
 induction ts with
 | nil=>simp at h
 | cons e es ih =>
  have:=tsz_nn es
  unfold tsz at this
  simp only [List.map_cons,List.sum_cons]
  rcases List.mem_cons.1 h with rfl|h
  ·omega
  ·have:=ih h;omega
def tszR (ts:List ByteArray) (left:Int):Int:=if (ts.length:Int)+tsz ts≤left then left-(ts.length:Int)-tsz ts else -1
set_option maxHeartbeats 4000000 in
theorem szT_any (ao:Option Addr) (cap:Nat) (ts:List ByteArray) (left:Int) (w:World) (hm:ts.length≤maxLen) (h0:0≤left) (h1:left≤1048576) (hI:Tgs ao ts w) (hw:∀t∈ts,t.size≤maxLen) :
 Calls Tryz.prog 91 #[.slice ao ts.length cap,.int .i64 left] w fun e w'=>e=.returned (.int .i64 (tszR ts left))∧Below w.heap.size w w':=by
 obtain ⟨len,hlen⟩:∃len,len=ts.length:=⟨_,rfl⟩
 rw [←hlen] at hm ⊢
 have HZ:=hid_intro hlen
 have HI:=hid_intro hI
 have HW:=hid_intro hw
 have HR:Hid (tszR ts left=if (ts.length:Int)+tsz ts≤left then left-(ts.length:Int)-tsz ts else -1):=rfl
 generalize tszR ts left=R at *
 unfold maxLen at hm
 clear hI hw hlen
 by_cases hbig:left<(len:Int)
 ·have hl2:left-(len:Int)<0:=by omega
  have HN:Hid (R=-1):=hid_intro (by rw [HR.out,if_neg];have:=tsz_nn ts;have:=HZ.out;omega)
  go_enter Tryz.func91,Tryz.ntmps91
  go_wp2_with fail
  go_ret
  exact ⟨ret_int HN.out.symm,Below.refl _ _⟩
 have hl:(len:Int)≤1048576:=by omega
 have hl2:¬left-(len:Int)<0:=by omega
 go_enter Tryz.func91,Tryz.ntmps91
 go_wp2_with fail
 go_loopw [5,1] (fun x y w'=>∃(j:Nat) (L:Int),j≤len∧x=.int .i64 j∧y=.int .i64 L∧0≤L∧L≤1048576∧Hid (L=left-(len:Int)-tsz (ts.take j))∧Hid (Below w.heap.size w w')) (fun x y w'=>len-(intOf x).toNat)
 case atStart=>exact ⟨0,left-(len:Int),Nat.zero_le _,rfl,rfl,by omega,by omega,hid_intro (by simp [tsz]),hid_intro (Below.refl _ _)⟩
 case round =>
  obtain ⟨j,L,hj,rfl,rfl,l0,l1,HL,HB⟩:=hrel
  by_cases hlt:j<len
  ·obtain ⟨b,off,rfl,hbl,c0⟩:=(HI.out.below HB.out).at j (by have:=HZ.out;omega)
   have HS:=hid_intro (tsz_take ts j (by have:=HZ.out;omega))
   have q1:=HW.out _ (getD_mem (z:=tz) ts j (by have:=HZ.out;omega))
   unfold maxLen at q1
   generalize ts.getD j tz=X at *
   have hlt2:(j:Int)<(len:Int):=by omega
   by_cases hs:(X.size:Int)≤L
   ·have HN:Hid (L-(X.size:Int)=left-(len:Int)-tsz (ts.take (j+1))):=hid_intro (by rw [HS.out,HL.out];omega)
    have r2:¬L-(X.size:Int)<0:=by omega
    go_wp2_with fail
    go_roundw
    case rel=>exact ⟨j+1,_,by omega,by go_num,rfl,by omega,by omega,HN,HB⟩
    case measure=>simp [intOf];omega
   ·have HN:Hid (R=-1):=hid_intro (by rw [HR.out,if_neg];have:=tsz_le ts (j+1);have:=HS.out;have:=HL.out;have:=HZ.out;omega)
    have r2:L-(X.size:Int)<0:=by omega
    go_wp2_with fail
    go_ret
    exact ⟨ret_int HN.out.symm,HB.out⟩
  ·obtain rfl:j=len:=by omega
   have hlt2:¬(j:Int)<(j:Int):=by omega
   have HN:Hid (R=L):=hid_intro (by
    have e:=HL.out
    rw [List.take_of_length_le (by have:=HZ.out;omega)] at e
    rw [HR.out,if_pos (by have:=HZ.out;omega)];have:=HZ.out;omega)
   go_wp2_with fail
   go_ret
   exact ⟨ret_int HN.out.symm,HB.out⟩
theorem infoT:(Tryz.prog.info? 9).map (fun i=>(i.zero,i.size,i.bytes))=some (some (.string ⟨#[]⟩),1,16):=by kernel_rfl
theorem row_full {w:World} {base e g n s:Nat} {xs:List Value} (h:w.ownsRow base e s (.slice (some ⟨g,0,none⟩) n n) n xs):Pt g (n*s) w:=by
 rcases h.2 with ⟨h1,_⟩|⟨g',cap,cur,h1,_,hg,_,_,hs,_⟩
 ·simp at h1
 ·simp at h1
  obtain ⟨rfl,rfl⟩:=h1
  refine ⟨(Array.getElem?_eq_some_iff.1 hg).1,fun o ho=>⟨cur[o]'(by omega),?_⟩,fun o ho=>?_⟩
  ·have:o<cur.size:=by omega
   simp [World.cell?,hg,this]
  ·simp [World.frozen?,hg]
theorem fill_step {f:Nat→Option Value} {w wr:World} {m j:Nat} (hb:Below w.heap.size w wr) (hp:Pt w.heap.size m wr) (hw:Wr f j w.heap.size wr) (hj:j<m) (v:Value) (hv:f j=some v) :
 Below w.heap.size w (wr.setCell ⟨w.heap.size,j,none⟩ v)∧Pt w.heap.size m (wr.setCell ⟨w.heap.size,j,none⟩ v)∧Wr f (j+1) w.heap.size (wr.setCell ⟨w.heap.size,j,none⟩ v) :=
 ⟨hb.setCell (Nat.le_refl _) _,hp.set _ _,hw.more hp hj v hv⟩
theorem cellT (ts:List ByteArray) (o:Nat):cellAt 1 tcells tz ts o=some (.string (ts.getD o tz)):=by
 unfold cellAt
 rw [Nat.div_one,Nat.mod_one]
 rfl
set_option maxRecDepth 100000 in
set_option maxHeartbeats 4000000 in
theorem toTs_any (ao:Option Addr) (cap:Nat) (ts:List ByteArray) (w:World) (hlen:ts.length≤1048576) (hI:Tgs ao ts w) :
 Calls Tryz.prog 110 #[.slice ao ts.length cap] w fun e w'=>e=.returned (.slice (some ⟨w.heap.size,0,none⟩) ts.length ts.length)∧Tgs (some ⟨w.heap.size,0,none⟩) ts w'∧Pt w.heap.size ts.length w'∧Below w.heap.size w w':=by
 obtain ⟨i0,hi,hz0,hz1,hz2⟩:=info_parts infoT
 have HI:=hid_intro hI
 have HWS:Hid (∀wr,Wr (cellAt 1 tcells tz ts) (ts.length*1) w.heap.size wr→w.heap.size<wr.heap.size→Tgs (some ⟨w.heap.size,0,none⟩) ts wr):=hid_intro (fun wr h hl=>Wr.rws h hl)
 obtain ⟨len,hl⟩:∃len,len=ts.length:=⟨_,rfl⟩
 rw [←hl] at hlen HWS ⊢
 have HL:=hid_intro hl
 clear hI hl
 go_enter Tryz.func110,Tryz.ntmps110
 go_wp2_with (at_make;refine wpList_make_full _ rfl _ _ 92 rfl w.heap.size 9 i0 (.string ⟨#[]⟩) 1 Tryz.underlying92 hi hz0 hz1 .i64 .i64 _ _ len rfl rfl rfl rfl ?b2 ?b3 ?b4 ?_)
 case b2=>rw [hz2];omega
 case b3=>unfold maxLen;omega
 case b4=>exact Nat.le_refl _
 intro wm hown hgrow
 have HB0:Hid (Below w.heap.size w wm):=hid_intro ((Below.refl _ _).grown hgrow (Nat.le_refl _) (fun k e=>by cases e))
 have HP0:=hid_intro (row_full hown)
 clear hown hgrow hi hz0 hz1 hz2
 go_wp2_with fail
 go_loopw [4] (fun z wr=>∃k:Nat,k≤len∧z=.int .i64 k∧Hid (Below w.heap.size w wr)∧Hid (Pt w.heap.size (len*1) wr)∧Hid (Wr (cellAt 1 tcells tz ts) k w.heap.size wr)) (fun z _=>len-(intOf z).toNat)
 case atStart=>exact ⟨0,by omega,rfl,HB0,HP0,hid_intro (fun o ho=>absurd ho (by omega))⟩
 case round =>
  obtain ⟨k,hk,rfl,HB,HP,HW⟩:=hrel
  by_cases hlt:k<len
  ·have hlt2:(k:Int)<(len:Int):=by omega
   obtain ⟨b,off,rfl,hbl,c0⟩:=(HI.out.below HB.out).at k (by have:=HL.out;omega)
   have HS0:=hid_intro (fill_step HB.out HP.out HW.out (by omega) (.string (ts.getD k tz)) (cellT ts k))
   generalize ts.getD k tz=X at *
   obtain ⟨v0,d0⟩:=HP.out.has k (by omega)
   have z0:=HP.out.free k (by omega)
   go_wp2_with fail
   go_roundw
   case rel=>exact ⟨k+1,by omega,by go_num,hid_intro HS0.out.1,hid_intro HS0.out.2.1,hid_intro HS0.out.2.2⟩
   case measure=>simp [intOf];omega
  ·have hlt2:¬(k:Int)<(len:Int):=by omega
   obtain rfl:k=len:=by omega
   go_wp2_with fail
   go_ret
   exact ⟨rfl,HWS.out _ (by rw [Nat.mul_one];exact HW.out) HP.out.lt,(by have h:=HP.out;rwa [Nat.mul_one] at h),HB.out⟩
set_option maxHeartbeats 4000000 in
theorem eqTs_any (ao bo:Option Addr) (cap cap':Nat) (ts:List ByteArray) (w:World) (hlen:ts.length≤1048576) (hI:Tgs ao ts w) (hJ:Tgs bo ts w) :
 Calls Tryz.prog 135 #[.slice ao ts.length cap,.slice bo ts.length cap'] w fun e w'=>e=.returned (.bool true)∧Below w.heap.size w w':=by
 have HI:=hid_intro hI
 have HJ:=hid_intro hJ
 obtain ⟨len,hl⟩:∃len,len=ts.length:=⟨_,rfl⟩
 rw [←hl] at hlen ⊢
 have HL:=hid_intro hl
 clear hI hJ hl
 go_enter Tryz.func135,Tryz.ntmps135
 go_wp2_with fail
 go_loopw [5] (fun z wr=>∃k:Nat,k≤len∧z=.int .i64 k∧Hid (Below w.heap.size w wr)) (fun z _=>len-(intOf z).toNat)
 case atStart=>exact ⟨0,by omega,rfl,hid_intro (Below.refl _ _)⟩
 case round =>
  obtain ⟨k,hk,rfl,HW⟩:=hrel
  by_cases hlt:k<len
  ·have hlt2:(k:Int)<(len:Int):=by omega
   obtain ⟨b,off,rfl,_,c0⟩:=(HI.out.below HW.out).at k (by have:=HL.out;omega)
   obtain ⟨b',off',rfl,_,e0⟩:=(HJ.out.below HW.out).at k (by have:=HL.out;omega)
   generalize ts.getD k tz=X at *
   go_wp2_with fail
   try (go_quiet (fail);go_wp2_with fail)
   go_roundw
   case rel=>exact ⟨k+1,by omega,by go_num,hid_intro (by first|exact HW.out|exact bdN HW.out _)⟩
   case measure=>simp [intOf];omega
  ·have hlt2:¬(k:Int)<(len:Int):=by omega
   go_wp2_with fail
   go_ret
   exact ⟨rfl,HW.out⟩
def mtC (K o:Nat):Option Value:=some (.string (mT (K+o)))
theorem mark_st {f:Nat→Option Value} {g m j:Nat} {w0 w:World} (hp:Pt g m w) (hm:Wr f j g w) (hg:w0.grownBy w (some g)) (hj:j<m) (v:Value) (hv:f j=some v) :
 Pt g m (w.setCell ⟨g,j,none⟩ v)∧Wr f (j+1) g (w.setCell ⟨g,j,none⟩ v)∧w0.grownBy (w.setCell ⟨g,j,none⟩ v) (some g) :=
 ⟨hp.set _ _,hm.more hp hj v hv,OwG.gtransO hg (grown_set _ g _ _)⟩
set_option maxRecDepth 100000 in
set_option maxHeartbeats 4000000 in
theorem markT (g n cap K:Nat) (w:World) (hn:n≤1048576) (hK:1≤K∧K≤10000000) (h0:Pt g n w) :
 Calls Tryz.prog 87 #[.slice (some ⟨g,0,none⟩) n cap,.int .i64 K] w fun e w'=>e=.returned (.int .i64 (K+n:Nat))∧Pt g n w'∧Wr (mtC K) n g w'∧w.grownBy w' (some g):=by
 have HP:=hid_intro h0
 obtain ⟨k1,k2⟩:=hK
 have HT:Hid (∀(z:Int) (L:Nat),z=L→1≤L→L<100000000→∀w,Calls Tryz.prog 86 #[.int .i64 z] w fun e w'=>e=.returned (.string (mT L))∧Below w.heap.size w w'):=hid_intro (fun z L e h0 h w=>by subst e;exact MarkR.mark_any L h0 h w)
 clear h0
 go_enter Tryz.func87,Tryz.ntmps87
 go_wp2_with fail
 go_loopw [5,1] (fun x z wr=>∃i:Nat,x=.int .i64 (i:Int)∧z=.int .i64 ((K:Int)+(i:Int))∧i≤n∧Hid (Pt g n wr)∧Hid (Wr (mtC K) i g wr)∧Hid (w.grownBy wr (some g))) (fun x _ _=>n-(intOf x).toNat)
 case atStart=>exact ⟨0,rfl,by simp,by omega,HP,hid_intro (fun o ho=>absurd ho (by omega)),hid_intro ⟨rfl,rfl,rfl,Nat.le_refl _,fun _ _ _=>rfl⟩⟩
 case round =>
  obtain ⟨i,rfl,rfl,hi,HP,HM,HG⟩:=hrel
  by_cases hin:i=n
  ·subst hin
   go_wp2_with fail
   go_ret
   exact ⟨by go_num,HP.out,HM.out,HG.out⟩
  ·have h1:(i:Int)<(n:Int):=by omega
   go_wp2_with fail
   refine (HT.out _ (K+i) (by push_cast;omega) (by omega) (by omega) _).mono ?_
   rintro e w1 ⟨rfl,hb⟩
   have HP1:=hid_intro (HP.out.below hb)
   have HM1:=hid_intro (HM.out.below HP.out hb)
   have HG1:=hid_intro (OwG.gtransO HG.out (OwG.rgrownO hb _))
   obtain ⟨v0,c0⟩:=HP1.out.has i (by omega)
   have f0:=HP1.out.free i (by omega)
   have HS:=hid_intro (mark_st HP1.out HM1.out HG1.out (by omega) (.string (mT (K+i))) rfl)
   clear hb HP HM HG HP1 HM1 HG1
   go_wp2_with fail
   go_roundw
   case rel=>exact ⟨i+1,by go_num,by (congr 1)<;>omega,by omega,hid_intro HS.out.1,hid_intro HS.out.2.1,hid_intro HS.out.2.2⟩
   case measure=>simp [intOf];omega
end StxR
end Go.Proofs.YtmalfhhkjdkadaaGreatDoor
namespace Go.Proofs.YtmalfhhkjdkadaaGreatDoor
open Go.ChangeShapes Go.WideShapes Go.ChangeAt Go.RowKit
open Go.ChangeMaps (open_string shut_string)
namespace NameR
def okAt (i:Nat) (c:Int):Bool:=decide ((97≤c∧c≤122)∨(i≠0∧((48≤c∧c≤57)∨c=95)))
def upTo (s:ByteArray) (k:Nat):Prop:=∀i (h:i<s.size),i<k→okAt i (s[i].toNat:Int)=true
def upToDec (s:ByteArray) (k:Nat):Decidable (upTo s k):=inferInstanceAs (Decidable (∀i (h:i<s.size),i<k→okAt i (s[i].toNat:Int)=true))
def nameB (s:ByteArray):Bool:=@decide (1≤s.size∧s.size≤20∧upTo s s.size) (@instDecidableAnd _ _ _ (@instDecidableAnd _ _ _ (upToDec s s.size)))
theorem name_size {s:ByteArray} (h:s.size<1∨20<s.size):nameB s=false:=by
 unfold nameB;simp;intro h1 h2;omega
theorem name_no {s:ByteArray} {k:Nat} (h:k<s.size) (hb:okAt k (s[k].toNat:Int)=false):nameB s=false:=by
 unfold nameB;simp;intro _ _ hu;have:=hu k h h;simp [hb] at this
theorem name_yes {s:ByteArray} (h1:1≤s.size) (h2:s.size≤20) (hu:upTo s s.size):nameB s=true:=by
 unfold nameB;simp;exact ⟨h1,h2,hu⟩
theorem upTo_zero (s:ByteArray):upTo s 0:=fun _ _ h=>absurd h (by omega)
theorem upTo_succ {s:ByteArray} {k:Nat} (hu:upTo s k) (h:k<s.size) (hb:okAt k (s[k].toNat:Int)=true):upTo s (k+1):=by
 intro i hi hk
 by_cases e:i=k
 ·subst e;exact hb
 ·exact hu i hi (by omega)
set_option maxHeartbeats 2000000 in
theorem spec_any (s:ByteArray) (w:World) (hs:s.size≤1048576) :
 Calls Tryz.prog 20 #[.string s] w fun e w'=>e=.returned (.bool (nameB s))∧w'=w:=by
 by_cases h1:s.size<1
 ·have hn:=name_size (s:=s) (.inl h1)
  rw [hn]
  go_enter Tryz.func20,Tryz.ntmps20
  go_wp2
  go_ret
  exact ⟨rfl,rfl⟩
 by_cases h2:20<s.size
 ·have hn:=name_size (s:=s) (.inr h2)
  rw [hn]
  go_enter Tryz.func20,Tryz.ntmps20
  go_wp2
  go_ret
  exact ⟨rfl,rfl⟩
 go_enter Tryz.func20,Tryz.ntmps20
 go_wp2
 go_loop [3,4] (fun i _=>∃k:Nat,k≤s.size∧i=.int .i64 k∧upTo s k) (fun i _=>s.size-(intOf i).toNat)
 case atStart=>exact ⟨0,Nat.zero_le _,rfl,upTo_zero s⟩
 case round =>
  obtain ⟨k,hk,rfl,hu⟩:=hrel
  by_cases hlt:k<s.size
  ·have hno:=name_no (s:=s) hlt
   have hyes:=upTo_succ hu hlt
   have HN:Hid (okAt k (s[k].toNat:Int)=false→nameB s=false):=hno
   have HY:Hid (okAt k (s[k].toNat:Int)=true→upTo s (k+1)):=hyes
   clear hno hyes hu
   by_cases hk0:k=0
   ·subst hk0
    rcases (show ((s[0].toNat:Int)<48)∨(48≤(s[0].toNat:Int)∧(s[0].toNat:Int)≤57)∨(57<(s[0].toNat:Int)∧(s[0].toNat:Int)<95)∨(95≤(s[0].toNat:Int)∧(s[0].toNat:Int)≤95)∨(95<(s[0].toNat:Int)∧(s[0].toNat:Int)<97)∨(97≤(s[0].toNat:Int)∧(s[0].toNat:Int)≤122)∨122<(s[0].toNat:Int) from by omega) with hc|hc|hc|hc|hc|hc|hc
    all_goals
     (first|have a0:(97:Int)≤(s[0].toNat:Int):=by omega|have a0:¬(97:Int)≤(s[0].toNat:Int):=by omega)
     (first|have a1:(s[0].toNat:Int)≤122:=by omega|have a1:¬(s[0].toNat:Int)≤122:=by omega)
     (first|have a2:(48:Int)≤(s[0].toNat:Int):=by omega|have a2:¬(48:Int)≤(s[0].toNat:Int):=by omega)
     (first|have a3:(s[0].toNat:Int)≤57:=by omega|have a3:¬(s[0].toNat:Int)≤57:=by omega)
     (first|have a5:((s[0].toNat:Int) != 95)=true:=by simp;omega|have a5:((s[0].toNat:Int) != 95)=false:=by simp;omega)
     (first|have a6:((s[0].toNat:Int)==95)=true:=by simp;omega|have a6:((s[0].toNat:Int)==95)=false:=by simp;omega)
     go_wp2
     first
      | (go_ret;exact ⟨ret_bool (HN.out (by unfold okAt;simp;omega)).symm,rfl⟩)
      | (
       go_round
       case rel=>exact ⟨1,by omega,by go_num,HY.out (by unfold okAt;simp;omega)⟩
       case measure=>simp [intOf];omega)
   ·rcases (show ((s[k].toNat:Int)<48)∨(48≤(s[k].toNat:Int)∧(s[k].toNat:Int)≤57)∨(57<(s[k].toNat:Int)∧(s[k].toNat:Int)<95)∨(95≤(s[k].toNat:Int)∧(s[k].toNat:Int)≤95)∨(95<(s[k].toNat:Int)∧(s[k].toNat:Int)<97)∨(97≤(s[k].toNat:Int)∧(s[k].toNat:Int)≤122)∨122<(s[k].toNat:Int) from by omega) with hc|hc|hc|hc|hc|hc|hc
    all_goals
     (first|have a0:(97:Int)≤(s[k].toNat:Int):=by omega|have a0:¬(97:Int)≤(s[k].toNat:Int):=by omega)
     (first|have a1:(s[k].toNat:Int)≤122:=by omega|have a1:¬(s[k].toNat:Int)≤122:=by omega)
     (first|have a2:(48:Int)≤(s[k].toNat:Int):=by omega|have a2:¬(48:Int)≤(s[k].toNat:Int):=by omega)
     (first|have a3:(s[k].toNat:Int)≤57:=by omega|have a3:¬(s[k].toNat:Int)≤57:=by omega)
     (first|have a5:((s[k].toNat:Int) != 95)=true:=by simp;omega|have a5:((s[k].toNat:Int) != 95)=false:=by simp;omega)
     (first|have a6:((s[k].toNat:Int)==95)=true:=by simp;omega|have a6:((s[k].toNat:Int)==95)=false:=by simp;omega)
     have a7:((k:Int)==0)=false:=by simp;omega
     go_wp2
     first
      | (go_ret;exact ⟨ret_bool (HN.out (by unfold okAt;simp;omega)).symm,rfl⟩)
      | (
       go_round
       case rel=>exact ⟨k+1,by omega,by go_num,HY.out (by unfold okAt;simp;omega)⟩
       case measure=>simp [intOf];omega)
  ·go_wp2
   go_ret
   have:k=s.size:=by omega
   subst this
   exact ⟨ret_bool (name_yes (by omega) (by omega) hu).symm,rfl⟩
set_option maxHeartbeats 2000000 in
theorem impl_any (s:ByteArray) (w:World) (hs:s.size≤1048576) :
 Calls Tryz.prog 126 #[.string s] w fun e w'=>e=.returned (.bool (nameB s))∧w'=w:=by
 by_cases h1:s.size<1
 ·have hn:=name_size (s:=s) (.inl h1)
  rw [hn]
  go_enter Tryz.func126,Tryz.ntmps126
  go_wp2
  go_ret
  exact ⟨rfl,rfl⟩
 by_cases h2:20<s.size
 ·have hn:=name_size (s:=s) (.inr h2)
  rw [hn]
  go_enter Tryz.func126,Tryz.ntmps126
  go_wp2
  go_ret
  exact ⟨rfl,rfl⟩
 go_enter Tryz.func126,Tryz.ntmps126
 go_wp2
 go_loop [3,4,5] (fun i _ _=>∃k:Nat,k≤s.size∧i=.int .i64 k∧upTo s k) (fun i _ _=>s.size-(intOf i).toNat)
 case atStart=>exact ⟨0,Nat.zero_le _,rfl,upTo_zero s⟩
 case round =>
  obtain ⟨k,hk,rfl,hu⟩:=hrel
  by_cases hlt:k<s.size
  ·have hno:=name_no (s:=s) hlt
   have hyes:=upTo_succ hu hlt
   have HN:Hid (okAt k (s[k].toNat:Int)=false→nameB s=false):=hno
   have HY:Hid (okAt k (s[k].toNat:Int)=true→upTo s (k+1)):=hyes
   clear hno hyes hu
   by_cases hk0:k=0
   ·subst hk0
    rcases (show ((s[0].toNat:Int)<48)∨(48≤(s[0].toNat:Int)∧(s[0].toNat:Int)≤57)∨(57<(s[0].toNat:Int)∧(s[0].toNat:Int)<95)∨(95≤(s[0].toNat:Int)∧(s[0].toNat:Int)≤95)∨(95<(s[0].toNat:Int)∧(s[0].toNat:Int)<97)∨(97≤(s[0].toNat:Int)∧(s[0].toNat:Int)≤122)∨122<(s[0].toNat:Int) from by omega) with hc|hc|hc|hc|hc|hc|hc
    all_goals
     (first|have a0:(97:Int)≤(s[0].toNat:Int):=by omega|have a0:¬(97:Int)≤(s[0].toNat:Int):=by omega)
     (first|have a1:(s[0].toNat:Int)≤122:=by omega|have a1:¬(s[0].toNat:Int)≤122:=by omega)
     (first|have a2:(48:Int)≤(s[0].toNat:Int):=by omega|have a2:¬(48:Int)≤(s[0].toNat:Int):=by omega)
     (first|have a3:(s[0].toNat:Int)≤57:=by omega|have a3:¬(s[0].toNat:Int)≤57:=by omega)
     (first|have a5:((s[0].toNat:Int) != 95)=true:=by simp;omega|have a5:((s[0].toNat:Int) != 95)=false:=by simp;omega)
     (first|have a6:((s[0].toNat:Int)==95)=true:=by simp;omega|have a6:((s[0].toNat:Int)==95)=false:=by simp;omega)
     go_wp2
     first
      | (go_ret;exact ⟨ret_bool (HN.out (by unfold okAt;simp;omega)).symm,rfl⟩)
      | (
       go_round
       case rel=>exact ⟨1,by omega,by go_num,HY.out (by unfold okAt;simp;omega)⟩
       case measure=>simp [intOf];omega)
   ·rcases (show ((s[k].toNat:Int)<48)∨(48≤(s[k].toNat:Int)∧(s[k].toNat:Int)≤57)∨(57<(s[k].toNat:Int)∧(s[k].toNat:Int)<95)∨(95≤(s[k].toNat:Int)∧(s[k].toNat:Int)≤95)∨(95<(s[k].toNat:Int)∧(s[k].toNat:Int)<97)∨(97≤(s[k].toNat:Int)∧(s[k].toNat:Int)≤122)∨122<(s[k].toNat:Int) from by omega) with hc|hc|hc|hc|hc|hc|hc
    all_goals
     (first|have a0:(97:Int)≤(s[k].toNat:Int):=by omega|have a0:¬(97:Int)≤(s[k].toNat:Int):=by omega)
     (first|have a1:(s[k].toNat:Int)≤122:=by omega|have a1:¬(s[k].toNat:Int)≤122:=by omega)
     (first|have a2:(48:Int)≤(s[k].toNat:Int):=by omega|have a2:¬(48:Int)≤(s[k].toNat:Int):=by omega)
     (first|have a3:(s[k].toNat:Int)≤57:=by omega|have a3:¬(s[k].toNat:Int)≤57:=by omega)
     (first|have a5:((s[k].toNat:Int) != 95)=true:=by simp;omega|have a5:((s[k].toNat:Int) != 95)=false:=by simp;omega)
     (first|have a6:((s[k].toNat:Int)==95)=true:=by simp;omega|have a6:((s[k].toNat:Int)==95)=false:=by simp;omega)
     have a7:((k:Int)==0)=false:=by simp;omega
     go_wp2
     first
      | (go_ret;exact ⟨ret_bool (HN.out (by unfold okAt;simp;omega)).symm,rfl⟩)
      | (
       go_round
       case rel=>exact ⟨k+1,by omega,by go_num,HY.out (by unfold okAt;simp;omega)⟩
       case measure=>simp [intOf];omega)
  ·go_wp2
   go_ret
   have:k=s.size:=by omega
   subst this
   exact ⟨ret_bool (name_yes (by omega) (by omega) hu).symm,rfl⟩
end NameR
end Go.Proofs.YtmalfhhkjdkadaaGreatDoor
namespace Go.Proofs.YtmalfhhkjdkadaaGreatDoor
open Go.RowKit
namespace LtR
open Op (bytesLess)
theorem bl_irrefl:∀x:List UInt8,bytesLess x x=false
 | []=>rfl
 | a::x=>by
  rw [bytesLess,bl_irrefl x]
  simp
theorem bl_trans:∀{x y z:List UInt8},bytesLess x y=true→bytesLess y z=true→bytesLess x z=true
 | _,[],_,h,_=>by simp [bytesLess] at h
 | _,_::_,[],_,h=>by simp [bytesLess] at h
 | [],_::_,_::_,_,_=>rfl
 | a::x,b::y,c::z,h1,h2=>by
  rw [bytesLess] at *
  simp only [Bool.or_eq_true,Bool.and_eq_true,decide_eq_true_eq,beq_iff_eq] at *
  rcases h1 with h1|⟨rfl,h1⟩
  ·rcases h2 with h2|⟨rfl,h2⟩
   ·exact .inl (UInt8.lt_trans h1 h2)
   ·exact .inl h1
  ·rcases h2 with h2|⟨rfl,h2⟩
   ·exact .inl h2
   ·exact .inr ⟨rfl,bl_trans h1 h2⟩
theorem bl_total:∀{x y:List UInt8},bytesLess x y=false→bytesLess y x=false→x=y
 | [],[],_,_=>rfl
 | [],_::_,h,_=>by simp [bytesLess] at h
 | _::_,[],_,h=>by simp [bytesLess] at h
 | a::x,b::y,h1,h2=>by
  rw [bytesLess] at *
  simp only [Bool.or_eq_false_iff,Bool.and_eq_false_iff,decide_eq_false_iff_not,beq_eq_false_iff_ne] at *
  have e:a=b:=by
   have p1:=h1.1
   have p2:=h2.1
   rw [UInt8.lt_iff_toNat_lt] at p1 p2
   exact UInt8.toNat.inj (by omega)
  subst e
  rw [bl_total (h1.2.resolve_left (fun h=>h rfl)) (h2.2.resolve_left (fun h=>h rfl))]
def lt (a b:ByteArray):Bool:=bytesLess a.toList b.toList
theorem toList_inj {a b:ByteArray} (h:a.toList=b.toList):a=b:=by
 rw [ByteArray.toList_eq,ByteArray.toList_eq] at h
 exact ByteArray.ext (Array.ext' h)
theorem lt_irrefl (a:ByteArray):lt a a=false:=bl_irrefl _
theorem lt_trans {a b c:ByteArray} (h1:lt a b=true) (h2:lt b c=true):lt a c=true:=bl_trans h1 h2
theorem lt_total {a b:ByteArray} (h1:lt a b=false) (h2:lt b a=false):a=b:=toList_inj (bl_total h1 h2)
theorem lt_asymm {a b:ByteArray} (h:lt a b=true):lt b a=false:=by
 cases h2:lt b a
 ·rfl
 ·have:=lt_trans h h2
  rw [lt_irrefl] at this
  cases this
theorem lt_empty {b:ByteArray} (h:1≤b.size):lt ⟨#[]⟩ b=true:=by
 unfold lt
 have h1:(⟨#[]⟩:ByteArray).toList=[]:=by rw [ByteArray.toList_eq]
 rw [h1]
 cases hb:b.toList with
 | nil =>
  rw [ByteArray.toList_eq] at hb
  have:b.data.toList.length=0:=by rw [hb];rfl
  have h2:b.data.toList.length=b.size:=rfl
  omega
 | cons x l=>rfl
end LtR
end Go.Proofs.YtmalfhhkjdkadaaGreatDoor
