/-
  Small facts that the other texts use: what a call hands back, read as one equation.
  A row of cells that may be written.
  Rows of things of so many cells each, read, written cell by cell, made by append.
  Lists of entries: what is read of a row of them, the law's own copies, and lists held against each other.
  The law's own mark, a text.
  A block of cells that stays.
  Blocks that may be written, and rows beside them.
  Cells of a block written one behind another.
  Memory of one's own that is kept while other memory grows or is written.
  Worlds that differ in some blocks alone.
  The conditions stand in what each theorem says.
-/
import Derived.Test.YtnceeaccbcfopaaGreatDoorRows
import Derived.WalkKit
import Derived.ProofKit
import Derived.OpenShut
import Derived.ShutString
import Derived.Below
import Derived.WalkSpells
import Derived.WalkLawsBesides
import Derived.OwnWalk
import Derived.Deep.RegionWith
import Derived.Lib.ConvBytes
import Derived.Laws.BytesArg
import Derived.Deep.RegionHeld3
import Derived.Deep.QuietTactic
set_option maxRecDepth 100000
set_option maxHeartbeats 16000000
namespace Go.Proofs.YtnceeaccbcfopaaGreatDoor
theorem SL {α:Type}:(∀(l:List α) (i:Nat) (x:α),l.toArray.setIfInBounds i x=(l.set i x).toArray)∧(∀(x:α) (xs:List α) (b:α),(x::xs).set 0 b=b::xs)∧(∀(x:α) (xs:List α) (n:Nat) (b:α),(x::xs).set (n+1) b=x::xs.set n b) :=
 ⟨fun _ _ _=>List.setIfInBounds_toArray ..,fun _ _ _=>List.set_cons_zero ..,fun _ _ _ _=>List.set_cons_succ ..⟩
theorem q_ {W:World} {b:Nat} {l:List Value} (h:∀i,i<l.length→W.cell? ⟨b,i,none⟩=l[i]?) (i:Nat) {v:Value} (hi:i<l.length:=by simp) (hv:l[i]? = some v:=by rfl):W.cell? ⟨b,i,none⟩=some v:=(h i hi).trans hv
theorem HT_ {w W W':World} (h:RowKit.Hid (RowKit.Below w.heap.size w W)) (hb:RowKit.Below W.heap.size W W'):RowKit.Hid (RowKit.Below w.heap.size w W'):=h.out.trans (hb.mono h.out.size)
theorem al_ (W:World) (o:Obj):RowKit.Below W.heap.size W (W.alloc o):=(RowKit.Below.refl _ _).alloc (Nat.le_refl _) _
abbrev Arm (P:Program) (md:Region.Mode) (ops:Array Oper) (Q:Exit→Act→World→Prop) (S:World→Prop) (fuel:Nat) (listed:Array Bool) (a:Act) (w:World) (i:Nat) (o:Oper):Prop:=∀K':Act→World→Prop,Shut (∀a w,S w→(S w→wpAnyH P md ops Q S fuel (listed.setIfInBounds i true) a w)→K' a w)→if Region.wanted o (yielded ops a.tmps)=true then Oper.wp P o a w K' Q else K' (a.put o.dst undef) w
theorem rd {P:Program} {md:Region.Mode} {ops:Array Oper} {Q:Exit→Act→World→Prop} {S:World→Prop} {fuel:Nat} {listed:Array Bool} {a:Act} {w:World} (i1:Nat) {d1:Option Tmp} {p1:Op} {t1:TypeId} {s1:String} {e1:Array Edge} {g1:Option (Nat × Bool)} (h1:Arm P md ops Q S fuel listed a w i1 ⟨d1,p1,t1,s1,e1,g1⟩) (hr:Region.ready md ops listed=[i1]:=by kernel_rfl) (o1:ops[i1]? = some ⟨d1,p1,t1,s1,e1,g1⟩:=by exact rfl):wpAnyH P md ops Q S (fuel+1) listed a w :=
 wpAnyH_ready hr (by simp) (AllReadyH.cons o1 h1 AllReadyH.nil)
theorem rd2 {P:Program} {md:Region.Mode} {ops:Array Oper} {Q:Exit→Act→World→Prop} {S:World→Prop} {fuel:Nat} {listed:Array Bool} {a:Act} {w:World} (i1 i2:Nat) {d1:Option Tmp} {p1:Op} {t1:TypeId} {s1:String} {e1:Array Edge} {g1:Option (Nat × Bool)} {d2:Option Tmp} {p2:Op} {t2:TypeId} {s2:String} {e2:Array Edge} {g2:Option (Nat × Bool)} (h1:Arm P md ops Q S fuel listed a w i1 ⟨d1,p1,t1,s1,e1,g1⟩) (h2:Arm P md ops Q S fuel listed a w i2 ⟨d2,p2,t2,s2,e2,g2⟩) (hr:Region.ready md ops listed=[i1,i2]:=by kernel_rfl) (o1:ops[i1]? = some ⟨d1,p1,t1,s1,e1,g1⟩:=by exact rfl) (o2:ops[i2]? = some ⟨d2,p2,t2,s2,e2,g2⟩:=by exact rfl):wpAnyH P md ops Q S (fuel+1) listed a w :=
 wpAnyH_ready hr (by simp) (AllReadyH.cons o1 h1 (AllReadyH.cons o2 h2 AllReadyH.nil))
theorem rd3 {P:Program} {md:Region.Mode} {ops:Array Oper} {Q:Exit→Act→World→Prop} {S:World→Prop} {fuel:Nat} {listed:Array Bool} {a:Act} {w:World} (i1 i2 i3:Nat) {d1:Option Tmp} {p1:Op} {t1:TypeId} {s1:String} {e1:Array Edge} {g1:Option (Nat × Bool)} {d2:Option Tmp} {p2:Op} {t2:TypeId} {s2:String} {e2:Array Edge} {g2:Option (Nat × Bool)} {d3:Option Tmp} {p3:Op} {t3:TypeId} {s3:String} {e3:Array Edge} {g3:Option (Nat × Bool)} (h1:Arm P md ops Q S fuel listed a w i1 ⟨d1,p1,t1,s1,e1,g1⟩) (h2:Arm P md ops Q S fuel listed a w i2 ⟨d2,p2,t2,s2,e2,g2⟩) (h3:Arm P md ops Q S fuel listed a w i3 ⟨d3,p3,t3,s3,e3,g3⟩) (hr:Region.ready md ops listed=[i1,i2,i3]:=by kernel_rfl) (o1:ops[i1]? = some ⟨d1,p1,t1,s1,e1,g1⟩:=by exact rfl) (o2:ops[i2]? = some ⟨d2,p2,t2,s2,e2,g2⟩:=by exact rfl) (o3:ops[i3]? = some ⟨d3,p3,t3,s3,e3,g3⟩:=by exact rfl):wpAnyH P md ops Q S (fuel+1) listed a w :=
 wpAnyH_ready hr (by simp) (AllReadyH.cons o1 h1 (AllReadyH.cons o2 h2 (AllReadyH.cons o3 h3 AllReadyH.nil)))
theorem rd4 {P:Program} {md:Region.Mode} {ops:Array Oper} {Q:Exit→Act→World→Prop} {S:World→Prop} {fuel:Nat} {listed:Array Bool} {a:Act} {w:World} (i1 i2 i3 i4:Nat) {d1:Option Tmp} {p1:Op} {t1:TypeId} {s1:String} {e1:Array Edge} {g1:Option (Nat × Bool)} {d2:Option Tmp} {p2:Op} {t2:TypeId} {s2:String} {e2:Array Edge} {g2:Option (Nat × Bool)} {d3:Option Tmp} {p3:Op} {t3:TypeId} {s3:String} {e3:Array Edge} {g3:Option (Nat × Bool)} {d4:Option Tmp} {p4:Op} {t4:TypeId} {s4:String} {e4:Array Edge} {g4:Option (Nat × Bool)} (h1:Arm P md ops Q S fuel listed a w i1 ⟨d1,p1,t1,s1,e1,g1⟩) (h2:Arm P md ops Q S fuel listed a w i2 ⟨d2,p2,t2,s2,e2,g2⟩) (h3:Arm P md ops Q S fuel listed a w i3 ⟨d3,p3,t3,s3,e3,g3⟩) (h4:Arm P md ops Q S fuel listed a w i4 ⟨d4,p4,t4,s4,e4,g4⟩) (hr:Region.ready md ops listed=[i1,i2,i3,i4]:=by kernel_rfl) (o1:ops[i1]? = some ⟨d1,p1,t1,s1,e1,g1⟩:=by exact rfl) (o2:ops[i2]? = some ⟨d2,p2,t2,s2,e2,g2⟩:=by exact rfl) (o3:ops[i3]? = some ⟨d3,p3,t3,s3,e3,g3⟩:=by exact rfl) (o4:ops[i4]? = some ⟨d4,p4,t4,s4,e4,g4⟩:=by exact rfl):wpAnyH P md ops Q S (fuel+1) listed a w :=
 wpAnyH_ready hr (by simp) (AllReadyH.cons o1 h1 (AllReadyH.cons o2 h2 (AllReadyH.cons o3 h3 (AllReadyH.cons o4 h4 AllReadyH.nil))))
theorem tk {P:Program} {ops:Array Oper} {Q:Exit→Act→World→Prop} {md:Region.Mode} {S:World→Prop} {v:Value} {fuel:Nat} {listed listed':Array Bool} {a a':Act} {w:World} (i:Nat) {d1:Option Tmp} {p1:Op} {t1:TypeId} {s1:String} {e1:Array Edge} {g1:Option (Nat × Bool)}
 (h:wpAnyH P md ops Q S fuel listed' a' w)
 (hi:ops[i]? = some ⟨d1,p1,t1,s1,e1,g1⟩:=by exact rfl) (hs:Region.noSelect ops=true:=by kernel_rfl) (hf:Region.free md ops listed i=true:=by kernel_rfl) (hr:(Region.ready md ops listed).contains i=true:=by kernel_rfl)
 (hw:Region.wanted ⟨d1,p1,t1,s1,e1,g1⟩ (yielded ops a.tmps)=true:=by rfl) (hS:S w:=by assumption)
 (hy:∀w,S w→(execOp a.eval ⟨d1,p1,t1,s1,e1,g1⟩).run P w=.ok (.value v) w:=by (intro w hSw;(try dsimp only at hSw);go_simp)<;>with_reducible rfl)
 (ha:a.put d1 v=a':=by first|(simp only [Act.put,SL];done)|(simp only [Act.put,SL];rfl)|rfl) (hl:listed.setIfInBounds i true=listed':=by first|(simp only [SL];done)|(simp only [SL];rfl)|rfl)
 (hQ:∀c a w,Q (.panic c) (a.put d1 v) w→Q (.panic c) a w:=by exact fun _ _ _ h=>h):wpAnyH P md ops Q S (fuel+1) listed a w:=by
 subst ha
 subst hl
 exact wpAnyH_take hi hs hf hr hQ (.inl ⟨hw,hy⟩) hS h
theorem tu {P:Program} {ops:Array Oper} {Q:Exit→Act→World→Prop} {md:Region.Mode} {S:World→Prop} {fuel:Nat} {listed listed':Array Bool} {a a':Act} {w:World} (i:Nat) {d1:Option Tmp} {p1:Op} {t1:TypeId} {s1:String} {e1:Array Edge} {g1:Option (Nat × Bool)}
 (h:wpAnyH P md ops Q S fuel listed' a' w)
 (hi:ops[i]? = some ⟨d1,p1,t1,s1,e1,g1⟩:=by exact rfl) (hs:Region.noSelect ops=true:=by kernel_rfl) (hf:Region.free md ops listed i=true:=by kernel_rfl) (hr:(Region.ready md ops listed).contains i=true:=by kernel_rfl)
 (hy:YieldsIf P ops S ⟨d1,p1,t1,s1,e1,g1⟩ undef a:=by exact Or.inr ⟨by rfl,rfl⟩) (hS:S w:=by assumption)
 (ha:a.put d1 undef=a':=by first|(simp only [Act.put,SL];done)|(simp only [Act.put,SL];rfl)|rfl) (hl:listed.setIfInBounds i true=listed':=by first|(simp only [SL];done)|(simp only [SL];rfl)|rfl)
 (hQ:∀c a w,Q (.panic c) (a.put d1 undef) w→Q (.panic c) a w:=by exact fun _ _ _ h=>h):wpAnyH P md ops Q S (fuel+1) listed a w:=by
 subst ha
 subst hl
 exact wpAnyH_take hi hs hf hr hQ hy hS h
end Go.Proofs.YtnceeaccbcfopaaGreatDoor
namespace Go.Proofs.YtnceeaccbcfopaaGreatDoor
open Go.RowKit
theorem ret_bool {a b:Bool} (h:a=b):Ending.returned (.bool a)=.returned (.bool b):=by rw [h]
theorem ret_int {k:IntKind} {a b:Int} (h:a=b):Ending.returned (.int k a)=.returned (.int k b):=by rw [h]
theorem ret_str {a b:ByteArray} (h:a=b):Ending.returned (.string a)=.returned (.string b):=by rw [h]
theorem bcell {W w1:World} (hb:Below W.heap.size W w1):(∀b o,b<W.heap.size→w1.cell? ⟨b,o,none⟩=W.cell? ⟨b,o,none⟩)∧(∀b o,b<W.heap.size→w1.frozen? ⟨b,o,none⟩=W.frozen? ⟨b,o,none⟩) :=
 ⟨fun b o h=>hb.cell (p:=⟨b,o,none⟩) h,fun b o h=>hb.frozen (p:=⟨b,o,none⟩) h⟩
theorem bel_alloc {w w1:World} {o:Obj} (h:Below (w.alloc o).heap.size (w.alloc o) w1):Below w.heap.size w w1 :=
 (al_ _ _).trans (h.mono (by simp))
end Go.Proofs.YtnceeaccbcfopaaGreatDoor
namespace Go.Proofs.YtnceeaccbcfopaaGreatDoor
open Go.ChangeShapes Go.WideShapes Go.ChangeAt Go.RowKit
set_option linter.unusedVariables false
namespace EvtR
structure Pt (g m:Nat) (w:World):Prop where
 lt:g<w.heap.size
 has:∀o,o<m→∃v,w.cell? ⟨g,o,none⟩=some v
 free:∀o,o<m→w.frozen? ⟨g,o,none⟩=false
theorem Pt.below {g m:Nat} {w w':World} (h:Pt g m w) (hb:Below w.heap.size w w'):Pt g m w' :=
 ⟨by have:=hb.size;have:=h.lt;omega,fun o ho=>by obtain ⟨v,hv⟩:=h.has o ho;exact ⟨v,(hb.cell (p:=⟨g,o,none⟩) h.lt).trans hv⟩,fun o ho=>(hb.frozen (p:=⟨g,o,none⟩) h.lt).trans (h.free o ho)⟩
theorem cell_put {g m:Nat} {w:World} (h:Pt g m w) (o:Nat) (ho:o<m) (v:Value):(w.setCell ⟨g,o,none⟩ v).cell? ⟨g,o,none⟩=some v:=by
 obtain ⟨u,hu⟩:=h.has o ho
 simp [go_sem,hu]
theorem cell_far {g:Nat} {w:World} (o o':Nat) (ho:o≠o') (v:Value):(w.setCell ⟨g,o,none⟩ v).cell? ⟨g,o',none⟩=w.cell? ⟨g,o',none⟩:=by
 simp [go_sem]
theorem Pt.set {g m:Nat} {w:World} (h:Pt g m w) (o:Nat) (v:Value):Pt g m (w.setCell ⟨g,o,none⟩ v):=by
 refine ⟨by simpa using h.lt,fun x hx=>?_,fun x hx=>?_⟩
 ·by_cases e:o=x
  ·subst e;exact ⟨v,cell_put h o hx v⟩
  ·obtain ⟨u,hu⟩:=h.has x hx
   exact ⟨u,(cell_far o x e v).trans hu⟩
 ·have:=h.free x hx
  simp [go_sem,this]
end EvtR
namespace RowG
open EvtR (Pt cell_put cell_far)
theorem H_ {p:Prop} (h:p):Hid p:=h
section
variable {α:Type} (k:Nat) (cells:α→List Value) (z:α)
def AtG (w:World) (b o:Nat) (x:α):Prop:=∀j,j<k→w.cell? ⟨b,o+j,none⟩=(cells x)[j]?
def Rws (ao:Option Addr) (xs:List α) (w:World):Prop:=xs.length=0∨∃b off,ao=some ⟨b,off,none⟩∧b<w.heap.size∧∀j,j<xs.length→AtG k cells w b (off+j*k) (xs.getD j z)
def cellAt (xs:List α) (o:Nat):Option Value:=(cells (xs.getD (o / k) z))[o % k]?
def Wr (f:Nat→Option Value) (j g:Nat) (w:World):Prop:=∀o,o<j→w.cell? ⟨g,o,none⟩=f o
end
section
variable {α:Type} {k:Nat} {cells:α→List Value} {z:α}
theorem AtG.below {w w':World} {b o:Nat} {x:α} (h:AtG k cells w b o x) (hl:b<w.heap.size) (hb:Below w.heap.size w w'):AtG k cells w' b o x :=
 fun j hj=>(hb.cell (p:=⟨b,o+j,none⟩) hl).trans (h j hj)
theorem Rws.below {ao:Option Addr} {xs:List α} {w w':World} (h:Rws k cells z ao xs w) (hb:Below w.heap.size w w'):Rws k cells z ao xs w':=by
 rcases h with h0|⟨b,off,rfl,hlt,hc⟩
 ·exact .inl h0
 ·exact .inr ⟨b,off,rfl,by have:=hb.size;omega,fun j hj=>(hc j hj).below hlt hb⟩
theorem Rws.grown {ao:Option Addr} {xs:List α} {w w':World} {row:Option Nat} (h:Rws k cells z ao xs w) (hg:w.grownBy w' row) (hne:xs.length=0∨∀b off,ao=some ⟨b,off,none⟩→some b≠row):Rws k cells z ao xs w':=by
 rcases h with h0|⟨b,off,rfl,hlt,hc⟩
 ·exact .inl h0
 ·rcases hne with h0|hne
  ·exact .inl h0
  have e:=hg.block b hlt (hne b off rfl)
  exact .inr ⟨b,off,rfl,by have:=hg.size;omega,fun j hj i hi=>(World.cell?_of_block (a:=⟨b,off+j*k+i,none⟩) e).trans (hc j hj i hi)⟩
theorem Rws.at {ao:Option Addr} {xs:List α} {w:World} (h:Rws k cells z ao xs w) (j:Nat) (hj:j<xs.length):∃b off,ao=some ⟨b,off,none⟩∧b<w.heap.size∧AtG k cells w b (off+j*k) (xs.getD j z):=by
 rcases h with h0|⟨b,off,rfl,hlt,hc⟩
 ·omega
 ·exact ⟨b,off,rfl,hlt,hc j hj⟩
theorem getD_mem (xs:List α) (j:Nat) (h:j<xs.length):xs.getD j z∈xs:=by
 have:xs.getD j z=xs[j]:=by simp [List.getD,h]
 rw [this];exact List.getElem_mem h
theorem take_more (xs:List α) (j:Nat) (h:j<xs.length):xs.take (j+1)=xs.take j ++ [xs.getD j z]:=by
 rw [List.take_add_one,List.getElem?_eq_getElem h]
 simp [List.getD,h]
theorem Wr.below {f:Nat→Option Value} {j g m:Nat} {w w':World} (h:Wr f j g w) (hp:Pt g m w) (hb:Below w.heap.size w w'):Wr f j g w' :=
 fun o ho=>(hb.cell (p:=⟨g,o,none⟩) hp.lt).trans (h o ho)
theorem Wr.more {f:Nat→Option Value} {j g m:Nat} {w:World} (h:Wr f j g w) (hp:Pt g m w) (hj:j<m) (v:Value) (hv:f j=some v):Wr f (j+1) g (w.setCell ⟨g,j,none⟩ v):=by
 intro o ho
 by_cases e:j=o
 ·subst e;rw [cell_put hp j hj v,hv]
 ·rw [cell_far j o e v];exact h o (by omega)
theorem Wr.at {xs:List α} {n g:Nat} {w:World} (h:Wr (cellAt k cells z xs) (n*k) g w) (i:Nat) (hi:i<n) (x:Nat) (hx:x<k):w.cell? ⟨g,i*k+x,none⟩=(cells (xs.getD i z))[x]?:=by
 have hlt:i*k+x<n*k:=by
  have:(i+1)*k≤n*k:=Nat.mul_le_mul_right _ hi
  rw [Nat.add_mul,Nat.one_mul] at this
  omega
 rw [h _ hlt]
 unfold cellAt
 rw [show i*k+x=x+k*i by rw [Nat.mul_comm];omega,Nat.add_mul_div_left _ _ (by omega),Nat.div_eq_of_lt hx,Nat.zero_add,Nat.add_mul_mod_self_left,Nat.mod_eq_of_lt hx]
theorem Wr.rws {xs:List α} {g:Nat} {w:World} (h:Wr (cellAt k cells z xs) (xs.length*k) g w) (hl:g<w.heap.size):Rws k cells z (some ⟨g,0,none⟩) xs w :=
 .inr ⟨g,0,rfl,hl,fun j hj i hi=>by rw [Nat.zero_add];exact h.at j hj i hi⟩
theorem cellAt_of {xs:List α} (i x:Nat) (hx:x<k):cellAt k cells z xs (i*k+x)=(cells (xs.getD i z))[x]?:=by
 unfold cellAt
 rw [show i*k+x=x+k*i by rw [Nat.mul_comm];omega,Nat.add_mul_div_left _ _ (by omega),Nat.div_eq_of_lt hx,Nat.zero_add,Nat.add_mul_mod_self_left,Nat.mod_eq_of_lt hx]
def cellsAll (cells:α→List Value) (xs:List α):List Value:=xs.flatMap cells
theorem cellsAll_app (xs:List α) (x:α):cellsAll cells (xs ++ [x])=cellsAll cells xs++cells x:=by simp [cellsAll]
theorem cellsAll_len (hk:∀x,(cells x).length=k) (xs:List α):(cellsAll cells xs).length=xs.length*k:=by
 induction xs with
 | nil=>simp [cellsAll]
 | cons x xs ih=>simp only [cellsAll,List.flatMap_cons,List.length_append,hk,List.length_cons] at *;rw [ih,Nat.add_mul];omega
theorem cellsAll_get (hk:∀x,(cells x).length=k) (xs:List α) (i x:Nat) (hi:i<xs.length) (hx:x<k):(cellsAll cells xs)[i*k+x]? = (cells (xs.getD i z))[x]?:=by
 induction xs generalizing i with
 | nil=>simp at hi
 | cons a xs ih =>
  simp only [cellsAll,List.flatMap_cons]
  cases i with
  | zero =>
   rw [Nat.zero_mul,Nat.zero_add,List.getElem?_append_left (by rw [hk];exact hx)]
   rfl
  | succ i =>
   rw [List.getElem?_append_right (by rw [hk,Nat.add_mul];omega),hk,show (i+1)*k+x-k=i*k+x by rw [Nat.add_mul];omega]
   simp only [List.length_cons] at hi
   exact ih i (by omega)
structure MadeG (k:Nat) (cells:α→List Value) (z:α) (base:Nat) (ao:Option Addr) (xs:List α) (w:World):Prop where
 rws:Rws k cells z ao xs w
 own:xs.length=0∨∃g,ao=some ⟨g,0,none⟩∧base≤g∧Pt g (xs.length*k) w
theorem made_nil (base:Nat) (ao:Option Addr) (w:World):MadeG k cells z base ao [] w:=⟨.inl rfl,.inl rfl⟩
theorem MadeG.below {base:Nat} {ao:Option Addr} {xs:List α} {w w':World} (h:MadeG k cells z base ao xs w) (hb:Below w.heap.size w w'):MadeG k cells z base ao xs w' :=
 ⟨h.rws.below hb,h.own.imp id (fun ⟨g,h1,h2,h3⟩=>⟨g,h1,h2,h3.below hb⟩)⟩
theorem MadeG.low {base base':Nat} {ao:Option Addr} {xs:List α} {w:World} (h:MadeG k cells z base ao xs w) (hb:base'≤base):MadeG k cells z base' ao xs w :=
 ⟨h.rws,h.own.imp id (fun ⟨g,h1,h2,h3⟩=>⟨g,h1,by omega,h3⟩)⟩
theorem own_made (hk:∀x,(cells x).length=k) {w:World} {base T:Nat} {v:Value} {xs:List α} (h:w.ownsRow base T k v xs.length (cellsAll cells xs)):∃ao cap,v=.slice ao xs.length cap∧MadeG k cells z base ao xs w:=by
 rcases h.2 with ⟨h0,h1⟩|⟨g,cap,cur,hv,hg,hh,hc,_,hz,hcur⟩
 ·obtain rfl:xs=[]:=List.length_eq_zero_iff.1 h1
  exact ⟨none,0,h0,made_nil _ _ _⟩
 ·have hm:xs.length*k≤cur.size:=by rw [hz];exact Nat.mul_le_mul_right _ hc
  have hl:=(h.lt g (by rw [hv];rfl)).2
  refine ⟨_,_,hv,.inr ⟨g,0,rfl,hl,fun j hj i hi=>?_⟩,.inr ⟨g,rfl,hg,hl,fun o ho=>?_,fun o ho=>?_⟩⟩
  ·rw [Nat.zero_add,←cellsAll_get hk xs j i hj hi,←hcur]
   have hlt:j*k+i<xs.length*k:=by
    have:(j+1)*k≤xs.length*k:=Nat.mul_le_mul_right _ hj
    rw [Nat.add_mul,Nat.one_mul] at this
    omega
   rw [List.getElem?_take,if_pos hlt]
   simp [World.cell?,hh]
  ·have:o<cur.size:=by omega
   refine ⟨cur[o],?_⟩
   simp [World.cell?,hh,this]
  ·simp [World.frozen?,hh]
end
theorem own_below {w w':World} {base e size n:Nat} {v:Value} {xs:List Value} (h:w.ownsRow base e size v n xs) (hb:Below w.heap.size w w'):w'.ownsRow base e size v n xs:=by
 refine h.kept (row:=none) ⟨hb.os,hb.tape,hb.output,hb.size,fun k hk _=>hb.block k hk⟩ ?_
 rcases hob:v.ownBlock with _|b
 ·exact .inl rfl
 ·exact .inr (by simp)
theorem grown_set (w:World) (b o:Nat) (v:Value):w.grownBy (w.setCell ⟨b,o,none⟩ v) (some b):=by
 refine ⟨rfl,rfl,rfl,by simp,fun k hk hne=>?_⟩
 simp only [World.setCell]
 rw [Array.getElem?_modify,if_neg (fun e=>hne (by rw [e]))]
theorem own_set {w:World} {base e size n:Nat} {v:Value} {xs:List Value} (h:w.ownsRow base e size v n xs) (g o:Nat) (u:Value) (hg:∀b,v.ownBlock=some b→b≠g):(w.setCell ⟨g,o,none⟩ u).ownsRow base e size v n xs:=by
 refine h.kept (grown_set w g o u) ?_
 rcases hob:v.ownBlock with _|b
 ·exact .inl rfl
 ·exact .inr (fun e=>hg b hob (by simpa using e))
end RowG
end Go.Proofs.YtnceeaccbcfopaaGreatDoor
namespace Go.Proofs.YtnceeaccbcfopaaGreatDoor
open Go.ChangeShapes Go.WideShapes Go.ChangeAt Go.RowKit
set_option linter.unusedVariables false
namespace SeenR
open RowG
open EvtR (Pt)
structure N where
 i:ByteArray
 n:Int
 s:Int
def N.v (e:N):Value:=.agg #[.string e.i,.int .i64 e.n,.int .i64 e.s]
def N.zero:N:=⟨⟨#[]⟩,0,0⟩
def N.cells (e:N):List Value:=[.string e.i,.int .i64 e.n,.int .i64 e.s]
theorem N.len (e:N):e.cells.length=3:=rfl
def Ens (ao:Option Addr) (es:List N) (w:World):Prop:=Rws 3 N.cells N.zero ao es w
theorem Ens.below {ao:Option Addr} {es:List N} {w w':World} (h:Ens ao es w) (hb:Below w.heap.size w w'):Ens ao es w':=Rws.below h hb
theorem Ens.at {ao:Option Addr} {es:List N} {w:World} (h:Ens ao es w) (j:Nat) (hj:j<es.length):∃b off,ao=some ⟨b,off,none⟩∧b<w.heap.size∧w.cell? ⟨b,off+j*3,none⟩=some (.string (es.getD j N.zero).i)∧w.cell? ⟨b,off+j*3+1,none⟩=some (.int .i64 (es.getD j N.zero).n)∧w.cell? ⟨b,off+j*3+2,none⟩=some (.int .i64 (es.getD j N.zero).s):=by
 obtain ⟨b,off,h1,h2,h3⟩:=Rws.at h j hj
 exact ⟨b,off,h1,h2,h3 0 (by omega),h3 1 (by omega),h3 2 (by omega)⟩
def szL (es:List N):Int:=(es.map (fun e=>(e.i.size:Int))).sum
theorem szL_nn (es:List N):0≤szL es:=by
 unfold szL
 induction es with
 | nil=>simp
 | cons e es ih=>simp only [List.map_cons,List.sum_cons];omega
theorem szL_take (es:List N) (k:Nat) (h:k<es.length):szL (es.take (k+1))=szL (es.take k)+((es.getD k N.zero).i.size:Int):=by
 unfold szL
 rw [take_more (z:=N.zero) es k h,List.map_append,List.sum_append]
 simp
theorem szL_le (es:List N) (k:Nat):szL (es.take k)≤szL es:=by
 have:=szL_nn (es.drop k)
 have e:szL es=szL (es.take k)+szL (es.drop k):=by
  unfold szL
  rw [←List.sum_append,←List.map_append,List.take_append_drop]
 omega
theorem sz_any (i:ByteArray) (n s left:Int) (h1:i.size≤maxLen) (hl:0≤left) (hl2:left≤1048576) (w:World) :
 Calls Tryz.prog 48 #[.agg #[.string i,.int .i64 n,.int .i64 s],.int .i64 left] w fun e w'=>e=.returned (.int .i64 (if (i.size:Int)≤left then left-(i.size:Int) else -1))∧Below w.heap.size w w':=by
 unfold maxLen at *
 have HB:=H_ (al_ w (Obj.cells #[.string i,.int .i64 n,.int .i64 s] 90))
 rcases (show (left-(i.size:Int)<0)∨(¬left-(i.size:Int)<0) by omega) with q1|q1
 all_goals
  go_enter Tryz.func48,Tryz.ntmps48
  go_wp2_with fail
  go_ret
  refine ⟨ret_int ?_,HB.out⟩
  first|rfl|omega|(rw [if_neg (by omega)];done)|(rw [if_pos (by omega)];done)
theorem infoN:(Tryz.prog.info? 110).map (fun i=>(i.zero,i.size,i.bytes))=some (some (.agg #[.string ⟨#[]⟩,.int .i64 0,.int .i64 0]),3,32):=by kernel_rfl
theorem row_full3 {w:World} {base e g n s:Nat} {xs:List Value} (h:w.ownsRow base e s (.slice (some ⟨g,0,none⟩) n n) n xs):Pt g (n*s) w:=by
 rcases h.2 with ⟨h1,_⟩|⟨g',cap,cur,h1,_,hg,_,_,hs,_⟩
 ·simp at h1
 ·simp at h1
  obtain ⟨rfl,rfl⟩:=h1
  refine ⟨(Array.getElem?_eq_some_iff.1 hg).1,fun o ho=>⟨cur[o]'(by omega),?_⟩,fun o ho=>?_⟩
  ·have:o<cur.size:=by omega
   simp [World.cell?,hg,this]
  ·simp [World.frozen?,hg]
theorem toEntry_any (i:ByteArray) (n s:Int) (w:World) :
 Calls Tryz.prog 67 #[.agg #[.string i,.int .i64 n,.int .i64 s]] w fun e w'=>e=.returned (.agg #[.string i,.int .i64 n,.int .i64 s])∧Below w.heap.size w w':=by
 go_enter Tryz.func67,Tryz.ntmps67
 go_wp2_with fail
 refine bodyPost_ret (v:=.agg #[.string i,.int .i64 n,.int .i64 s]) (by simp [results,Tryz.results67,go_sem]) rfl ⟨rfl,?_⟩
 repeat' first|exact Below.refl _ _|apply Below.setCell|apply Below.alloc
 all_goals first|omega|(simp;done)|(simp;omega)
theorem fill_step {f:Nat→Option Value} {w wr:World} {m j:Nat} (hb:Below w.heap.size w wr) (hp:Pt w.heap.size m wr) (hw:Wr f j w.heap.size wr) (hj:j<m) (v:Value) (hv:f j=some v) :
 Below w.heap.size w (wr.setCell ⟨w.heap.size,j,none⟩ v)∧Pt w.heap.size m (wr.setCell ⟨w.heap.size,j,none⟩ v)∧Wr f (j+1) w.heap.size (wr.setCell ⟨w.heap.size,j,none⟩ v) :=
 ⟨hb.setCell (Nat.le_refl _) _,hp.set _ _,hw.more hp hj v hv⟩
theorem toEns_any (ao:Option Addr) (cap:Nat) (es:List N) (w:World) (hlen:es.length≤1048576) (hI:Ens ao es w) :
 Calls Tryz.prog 24 #[.slice ao es.length cap] w fun e w'=>e=.returned (.slice (some ⟨w.heap.size,0,none⟩) es.length es.length)∧Ens (some ⟨w.heap.size,0,none⟩) es w'∧Pt w.heap.size (es.length*3) w'∧Below w.heap.size w w':=by
 obtain ⟨i0,hi,hz0,hz1,hz2⟩:=info_parts infoN
 have HI:=H_ hI
 have HWS:Hid (∀wr,Wr (cellAt 3 N.cells N.zero es) (es.length*3) w.heap.size wr→w.heap.size<wr.heap.size→Ens (some ⟨w.heap.size,0,none⟩) es wr):=H_ (fun wr h hl=>Wr.rws h hl)
 have HZ:Hid (∀k,k<es.length→True):=H_ (fun _ _=>trivial)
 obtain ⟨len,hl⟩:∃len,len=es.length:=⟨_,rfl⟩
 rw [←hl] at hlen HWS ⊢
 have HL:=H_ hl
 clear hI hl
 go_enter Tryz.func24,Tryz.ntmps24
 go_wp2_with (at_make;refine wpList_make_full _ rfl _ _ 38 rfl w.heap.size 110 i0 (.agg #[.string ⟨#[]⟩,.int .i64 0,.int .i64 0]) 3 Tryz.underlying38 hi hz0 hz1 .i64 .i64 _ _ len rfl rfl rfl rfl ?b2 ?b3 ?b4 ?_)
 case b2=>rw [hz2];omega
 case b3=>unfold maxLen;omega
 case b4=>exact Nat.le_refl _
 intro wm hown hgrow
 have HB0:Hid (Below w.heap.size w wm):=H_ ((Below.refl _ _).grown hgrow (Nat.le_refl _) (fun k e=>by cases e))
 have HP0:=H_ (row_full3 hown)
 clear hown hgrow hi hz0 hz1 hz2
 go_wp2_with fail
 go_loopw [4] (fun z wr=>∃k:Nat,k≤len∧z=.int .i64 k∧Hid (Below w.heap.size w wr)∧Hid (Pt w.heap.size (len*3) wr)∧Hid (Wr (cellAt 3 N.cells N.zero es) (k*3) w.heap.size wr)) (fun z _=>len-(intOf z).toNat)
 case atStart=>exact ⟨0,by omega,rfl,HB0,HP0,H_ (fun o ho=>absurd ho (by omega))⟩
 case round =>
  obtain ⟨k,hk,rfl,HB,HP,HW⟩:=hrel
  by_cases hlt:k<len
  ·have hlt2:(k:Int)<(len:Int):=by omega
   obtain ⟨b,off,rfl,hbl,c0,c1,c2⟩:=(HI.out.below HB.out).at k (by have:=HL.out;omega)
   have HX:=H_ (cellAt_of (k:=3) (cells:=N.cells) (z:=N.zero) (xs:=es) k)
   generalize es.getD k N.zero=X at *
   obtain ⟨xi,xn,xs⟩:=X
   have HC:=H_ (fun w=>toEntry_any xi xn xs w)
   go_wp2_with fail
   refine (HC.out _).mono ?_
   rintro e w1 ⟨rfl,hb⟩
   replace HW:=H_ (HW.out.below HP.out hb)
   replace HP:=H_ (HP.out.below hb)
   replace HB:=HT_ HB hb
   have HS0:=H_ (fill_step HB.out HP.out HW.out (by omega) (.string xi) (HX.out 0 (by omega)))
   have HS1:=H_ (fill_step HS0.out.1 HS0.out.2.1 HS0.out.2.2 (by omega) (.int .i64 xn) (HX.out 1 (by omega)))
   have HS2:=H_ (fill_step HS1.out.1 HS1.out.2.1 HS1.out.2.2 (by omega) (.int .i64 xs) (HX.out 2 (by omega)))
   obtain ⟨v0,d0⟩:=HP.out.has (k*3) (by omega)
   obtain ⟨v1,d1⟩:=HP.out.has (k*3+1) (by omega)
   obtain ⟨v2,d2⟩:=HP.out.has (k*3+2) (by omega)
   have z0:=HP.out.free (k*3) (by omega)
   have z1:=HP.out.free (k*3+1) (by omega)
   have z2:=HP.out.free (k*3+2) (by omega)
   clear hb c0 c1 c2 HX HS0 HS1
   go_wp2_with fail
   go_roundw
   case rel=>exact ⟨k+1,by omega,by go_num,H_ HS2.out.1,H_ HS2.out.2.1,H_ (by rw [show (k+1)*3=k*3+1+1+1 by omega];exact HS2.out.2.2)⟩
   case measure=>simp [intOf];omega
  ·have hlt2:¬(k:Int)<(len:Int):=by omega
   obtain rfl:k=len:=by omega
   go_wp2_with fail
   go_ret
   exact ⟨rfl,HWS.out _ HW.out HP.out.lt,HP.out,HB.out⟩
theorem eqEntry_any (i:ByteArray) (n s:Int) (w:World):Calls Tryz.prog 85 #[.agg #[.string i,.int .i64 n,.int .i64 s],.agg #[.string i,.int .i64 n,.int .i64 s]] w fun e w'=>e=.returned (.bool true)∧Below w.heap.size w w':=by
 go_enter Tryz.func85,Tryz.ntmps85
 go_wp2
 go_ret
 refine ⟨rfl,?_⟩
 repeat' first|exact Below.refl _ _|apply Below.setCell|apply Below.alloc
 all_goals first|omega|(simp;done)|(simp;omega)
theorem eqEns_any (ao bo:Option Addr) (cap cap':Nat) (es:List N) (w:World) (hlen:es.length≤1048576) (hI:Ens ao es w) (hJ:Ens bo es w) :
 Calls Tryz.prog 36 #[.slice ao es.length cap,.slice bo es.length cap'] w fun e w'=>e=.returned (.bool true)∧Below w.heap.size w w':=by
 have HI:=H_ hI
 have HJ:=H_ hJ
 obtain ⟨len,hl⟩:∃len,len=es.length:=⟨_,rfl⟩
 rw [←hl] at hlen ⊢
 have HL:=H_ hl
 clear hI hJ hl
 go_enter Tryz.func36,Tryz.ntmps36
 go_wp2_with fail
 go_loopw [5] (fun z wr=>∃k:Nat,k≤len∧z=.int .i64 k∧Hid (Below w.heap.size w wr)) (fun z _=>len-(intOf z).toNat)
 case atStart=>exact ⟨0,by omega,rfl,H_ (Below.refl _ _)⟩
 case round =>
  obtain ⟨k,hk,rfl,HW⟩:=hrel
  by_cases hlt:k<len
  ·have hlt2:(k:Int)<(len:Int):=by omega
   obtain ⟨b,off,rfl,_,c0,c1,c2⟩:=(HI.out.below HW.out).at k (by have:=HL.out;omega)
   obtain ⟨b',off',rfl,_,e0,e1,e2⟩:=(HJ.out.below HW.out).at k (by have:=HL.out;omega)
   generalize es.getD k N.zero=X at *
   obtain ⟨xi,xn,xs⟩:=X
   have HC:=H_ (fun w=>eqEntry_any xi xn xs w)
   go_wp2_with fail
   go_region_with (go_at_call 85;refine (HC.out _).mono ?_;rintro e w1 ⟨rfl,hb⟩)
   all_goals (
    have HB1:=H_ (HW.out.drew.trans (hb.mono HW.out.drew.size))
    clear hb c0 c1 c2 e0 e1 e2
    go_wp2_with fail
    go_roundw
    case rel=>exact ⟨k+1,by omega,by go_num,HB1⟩
    case measure=>simp [intOf];omega)
  ·have hlt2:¬(k:Int)<(len:Int):=by omega
   go_wp2_with fail
   go_ret
   exact ⟨rfl,HW.out⟩
end SeenR
namespace MarkR
theorem H_ {p:Prop} (h:p):Hid p:=h
theorem conv_m (w:World) (z:Int):(convert 205 9 (.slice (some ⟨w.heap.size,0,none⟩) 1 1)).run Tryz.prog (w.alloc (Obj.cells #[.int .u8 z] 5))=.ok (.string (strOfNums [z])) (w.alloc (Obj.cells #[.int .u8 z] 5)):=by
 refine run_convert_bytes_arg _ 205 5 Tryz.underlying205 Tryz.underlying5 w.heap.size 0 1 1 _ rfl ?_ 9 Tryz.underlying9
 intro i hi
 match i,hi with
 | 0,_=>simp [go_sem]
def mk:Nat→Nat→ByteArray→ByteArray
 | 0,_,out=>out
 | f+1,k,out=>if k=0 then out else mk f (k / 10) (strOfNums [48+((k % 10:Nat):Int)]++out)
def mT (k:Nat):ByteArray:=(⟨#[109]⟩:ByteArray)++mk 9 k ⟨#[]⟩
theorem mark_any (K:Nat) (h0:1≤K) (h:K<100000000) (w:World):Calls Tryz.prog 89 #[.int .i64 K] w fun e w'=>e=.returned (.string (mT K))∧Below w.heap.size w w':=by
 have h1:¬(K:Int)≤0:=by omega
 have HT:Hid (mT K=(⟨#[109]⟩:ByteArray)++mk 9 K ⟨#[]⟩):=rfl
 generalize mT K=R at *
 go_enter Tryz.func89,Tryz.ntmps89
 go_wp2_with fail
 go_loopw [0,3] (fun x z wr=>∃(f k:Nat) (out:ByteArray),x=.int .i64 (k:Int)∧z=.string out∧k<10 ^ f∧f≤9∧Hid (mk 9 K ⟨#[]⟩=mk f k out)∧out.size+f=9∧Hid (Below w.heap.size w wr)) (fun x _ _=>(intOf x).toNat)
 case atStart=>exact ⟨9,K,⟨#[]⟩,rfl,rfl,by omega,by omega,rfl,rfl,H_ (Below.refl _ _)⟩
 case round =>
  obtain ⟨f,k,out,rfl,rfl,hk,hf,HD,hz,HB⟩:=hrel
  by_cases hk0:k=0
  ·subst hk0
   have HO:Hid (R=(⟨#[109]⟩:ByteArray)++out):=H_ (by rw [HT.out,HD.out];cases f<;>simp [mk])
   have q1:¬9223372036854775807<1+out.size:=by omega
   go_wp2_with fail
   go_ret
   exact ⟨ret_str HO.out.symm,HB.out⟩
  ·obtain ⟨g,rfl⟩:∃g,f=g+1:=⟨f-1,by rcases f with _|f;simp at hk;omega;omega⟩
   have hk2:k / 10<10 ^ g:=by rw [Nat.pow_succ] at hk;omega
   have HD2:Hid (mk 9 K ⟨#[]⟩=mk g (k / 10) (strOfNums [48+((k % 10:Nat):Int)]++out)):=H_ (by rw [HD.out,mk,if_neg hk0])
   have hkb:k<1000000000:=by
    have:10 ^ (g+1)≤10 ^ 9:=Nat.pow_le_pow_right (by omega) hf
    omega
   have k1:(0:Int)<(k:Int):=by omega
   have e1:(k:Int) % 10=((k % 10:Nat):Int):=by omega
   have e2:(k:Int) / 10=((k / 10:Nat):Int):=by omega
   have e3:(k:Int).tmod 10=((k % 10:Nat):Int):=by rw [Int.tmod_eq_emod_of_nonneg (by omega)];omega
   have e4:(k:Int).tdiv 10=((k / 10:Nat):Int):=by rw [Int.tdiv_eq_ediv_of_nonneg (by omega)];omega
   have d10:k % 10<10:=by omega
   have dk:k / 10<k:=by omega
   have hC:(strOfNums [48+((k % 10:Nat):Int)]).size=1:=strOfNums_size _
   have hcv:=conv_m wr (48+((k % 10:Nat):Int))
   generalize k % 10=d at *
   generalize k / 10=q at *
   generalize strOfNums [48+(d:Int)]=T at *
   have q1:¬9223372036854775807<T.size+out.size:=by omega
   have HDk:=H_ dk
   clear dk hk HD
   go_wp2_with fail
   go_roundw
   case rel=>exact ⟨g,q,T++out,rfl,rfl,hk2,by omega,HD2,by rw [ByteArray.size_append];omega,H_ (HB.out.alloc HB.out.size _)⟩
   case measure=>simp [intOf];have:=HDk.out;omega
end MarkR
namespace CatR
def Blk (b:Nat) (cs:List Value) (w:World):Prop:=b<w.heap.size∧∀i,i<cs.length→w.cell? ⟨b,i,none⟩=cs[i]?
theorem Blk.below {b:Nat} {cs:List Value} {w w':World} (h:Blk b cs w) (hb:Below w.heap.size w w'):Blk b cs w' :=
 ⟨by have:=hb.size;have:=h.1;omega,fun i hi=>(hb.cell (p:=⟨b,i,none⟩) h.1).trans (h.2 i hi)⟩
theorem Blk.new (w:World) (cs:List Value) (T:TypeId):Blk w.heap.size cs (w.alloc (.cells cs.toArray T)) :=
 ⟨by simp,fun i hi=>by simp [go_sem]⟩
theorem Blk.alloc {b:Nat} {cs:List Value} {w:World} (h:Blk b cs w) (o:Obj):Blk b cs (w.alloc o):=h.below (al_ _ _)
theorem Blk.drew {b:Nat} {cs:List Value} {w:World} (h:Blk b cs w):Blk b cs w.drew:=h
theorem Blk.drewN {b:Nat} {cs:List Value} {w:World} (h:Blk b cs w) (n:Nat):Blk b cs (w.drewN n):=h
end CatR
namespace DocR
open RowG
open EvtR (Pt)
open CatR (Blk Blk.new)
def BlkW (b:Nat) (cs:List Value) (w:World):Prop:=Blk b cs w∧∀i,i<cs.length→w.frozen? ⟨b,i,none⟩=false
theorem BlkW.below {b:Nat} {cs:List Value} {w w':World} (h:BlkW b cs w) (hb:Below w.heap.size w w'):BlkW b cs w' :=
 ⟨h.1.below hb,fun i hi=>(hb.frozen (p:=⟨b,i,none⟩) h.1.1).trans (h.2 i hi)⟩
theorem BlkW.new (w:World) (cs:List Value) (T:TypeId):BlkW w.heap.size cs (w.alloc (.cells cs.toArray T)) :=
 ⟨Blk.new w cs T,fun i hi=>by simp [go_sem]⟩
theorem BlkW.set {b:Nat} {cs:List Value} {w:World} (h:BlkW b cs w) (o:Nat) (v:Value) (ho:o<cs.length):BlkW b (cs.set o v) (w.setCell ⟨b,o,none⟩ v):=by
 obtain ⟨⟨hl,hc⟩,hf⟩:=h
 refine ⟨⟨by simpa using hl,fun i hi=>?_⟩,fun i hi=>?_⟩
 ·rw [List.length_set] at hi
  by_cases e:o=i
  ·subst e
   have:=hc o hi
   rw [List.getElem?_eq_getElem hi] at this
   rw [List.getElem?_set_self ho]
   simp [go_sem,this]
  ·rw [List.getElem?_set_ne e,←hc i hi]
   simp [go_sem]
 ·rw [List.length_set] at hi
  have:=hf i hi
  simp [go_sem,this]
theorem BlkW.other {b:Nat} {cs:List Value} {w:World} (h:BlkW b cs w) (g o:Nat) (v:Value) (hg:g≠b):BlkW b cs (w.setCell ⟨g,o,none⟩ v):=by
 have e:=(grown_set w g o v).block b h.1.1 (by simp;exact fun q=>hg q.symm)
 exact ⟨⟨by simpa using h.1.1,fun i hi=>(World.cell?_of_block (a:=⟨b,i,none⟩) e).trans (h.1.2 i hi)⟩,fun i hi=>(World.frozen?_of_block (a:=⟨b,i,none⟩) e).trans (h.2 i hi)⟩
theorem Rws.put {α:Type} {k:Nat} {cells:α→List Value} {z:α} {ao:Option Addr} {xs:List α} {w:World} (h:Rws k cells z ao xs w) (g o:Nat) (v:Value) (hne:xs.length=0∨∀b off,ao=some ⟨b,off,none⟩→b≠g):Rws k cells z ao xs (w.setCell ⟨g,o,none⟩ v) :=
 h.grown (grown_set w g o v) (hne.imp id (fun hn b off e q=>hn b off e (by simpa using q)))
theorem MadeG.put {α:Type} {k:Nat} {cells:α→List Value} {z:α} {base:Nat} {ao:Option Addr} {xs:List α} {w:World} (h:MadeG k cells z base ao xs w) (g o:Nat) (v:Value) (hne:xs.length=0∨∀b off,ao=some ⟨b,off,none⟩→b≠g):MadeG k cells z base ao xs (w.setCell ⟨g,o,none⟩ v):=by
 refine ⟨Rws.put h.rws g o v hne,?_⟩
 rcases h.own with h0|⟨b,e1,e2,e3⟩
 ·exact .inl h0
 ·rcases hne with h0|hn
  ·exact .inl h0
  have e:=(grown_set w g o v).block b e3.lt (by simp;exact fun q=>hn b 0 e1 q)
  exact .inr ⟨b,e1,e2,by simpa using e3.lt,fun x hx=>by obtain ⟨u,hu⟩:=e3.has x hx;exact ⟨u,(World.cell?_of_block (a:=⟨b,x,none⟩) e).trans hu⟩,fun x hx=>(World.frozen?_of_block (a:=⟨b,x,none⟩) e).trans (e3.free x hx)⟩
end DocR
namespace StR
open EvtR (Pt cell_put cell_far)
open CatR (Blk)
def stL (W:World) (p:Nat):Nat→List Value→World
 | _,[]=>W
 | o,v::vs=>stL (W.setCell ⟨p,o,none⟩ v) p (o+1) vs
theorem gtr {w w1 w2:World} {g:Option Nat} (h1:w.grownBy w1 g) (h2:w1.grownBy w2 g):w.grownBy w2 g :=
 ⟨h2.os.trans h1.os,h2.tape.trans h1.tape,h2.output.trans h1.output,Nat.le_trans h1.size h2.size,fun k hk hne=>(h2.block k (by have:=h1.size;omega) hne).trans (h1.block k hk hne)⟩
theorem stL_grown (p:Nat):∀(vs:List Value) (o:Nat) (W:World),W.grownBy (stL W p o vs) (some p)
 | [],_,W=>⟨rfl,rfl,rfl,Nat.le_refl _,fun _ _ _=>rfl⟩
 | v::vs,o,W=>gtr (RowG.grown_set W p o v) (stL_grown p vs (o+1) _)
theorem pt_new (w:World) (cs:List Value) (T:TypeId):Pt w.heap.size cs.length (w.alloc (.cells cs.toArray T)) :=
 ⟨by simp,fun o ho=>⟨cs[o],by simp [go_sem,ho]⟩,fun o ho=>by simp [go_sem]⟩
end StR
namespace OwG
open RowG (MadeG Rws cellsAll)
open EvtR (Pt)
open CatR (Blk Blk.new)
open DocR (BlkW)
theorem gtransO {w w1 w2:World} {g:Option Nat} (h1:w.grownBy w1 g) (h2:w1.grownBy w2 g):w.grownBy w2 g :=
 ⟨h2.os.trans h1.os,h2.tape.trans h1.tape,h2.output.trans h1.output,Nat.le_trans h1.size h2.size,fun k hk hne=>(h2.block k (by have:=h1.size;omega) hne).trans (h1.block k hk hne)⟩
theorem rgrownO {w w':World} (hb:Below w.heap.size w w') (row:Option Nat):w.grownBy w' row:=⟨hb.os,hb.tape,hb.output,hb.size,fun k hk _=>hb.block k hk⟩
theorem blkW_grown {b:Nat} {cs:List Value} {w w':World} {row:Option Nat} (h:BlkW b cs w) (hg:w.grownBy w' row) (hne:some b≠row):BlkW b cs w':=by
 have e:=hg.block b h.1.1 hne
 exact ⟨⟨Nat.lt_of_lt_of_le h.1.1 hg.size,fun i hi=>(World.cell?_of_block (a:=⟨b,i,none⟩) e).trans (h.1.2 i hi)⟩,fun i hi=>(World.frozen?_of_block (a:=⟨b,i,none⟩) e).trans (h.2 i hi)⟩
theorem pt_row {p n:Nat} {W W':World} {row:Option Nat} (h:Pt p n W) (hg:W.grownBy W' row) (hne:some p≠row):Pt p n W':=by
 have e:=hg.block p h.lt hne
 exact ⟨by have:=hg.size;have:=h.lt;omega,fun o ho=>by obtain ⟨v,hv⟩:=h.has o ho;exact ⟨v,(World.cell?_of_block (a:=⟨p,o,none⟩) e).trans hv⟩,fun o ho=>(World.frozen?_of_block (a:=⟨p,o,none⟩) e).trans (h.free o ho)⟩
theorem own_keepG {w w':World} {base e size n:Nat} {v:Value} {xs:List Value} {g:Nat} (h:w.ownsRow base e size v n xs) (hg:w.grownBy w' (some g)) (hlt:g<base):w'.ownsRow base e size v n xs:=by
 refine h.kept hg ?_
 rcases hob:v.ownBlock with _|b
 ·exact .inl rfl
 ·refine .inr (fun e=>?_)
  have:=(h.lt b hob).1
  simp only [Option.some.injEq] at e
  omega
theorem own_apart {w:World} {base e size n base' e' size' n':Nat} {v v':Value} {xs xs':List Value} (h:w.ownsRow base e size v n xs) (h':w.ownsRow base' e' size' v' n' xs') (hT:e'≠e):∀b,v.ownBlock=some b→some b≠v'.ownBlock:=by
 intro b hb q
 rcases h.2 with ⟨h0,_⟩|⟨g,cap,cur,hv,_,hh,_⟩
 ·rw [h0] at hb;simp [Value.ownBlock] at hb
 ·rw [hv] at hb
  simp only [Value.ownBlock,Option.some.injEq] at hb
  rcases h'.2 with ⟨h0,_⟩|⟨g2,cap2,cur2,hv2,_,hh2,_⟩
  ·rw [h0] at q;simp [Value.ownBlock] at q
  ·rw [hv2] at q
   simp only [Value.ownBlock,Option.some.injEq] at q
   subst hb
   subst q
   rw [hh2] at hh
   simp at hh
   exact hT hh.2
theorem own_keepO {w w':World} {base e size n:Nat} {v:Value} {xs:List Value} {row:Option Nat} (h:w.ownsRow base e size v n xs) (hg:w.grownBy w' row) (hne:∀b,v.ownBlock=some b→some b≠row):w'.ownsRow base e size v n xs:=by
 refine h.kept hg ?_
 rcases hob:v.ownBlock with _|b
 ·exact .inl rfl
 ·exact .inr (hne b hob)
theorem own_low {w:World} {base base' e size n:Nat} {v:Value} {xs:List Value} (h:w.ownsRow base e size v n xs) (hb:base'≤base):w.ownsRow base' e size v n xs:=by
 refine ⟨h.1,?_⟩
 rcases h.2 with hn|⟨g,cap,cur,rfl,h1,rest⟩
 ·exact .inl hn
 ·exact .inr ⟨g,cap,cur,rfl,by omega,rest⟩
theorem own_form {w:World} {base e size n:Nat} {v:Value} {xs:List Value} (h:w.ownsRow base e size v (n+1) xs):∃b c,v=.slice (some ⟨b,0,none⟩) (n+1) c:=by
 rcases h.2 with ⟨_,h0⟩|⟨g,cap,cur,hv,_⟩
 ·omega
 ·exact ⟨_,_,hv⟩
theorem cellsAll_snoc {α:Type} (cells:α→List Value) (l:List α) (x:α):cellsAll cells (l ++ [x])=cellsAll cells l++cells x:=by simp [cellsAll]
theorem new_cells (w:World) (cs:List Value) (T:TypeId):∀j u,cs[j]? = some u→(w.alloc (.cells cs.toArray T)).cell? ((⟨w.heap.size,0,none⟩:Addr).add j)=some u:=by
 intro j u hj
 have hl:=(List.getElem?_eq_some_iff.1 hj).1
 have:=(Blk.new w cs T).2 j hl
 rw [hj] at this
 rw [←this]
 congr 1
 unfold Addr.add;split<;>simp_all
end OwG
namespace ChG
open EvtR (Pt)
structure Chg (S:Nat→Prop) (w w':World):Prop where
 os:w'.os=w.os
 tape:w'.tape=w.tape
 output:w'.output=w.output
 size:w.heap.size≤w'.heap.size
 block:∀b,b<w.heap.size→¬S b→w'.heap[b]? = w.heap[b]?
theorem Chg.refl (S:Nat→Prop) (w:World):Chg S w w:=⟨rfl,rfl,rfl,Nat.le_refl _,fun _ _ _=>rfl⟩
theorem Chg.below {S:Nat→Prop} {w w1 w2:World} (h:Chg S w w1) (hb:Below w1.heap.size w1 w2):Chg S w w2 :=
 ⟨hb.os.trans h.os,hb.tape.trans h.tape,hb.output.trans h.output,Nat.le_trans h.size hb.size,fun b h1 h2=>(hb.block b (by have:=h.size;omega)).trans (h.block b h1 h2)⟩
theorem Chg.grown {S:Nat→Prop} {x:Nat} {w w1 w2:World} (h:Chg S w w1) (hg:w1.grownBy w2 (some x)) (hx:S x):Chg S w w2 :=
 ⟨hg.os.trans h.os,hg.tape.trans h.tape,hg.output.trans h.output,Nat.le_trans h.size hg.size,fun b h1 h2=>(hg.block b (by have:=h.size;omega) (by intro e;simp only [Option.some.injEq] at e;subst e;exact h2 hx)).trans (h.block b h1 h2)⟩
theorem Chg.trans {S:Nat→Prop} {w w1 w2:World} (h:Chg S w w1) (h2:Chg S w1 w2):Chg S w w2 :=
 ⟨h2.os.trans h.os,h2.tape.trans h.tape,h2.output.trans h.output,Nat.le_trans h.size h2.size,fun b h1 hs=>(h2.block b (by have:=h.size;omega) hs).trans (h.block b h1 hs)⟩
theorem Chg.wide {S S':Nat→Prop} {w w':World} (h:Chg S w w') (hs:∀b,S b→S' b):Chg S' w w' :=
 ⟨h.os,h.tape,h.output,h.size,fun b h1 h2=>h.block b h1 (fun q=>h2 (hs b q))⟩
theorem Chg.of_below {S:Nat→Prop} {w w':World} (hb:Below w.heap.size w w'):Chg S w w':=(Chg.refl S w).below hb
theorem Chg.out {S:Nat→Prop} {B:Nat} {a w w':World} (h:Chg S w w') (hb:Below B a w) (hB:∀b,S b→B≤b) (ha:B≤a.heap.size):Below B a w' :=
 ⟨h.os.trans hb.os,h.tape.trans hb.tape,h.output.trans hb.output,Nat.le_trans hb.size h.size,fun k hk=>(h.block k (by have:=hb.size;omega) (fun q=>by have:=hB k q;omega)).trans (hb.block k hk)⟩
theorem pt_block {p n:Nat} {W W':World} (h:Pt p n W) (hs:W.heap.size≤W'.heap.size) (e:W'.heap[p]? = W.heap[p]?):Pt p n W' :=
 ⟨by have:=h.lt;omega,fun o ho=>by obtain ⟨v,hv⟩:=h.has o ho;exact ⟨v,(World.cell?_of_block (a:=⟨p,o,none⟩) e).trans hv⟩,fun o ho=>(World.frozen?_of_block (a:=⟨p,o,none⟩) e).trans (h.free o ho)⟩
theorem Chg.pt {S:Nat→Prop} {p n:Nat} {W W':World} (h:Chg S W W') (hp:Pt p n W) (hn:¬S p):Pt p n W':=pt_block hp h.size (h.block p hp.lt hn)
theorem Chg.blk {S:Nat→Prop} {b:Nat} {cs:List Value} {w w':World} (h:Chg S w w') (hp:CatR.Blk b cs w) (hn:¬S b):CatR.Blk b cs w' :=
 ⟨by have:=h.size;have:=hp.1;omega,fun i hi=>(World.cell?_of_block (a:=⟨b,i,none⟩) (h.block b hp.1 hn)).trans (hp.2 i hi)⟩
end ChG
end Go.Proofs.YtnceeaccbcfopaaGreatDoor
