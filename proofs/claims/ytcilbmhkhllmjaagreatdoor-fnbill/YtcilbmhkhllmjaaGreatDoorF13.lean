/-
  Lists of windows: read, how many letters, the law's own copies, held against each other. The condition: sizes of at most 1048576.
  Lists put into the order of a text of theirs, each in its place: one rising list of the same elements alone. No condition.
  The draws of a meter: the plain catalog, and a meter of it that may be changed. The condition: the bytes are at most 1048576.
-/
import Derived.Deep.RegionHeld3
import Derived.Test.YtcilbmhkhllmjaaGreatDoorF12
namespace Go.Proofs.YtcilbmhkhllmjaaGreatDoor
open Go.ChangeShapes Go.WideShapes Go.ChangeAt Go.RowKit
set_option linter.unusedVariables false
namespace WinR
open RowG
open EvtR (Pt cell_put cell_far)
open Go.Deep
def Wd.zero:Wd:=⟨⟨#[]⟩,⟨#[]⟩,0,0,0,0,[],[]⟩
def WinAt (w:World) (b o:Nat) (x:Wd):Prop:=∃ta tc ha hc,w.cell? ⟨b,o,none⟩=some (.string x.a)∧w.cell? ⟨b,o+1,none⟩=some (.string x.m)∧w.cell? ⟨b,o+2,none⟩=some (.int .i64 x.mo)∧w.cell? ⟨b,o+3,none⟩=some (.int .i64 x.ev)∧w.cell? ⟨b,o+4,none⟩=some (.int .i64 x.su)∧w.cell? ⟨b,o+5,none⟩=some (.int .i64 x.mx)∧w.cell? ⟨b,o+6,none⟩=some (.slice ta x.ts.length tc)∧w.cell? ⟨b,o+7,none⟩=some (.slice ha x.hs.length hc)∧Tgs ta x.ts w∧Hrs ha x.hs w
def Wns (ao:Option Addr) (ws:List Wd) (w:World):Prop:=ws.length=0∨∃b off,ao=some ⟨b,off,none⟩∧b<w.heap.size∧∀j,j<ws.length→WinAt w b (off+j*8) (ws.getD j Wd.zero)
theorem WinAt.below {w w':World} {b o:Nat} {x:Wd} (h:WinAt w b o x) (hl:b<w.heap.size) (hb:Below w.heap.size w w'):WinAt w' b o x:=by
 obtain ⟨ta,tc,ha,hc,h0,h1,h2,h3,h4,h5,h6,h7,hT,hH⟩:=h
 have f:=fun k=>hb.cell (p:=⟨b,k,none⟩) hl
 exact ⟨ta,tc,ha,hc,(f _).trans h0,(f _).trans h1,(f _).trans h2,(f _).trans h3,(f _).trans h4,(f _).trans h5,(f _).trans h6,(f _).trans h7,hT.below hb,hH.below hb⟩
theorem Wns.below {ao:Option Addr} {ws:List Wd} {w w':World} (h:Wns ao ws w) (hb:Below w.heap.size w w'):Wns ao ws w' :=
 h.imp id (fun ⟨b,off,e,hl,hc⟩=>⟨b,off,e,by have:=hb.size;omega,fun j hj=>(hc j hj).below hl hb⟩)
theorem Wns.at {ao:Option Addr} {ws:List Wd} {w:World} (h:Wns ao ws w) (j:Nat) (hj:j<ws.length):∃b off ta tc ha hc,ao=some ⟨b,off,none⟩∧b<w.heap.size∧w.cell? ⟨b,off+j*8,none⟩=some (.string (ws.getD j Wd.zero).a)∧w.cell? ⟨b,off+j*8+1,none⟩=some (.string (ws.getD j Wd.zero).m)∧w.cell? ⟨b,off+j*8+2,none⟩=some (.int .i64 (ws.getD j Wd.zero).mo)∧w.cell? ⟨b,off+j*8+3,none⟩=some (.int .i64 (ws.getD j Wd.zero).ev)∧w.cell? ⟨b,off+j*8+4,none⟩=some (.int .i64 (ws.getD j Wd.zero).su)∧w.cell? ⟨b,off+j*8+5,none⟩=some (.int .i64 (ws.getD j Wd.zero).mx)∧w.cell? ⟨b,off+j*8+6,none⟩=some (.slice ta (ws.getD j Wd.zero).ts.length tc)∧w.cell? ⟨b,off+j*8+7,none⟩=some (.slice ha (ws.getD j Wd.zero).hs.length hc)∧Tgs ta (ws.getD j Wd.zero).ts w∧Hrs ha (ws.getD j Wd.zero).hs w:=by
 rcases h with h0|⟨b,off,e,hl,hc⟩
 ·omega
 ·obtain ⟨ta,tc,ha,hc,h⟩:=hc j hj
  exact ⟨b,off,ta,tc,ha,hc,e,hl,h⟩
section
variable {J:Type} {enc:TypeId × Value→J} {P:Program} {w:World} {base:Nat} {spare:Nat→Bool} {held:Bool}
end
def Inn (g t:Nat) (a:Option Addr) (n m:Nat) (W:World):Prop:=n=0∨∃g',a=some ⟨g',0,none⟩∧g<g'∧g'<t∧Pt g' m W
theorem ptA {p q n o:Nat} {W:World} {v:Value} (h:Pt p n W):Pt p n (W.setCell ⟨q,o,none⟩ v):=by
 by_cases e:p=q
 ·subst e;exact h.set _ _
 ·have eb:=(grown_set W q o v).block p h.lt (by simp;exact e)
  exact ⟨by have:=h.lt;simpa using this,fun x hx=>by obtain ⟨u,hu⟩:=h.has x hx;exact ⟨u,(World.cell?_of_block (a:=⟨p,x,none⟩) eb).trans hu⟩,fun x hx=>(World.frozen?_of_block (a:=⟨p,x,none⟩) eb).trans (h.free x hx)⟩
theorem Inn.ne {g t:Nat} {a:Option Addr} {n m:Nat} {W:World} (h:Inn g t a n m W):n=0∨∀b off,a=some ⟨b,off,none⟩→b≠g:=h.imp id (fun ⟨g',e1,e2,_⟩ b off e=>by rw [e1] at e;simp at e;omega)
theorem Inn.below {g t t':Nat} {a:Option Addr} {n m:Nat} {W W':World} (h:Inn g t a n m W) (hb:Below W.heap.size W W') (ht:t≤t'):Inn g t' a n m W':=h.imp id (fun ⟨g',e1,e2,e3,e4⟩=>⟨g',e1,e2,by omega,e4.below hb⟩)
theorem Inn.put {g t q o:Nat} {a:Option Addr} {n m:Nat} {W:World} {v:Value} (h:Inn g t a n m W):Inn g t a n m (W.setCell ⟨q,o,none⟩ v):=h.imp id (fun ⟨g',e1,e2,e3,e4⟩=>⟨g',e1,e2,e3,ptA e4⟩)
theorem Inn.top {g t t':Nat} {a:Option Addr} {n m:Nat} {W:World} (h:Inn g t a n m W) (ht:t≤t'):Inn g t' a n m W:=h.imp id (fun ⟨g',e1,e2,e3,e4⟩=>⟨g',e1,e2,by omega,e4⟩)
def WW (g k:Nat) (ws:List Wd) (W:World):Prop:=∀j,j<k→∃ta tc ha hc,W.cell? ⟨g,j*8,none⟩=some (.string (ws.getD j Wd.zero).a)∧W.cell? ⟨g,j*8+1,none⟩=some (.string (ws.getD j Wd.zero).m)∧W.cell? ⟨g,j*8+2,none⟩=some (.int .i64 (ws.getD j Wd.zero).mo)∧W.cell? ⟨g,j*8+3,none⟩=some (.int .i64 (ws.getD j Wd.zero).ev)∧W.cell? ⟨g,j*8+4,none⟩=some (.int .i64 (ws.getD j Wd.zero).su)∧W.cell? ⟨g,j*8+5,none⟩=some (.int .i64 (ws.getD j Wd.zero).mx)∧W.cell? ⟨g,j*8+6,none⟩=some (.slice ta (ws.getD j Wd.zero).ts.length tc)∧W.cell? ⟨g,j*8+7,none⟩=some (.slice ha (ws.getD j Wd.zero).hs.length hc)∧Tgs ta (ws.getD j Wd.zero).ts W∧Hrs ha (ws.getD j Wd.zero).hs W∧Inn g W.heap.size ta (ws.getD j Wd.zero).ts.length ((ws.getD j Wd.zero).ts.length*1) W∧Inn g W.heap.size ha (ws.getD j Wd.zero).hs.length ((ws.getD j Wd.zero).hs.length*2) W
theorem WW.below {g k:Nat} {ws:List Wd} {W W':World} (h:WW g k ws W) (hg:g<W.heap.size) (hb:Below W.heap.size W W'):WW g k ws W':=by
 intro j hj
 obtain ⟨ta,tc,ha,hc,c0,c1,c2,c3,c4,c5,c6,c7,hT,hH,n1,n2⟩:=h j hj
 have f:=fun x=>hb.cell (p:=⟨g,x,none⟩) hg
 exact ⟨ta,tc,ha,hc,(f _).trans c0,(f _).trans c1,(f _).trans c2,(f _).trans c3,(f _).trans c4,(f _).trans c5,(f _).trans c6,(f _).trans c7,hT.below hb,hH.below hb,n1.below hb hb.size,n2.below hb hb.size⟩
theorem WW.put {g k o:Nat} {ws:List Wd} {W:World} (h:WW g k ws W) (ho:k*8≤o) (v:Value):WW g k ws (W.setCell ⟨g,o,none⟩ v):=by
 intro j hj
 obtain ⟨ta,tc,ha,hc,c0,c1,c2,c3,c4,c5,c6,c7,hT,hH,n1,n2⟩:=h j hj
 exact ⟨ta,tc,ha,hc,(cell_far _ _ (by omega) v).trans c0,(cell_far _ _ (by omega) v).trans c1,(cell_far _ _ (by omega) v).trans c2,(cell_far _ _ (by omega) v).trans c3,(cell_far _ _ (by omega) v).trans c4,(cell_far _ _ (by omega) v).trans c5,(cell_far _ _ (by omega) v).trans c6,(cell_far _ _ (by omega) v).trans c7,DocR.Rws.put hT g o v n1.ne,DocR.Rws.put hH g o v n2.ne,n1.put.top (by simp),n2.put.top (by simp)⟩
theorem WW.more {g k n:Nat} {ws:List Wd} {W:World} (h:WW g k ws W) (hp:Pt g n W) (hk:k*8+7<n) (ta ha:Option Addr) (tc hc:Nat) (hT:Tgs ta (ws.getD k Wd.zero).ts W) (hH:Hrs ha (ws.getD k Wd.zero).hs W) (n1:Inn g W.heap.size ta (ws.getD k Wd.zero).ts.length ((ws.getD k Wd.zero).ts.length*1) W) (n2:Inn g W.heap.size ha (ws.getD k Wd.zero).hs.length ((ws.getD k Wd.zero).hs.length*2) W) :
 WW g (k+1) ws ((((((((W.setCell ⟨g,k*8,none⟩ (.string (ws.getD k Wd.zero).a)).setCell ⟨g,k*8+1,none⟩ (.string (ws.getD k Wd.zero).m)).setCell ⟨g,k*8+2,none⟩ (.int .i64 (ws.getD k Wd.zero).mo)).setCell ⟨g,k*8+3,none⟩ (.int .i64 (ws.getD k Wd.zero).ev)).setCell ⟨g,k*8+4,none⟩ (.int .i64 (ws.getD k Wd.zero).su)).setCell ⟨g,k*8+5,none⟩ (.int .i64 (ws.getD k Wd.zero).mx)).setCell ⟨g,k*8+6,none⟩ (.slice ta (ws.getD k Wd.zero).ts.length tc)).setCell ⟨g,k*8+7,none⟩ (.slice ha (ws.getD k Wd.zero).hs.length hc)):=by
 intro j hj
 by_cases e:j=k
 ·subst e
  have p0:=hp
  have p1:=p0.set (j*8) (.string (ws.getD j Wd.zero).a)
  have p2:=p1.set (j*8+1) (.string (ws.getD j Wd.zero).m)
  have p3:=p2.set (j*8+2) (.int .i64 (ws.getD j Wd.zero).mo)
  have p4:=p3.set (j*8+3) (.int .i64 (ws.getD j Wd.zero).ev)
  have p5:=p4.set (j*8+4) (.int .i64 (ws.getD j Wd.zero).su)
  have p6:=p5.set (j*8+5) (.int .i64 (ws.getD j Wd.zero).mx)
  have p7:=p6.set (j*8+6) (.slice ta (ws.getD j Wd.zero).ts.length tc)
  refine ⟨ta,tc,ha,hc,?_,?_,?_,?_,?_,?_,?_,cell_put p7 _ hk _,DocR.Rws.put (DocR.Rws.put (DocR.Rws.put (DocR.Rws.put (DocR.Rws.put (DocR.Rws.put (DocR.Rws.put (DocR.Rws.put (hT) g _ _ n1.ne) g _ _ n1.ne) g _ _ n1.ne) g _ _ n1.ne) g _ _ n1.ne) g _ _ n1.ne) g _ _ n1.ne) g _ _ n1.ne,DocR.Rws.put (DocR.Rws.put (DocR.Rws.put (DocR.Rws.put (DocR.Rws.put (DocR.Rws.put (DocR.Rws.put (DocR.Rws.put (hH) g _ _ n2.ne) g _ _ n2.ne) g _ _ n2.ne) g _ _ n2.ne) g _ _ n2.ne) g _ _ n2.ne) g _ _ n2.ne) g _ _ n2.ne,?_,?_⟩
  ·rw [cell_far _ _ (by omega),cell_far _ _ (by omega),cell_far _ _ (by omega),cell_far _ _ (by omega),cell_far _ _ (by omega),cell_far _ _ (by omega),cell_far _ _ (by omega),cell_put p0 _ (by omega)]
  ·rw [cell_far _ _ (by omega),cell_far _ _ (by omega),cell_far _ _ (by omega),cell_far _ _ (by omega),cell_far _ _ (by omega),cell_far _ _ (by omega),cell_put p1 _ (by omega)]
  ·rw [cell_far _ _ (by omega),cell_far _ _ (by omega),cell_far _ _ (by omega),cell_far _ _ (by omega),cell_far _ _ (by omega),cell_put p2 _ (by omega)]
  ·rw [cell_far _ _ (by omega),cell_far _ _ (by omega),cell_far _ _ (by omega),cell_far _ _ (by omega),cell_put p3 _ (by omega)]
  ·rw [cell_far _ _ (by omega),cell_far _ _ (by omega),cell_far _ _ (by omega),cell_put p4 _ (by omega)]
  ·rw [cell_far _ _ (by omega),cell_far _ _ (by omega),cell_put p5 _ (by omega)]
  ·rw [cell_far _ _ (by omega),cell_put p6 _ (by omega)]
  ·exact Inn.top (n1.put.put.put.put.put.put.put.put) (by simp)
  ·exact Inn.top (n2.put.put.put.put.put.put.put.put) (by simp)
 ·exact (((((((((h.put (by omega) _).put (by omega) _).put (by omega) _).put (by omega) _).put (by omega) _).put (by omega) _).put (by omega) _).put (by omega) _)) j (by omega)
def WX (g t k:Nat) (ws:List Wd) (W:World):Prop:=∀j,j<k→∃ta tc ha hc,W.cell? ⟨g,j*8+6,none⟩=some (.slice ta (ws.getD j Wd.zero).ts.length tc)∧W.cell? ⟨g,j*8+7,none⟩=some (.slice ha (ws.getD j Wd.zero).hs.length hc)∧Inn g t ta (ws.getD j Wd.zero).ts.length ((ws.getD j Wd.zero).ts.length*1) W∧Inn g t ha (ws.getD j Wd.zero).hs.length ((ws.getD j Wd.zero).hs.length*2) W
theorem WW.wx {g k:Nat} {ws:List Wd} {W:World} (h:WW g k ws W):WX g W.heap.size k ws W:=fun j hj=>by
 obtain ⟨ta,tc,ha,hc,_,_,_,_,_,_,c6,c7,_,_,n1,n2⟩:=h j hj
 exact ⟨ta,tc,ha,hc,c6,c7,n1,n2⟩
end WinR
end Go.Proofs.YtcilbmhkhllmjaaGreatDoor
namespace Go.Proofs.YtcilbmhkhllmjaaGreatDoor
open Go.RowKit
set_option linter.unusedVariables false
namespace BilR
open LtR
section
variable {α β:Type} {f:α→ByteArray}
def insB (f:α→ByteArray) (x:α):List α→List α
 | []=>[x]
 | y::l=>if lt (f y) (f x)=true then y::insB f x l else x::y::l
def srt (f:α→ByteArray) (l:List α):List α:=l.foldl (fun acc x=>insB f x acc) []
def Ris (f:α→ByteArray) (l:List α):Prop:=l.Pairwise (fun a b=>lt (f a) (f b)=true)
theorem insB_perm (x:α):∀l:List α,(insB f x l).Perm (x::l)
 | []=>List.Perm.refl _
 | y::l=>by
  unfold insB
  split
  ·exact ((insB_perm x l).cons y).trans (List.Perm.swap x y l)
  ·exact List.Perm.refl _
theorem insB_mem {x z:α} {l:List α} (h:z∈insB f x l):z=x∨z∈l:=by
 have:=(insB_perm x l).mem_iff.1 h
 simpa using this
theorem insB_ris {x:α}:∀{l:List α},Ris f l→(∀y∈l,f y≠f x)→Ris f (insB f x l)
 | [],_,_=>List.pairwise_singleton _ _
 | y::l,h,hn=>by
  obtain ⟨h1,h2⟩:=List.pairwise_cons.1 h
  unfold insB
  split
  ·rename_i q
   refine List.pairwise_cons.2 ⟨fun z hz=>?_,insB_ris h2 (fun z hz=>hn z (List.mem_cons_of_mem _ hz))⟩
   rcases insB_mem hz with rfl|hz
   ·exact q
   ·exact h1 z hz
  ·rename_i q
   have q1:lt (f x) (f y)=true:=by
    cases q2:lt (f x) (f y)
    ·exact absurd (lt_total (by simpa using q) q2) (hn y (List.mem_cons_self ..))
    ·rfl
   refine List.pairwise_cons.2 ⟨fun z hz=>?_,h⟩
   rcases List.mem_cons.1 hz with rfl|hz
   ·exact q1
   ·exact lt_trans q1 (h1 z hz)
theorem insB_map (g:β→α) (x:β):∀l:List β,(insB (fun b=>f (g b)) x l).map g=insB f (g x) (l.map g)
 | []=>rfl
 | y::l=>by
  simp only [insB,List.map_cons]
  split
  ·rw [List.map_cons,insB_map g x l]
  ·rfl
theorem srt_snoc (l:List α) (x:α):srt f (l ++ [x])=insB f x (srt f l):=by simp [srt,List.foldl_append]
theorem rev_ind {α:Type} {P:List α→Prop} (h0:P []) (h1:∀l x,P l→P (l ++ [x])) (l:List α):P l:=by
 have:∀l:List α,P l.reverse:=fun l=>by
  induction l with
  | nil=>exact h0
  | cons x l ih=>rw [List.reverse_cons];exact h1 _ _ ih
 have q:=this l.reverse
 rwa [List.reverse_reverse] at q
theorem srt_perm (l:List α):(srt f l).Perm l:=by
 refine rev_ind (P:=fun l=>(srt f l).Perm l) (List.Perm.refl _) (fun l x ih=>?_) l
 rw [srt_snoc]
 exact ((insB_perm x _).trans (ih.cons x)).trans (List.perm_append_singleton x l).symm
theorem srt_map (g:β→α) (l:List β):(srt (fun b=>f (g b)) l).map g=srt f (l.map g):=by
 refine rev_ind (P:=fun l=>(srt (fun b=>f (g b)) l).map g=srt f (l.map g)) rfl (fun l x ih=>?_) l
 rw [srt_snoc,insB_map,ih,List.map_append,List.map_singleton,srt_snoc]
theorem srt_ris (l:List α) (h:(l.map f).Nodup):Ris f (srt f l):=by
 revert h
 refine rev_ind (P:=fun l=>(l.map f).Nodup→Ris f (srt f l)) (fun _=>List.Pairwise.nil) (fun l x ih h=>?_) l
 rw [List.map_append,List.map_singleton] at h
 obtain ⟨h1,_,h3⟩:=List.nodup_append.1 h
 rw [srt_snoc]
 refine insB_ris (ih h1) (fun y hy e=>?_)
 exact h3 (f y) (List.mem_map_of_mem ((srt_perm l).mem_iff.1 hy)) (f x) (List.mem_singleton.2 rfl) e
theorem ris_nodup {l:List α} (h:Ris f l):(l.map f).Nodup:=by
 unfold List.Nodup
 rw [List.pairwise_map]
 exact h.imp (fun {a b} q e=>by rw [e,lt_irrefl] at q;cases q)
theorem ris_eq:∀{a b:List α},Ris f a→Ris f b→a.Perm b→a=b
 | [],b,_,_,h=>(List.Perm.nil_eq h)
 | x::a,[],_,_,h=>by have:=h.length_eq;simp at this
 | x::a,y::b,ha,hb,h=>by
  obtain ⟨a1,a2⟩:=List.pairwise_cons.1 ha
  obtain ⟨b1,b2⟩:=List.pairwise_cons.1 hb
  have hx:x∈y::b:=h.mem_iff.1 (List.mem_cons_self ..)
  have hy:y∈x::a:=h.mem_iff.2 (List.mem_cons_self ..)
  have e:x=y:=by
   rcases List.mem_cons.1 hx with q|q
   ·exact q
   ·rcases List.mem_cons.1 hy with p|p
    ·exact p.symm
    ·have q1:=b1 x q
     rw [lt_asymm (a1 y p)] at q1
     cases q1
  subst e
  rw [ris_eq a2 b2 (List.Perm.cons_inv h)]
theorem srt_eq {l d:List α} (hd:Ris f d) (hp:d.Perm l):d=srt f l :=
 ris_eq hd (srt_ris l (by
  have:=(hp.map f).nodup_iff.1 (ris_nodup hd)
  exact this)) (hp.trans (srt_perm l).symm)
end
end BilR
end Go.Proofs.YtcilbmhkhllmjaaGreatDoor
namespace Go.Proofs.YtcilbmhkhllmjaaGreatDoor
open Go.ChangeShapes Go.WideShapes Go.ChangeAt Go.RowKit
set_option linter.unusedVariables false
namespace DrawR
open CatR (Ti Me Cr Ca Tis Mes Crs TiAt MeAt CrAt IsMe IsCa)
open EvtR (Pt cell_put cell_far)
def plainM:List Me:=[⟨⟨#[99,112,117]⟩,1,false,10,0,[⟨100,50⟩,⟨1000000000000,20⟩]⟩,⟨⟨#[100,105,115,107]⟩,2,true,0,500,[⟨50,9⟩,⟨200,7⟩,⟨1000000000000,5⟩]⟩,⟨⟨#[110,101,116]⟩,4,false,0,0,[⟨1000000000000,3⟩]⟩,⟨⟨#[117,115,101,114,115]⟩,3,false,0,0,[⟨1000000000000,1000⟩]⟩]
def plainC:Ca:=⟨plainM,[⟨⟨#[97,110,110]⟩,3000⟩]⟩
def plainW (w:World):World:=(((((((w.alloc (.cells #[.slice (some ⟨w.heap.size+1+1+1+1+1,0,none⟩) 4 4,.slice (some ⟨w.heap.size+1+1+1+1+1+1,0,none⟩) 1 1] 36)).alloc (.cells #[.int .i64 100,.int .i64 50,.int .i64 1000000000000,.int .i64 20] 162)).alloc (.cells #[.int .i64 50,.int .i64 9,.int .i64 200,.int .i64 7,.int .i64 1000000000000,.int .i64 5] 162)).alloc (.cells #[.int .i64 1000000000000,.int .i64 3] 162)).alloc (.cells #[.int .i64 1000000000000,.int .i64 1000] 162)).alloc (.cells #[.string ⟨#[99,112,117]⟩,.int .i64 1,.bool false,.int .i64 10,.int .i64 0,.slice (some ⟨w.heap.size+1,0,none⟩) 2 2,.string ⟨#[100,105,115,107]⟩,.int .i64 2,.bool true,.int .i64 0,.int .i64 500,.slice (some ⟨w.heap.size+1+1,0,none⟩) 3 3,.string ⟨#[110,101,116]⟩,.int .i64 4,.bool false,.int .i64 0,.int .i64 0,.slice (some ⟨w.heap.size+1+1+1,0,none⟩) 1 1,.string ⟨#[117,115,101,114,115]⟩,.int .i64 3,.bool false,.int .i64 0,.int .i64 0,.slice (some ⟨w.heap.size+1+1+1+1,0,none⟩) 1 1] 117)).alloc (.cells #[.string ⟨#[97,110,110]⟩,.int .i64 3000] 118))
theorem plain_below (w:World):Below w.heap.size w (plainW w):=by
 unfold plainW
 have h0:=Below.refl w.heap.size w
 repeat' first|exact h0|(refine Below.alloc ?_ (by simp;try omega) _)
theorem plain_t0 (w:World):w.heap.size+1<(plainW w).heap.size∧∀i,i<4→(plainW w).cell? ⟨w.heap.size+1,i,none⟩=([.int .i64 100,.int .i64 50,.int .i64 1000000000000,.int .i64 20]:List Value)[i]?:=by
 refine ⟨by simp [plainW],fun i hi=>?_⟩
 simp [plainW,go_sem]
theorem plain_t1 (w:World):w.heap.size+1+1<(plainW w).heap.size∧∀i,i<6→(plainW w).cell? ⟨w.heap.size+1+1,i,none⟩=([.int .i64 50,.int .i64 9,.int .i64 200,.int .i64 7,.int .i64 1000000000000,.int .i64 5]:List Value)[i]?:=by
 refine ⟨by simp [plainW],fun i hi=>?_⟩
 simp [plainW,go_sem]
theorem plain_t2 (w:World):w.heap.size+1+1+1<(plainW w).heap.size∧∀i,i<2→(plainW w).cell? ⟨w.heap.size+1+1+1,i,none⟩=([.int .i64 1000000000000,.int .i64 3]:List Value)[i]?:=by
 refine ⟨by simp [plainW],fun i hi=>?_⟩
 simp [plainW,go_sem]
theorem plain_t3 (w:World):w.heap.size+1+1+1+1<(plainW w).heap.size∧∀i,i<2→(plainW w).cell? ⟨w.heap.size+1+1+1+1,i,none⟩=([.int .i64 1000000000000,.int .i64 1000]:List Value)[i]?:=by
 refine ⟨by simp [plainW],fun i hi=>?_⟩
 simp [plainW,go_sem]
theorem plain_m (w:World):w.heap.size+1+1+1+1+1<(plainW w).heap.size∧∀i,i<24→(plainW w).cell? ⟨w.heap.size+1+1+1+1+1,i,none⟩=([.string ⟨#[99,112,117]⟩,.int .i64 1,.bool false,.int .i64 10,.int .i64 0,.slice (some ⟨w.heap.size+1,0,none⟩) 2 2,.string ⟨#[100,105,115,107]⟩,.int .i64 2,.bool true,.int .i64 0,.int .i64 500,.slice (some ⟨w.heap.size+1+1,0,none⟩) 3 3,.string ⟨#[110,101,116]⟩,.int .i64 4,.bool false,.int .i64 0,.int .i64 0,.slice (some ⟨w.heap.size+1+1+1,0,none⟩) 1 1,.string ⟨#[117,115,101,114,115]⟩,.int .i64 3,.bool false,.int .i64 0,.int .i64 0,.slice (some ⟨w.heap.size+1+1+1+1,0,none⟩) 1 1]:List Value)[i]?:=by
 refine ⟨by simp [plainW],fun i hi=>?_⟩
 simp [plainW,go_sem]
theorem plain_c (w:World):w.heap.size+1+1+1+1+1+1<(plainW w).heap.size∧∀i,i<2→(plainW w).cell? ⟨w.heap.size+1+1+1+1+1+1,i,none⟩=([.string ⟨#[97,110,110]⟩,.int .i64 3000]:List Value)[i]?:=by
 refine ⟨by simp [plainW],fun i hi=>?_⟩
 simp [plainW,go_sem]
theorem plain_crs (w:World):Crs (some ⟨w.heap.size+1+1+1+1+1+1,0,none⟩) 1 plainC.cs (plainW w):=by
 refine ⟨rfl,.inr ⟨_,0,rfl,(plain_c w).1,fun j hj=>?_⟩⟩
 have c:=(plain_c w).2
 match j,hj with
 | 0,_=>exact ⟨c 0 (by omega),c 1 (by omega)⟩
set_option maxRecDepth 100000 in
set_option maxHeartbeats 4000000 in
theorem plain_any (w:World):Calls Tryz.prog 106 #[] w fun e w'=>e=.returned (.agg #[.slice (some ⟨w.heap.size+1+1+1+1+1,0,none⟩) 4 4,.slice (some ⟨w.heap.size+1+1+1+1+1+1,0,none⟩) 1 1])∧w'=plainW w:=by
 have hW:plainW w=(((((((w.alloc (.cells #[.slice (some ⟨w.heap.size+1+1+1+1+1,0,none⟩) 4 4,.slice (some ⟨w.heap.size+1+1+1+1+1+1,0,none⟩) 1 1] 36)).alloc (.cells #[.int .i64 100,.int .i64 50,.int .i64 1000000000000,.int .i64 20] 162)).alloc (.cells #[.int .i64 50,.int .i64 9,.int .i64 200,.int .i64 7,.int .i64 1000000000000,.int .i64 5] 162)).alloc (.cells #[.int .i64 1000000000000,.int .i64 3] 162)).alloc (.cells #[.int .i64 1000000000000,.int .i64 1000] 162)).alloc (.cells #[.string ⟨#[99,112,117]⟩,.int .i64 1,.bool false,.int .i64 10,.int .i64 0,.slice (some ⟨w.heap.size+1,0,none⟩) 2 2,.string ⟨#[100,105,115,107]⟩,.int .i64 2,.bool true,.int .i64 0,.int .i64 500,.slice (some ⟨w.heap.size+1+1,0,none⟩) 3 3,.string ⟨#[110,101,116]⟩,.int .i64 4,.bool false,.int .i64 0,.int .i64 0,.slice (some ⟨w.heap.size+1+1+1,0,none⟩) 1 1,.string ⟨#[117,115,101,114,115]⟩,.int .i64 3,.bool false,.int .i64 0,.int .i64 0,.slice (some ⟨w.heap.size+1+1+1+1,0,none⟩) 1 1] 117)).alloc (.cells #[.string ⟨#[97,110,110]⟩,.int .i64 3000] 118)):=rfl
 obtain ⟨W,hE⟩:∃W,W=plainW w:=⟨_,rfl⟩
 rw [←hE] at hW ⊢
 have HW:Hid (W=(((((((w.alloc (.cells #[.slice (some ⟨w.heap.size+1+1+1+1+1,0,none⟩) 4 4,.slice (some ⟨w.heap.size+1+1+1+1+1+1,0,none⟩) 1 1] 36)).alloc (.cells #[.int .i64 100,.int .i64 50,.int .i64 1000000000000,.int .i64 20] 162)).alloc (.cells #[.int .i64 50,.int .i64 9,.int .i64 200,.int .i64 7,.int .i64 1000000000000,.int .i64 5] 162)).alloc (.cells #[.int .i64 1000000000000,.int .i64 3] 162)).alloc (.cells #[.int .i64 1000000000000,.int .i64 1000] 162)).alloc (.cells #[.string ⟨#[99,112,117]⟩,.int .i64 1,.bool false,.int .i64 10,.int .i64 0,.slice (some ⟨w.heap.size+1,0,none⟩) 2 2,.string ⟨#[100,105,115,107]⟩,.int .i64 2,.bool true,.int .i64 0,.int .i64 500,.slice (some ⟨w.heap.size+1+1,0,none⟩) 3 3,.string ⟨#[110,101,116]⟩,.int .i64 4,.bool false,.int .i64 0,.int .i64 0,.slice (some ⟨w.heap.size+1+1+1,0,none⟩) 1 1,.string ⟨#[117,115,101,114,115]⟩,.int .i64 3,.bool false,.int .i64 0,.int .i64 0,.slice (some ⟨w.heap.size+1+1+1+1,0,none⟩) 1 1] 117)).alloc (.cells #[.string ⟨#[97,110,110]⟩,.int .i64 3000] 118))):=hW
 clear hW hE
 go_enter Tryz.func106,Tryz.ntmps106
 go_wp2_with fail
 rw [←HW.out]
 have c0:W.cell? ⟨w.heap.size,0,none⟩=some (.slice (some ⟨w.heap.size+1+1+1+1+1,0,none⟩) 4 4):=by rw [HW.out];simp [go_sem]
 have c1:W.cell? ⟨w.heap.size,1,none⟩=some (.slice (some ⟨w.heap.size+1+1+1+1+1+1,0,none⟩) 1 1):=by rw [HW.out];simp [go_sem]
 refine bodyPost_ret (v:=.agg #[.slice (some ⟨w.heap.size+1+1+1+1+1,0,none⟩) 4 4,.slice (some ⟨w.heap.size+1+1+1+1+1+1,0,none⟩) 1 1]) (by simp [results,Tryz.results106,go_sem,c0,c1]) rfl ⟨rfl,rfl⟩
end DrawR
end Go.Proofs.YtcilbmhkhllmjaaGreatDoor
