/-
  Memory of one's own that is kept while other memory grows or is written. No condition.
-/
import Derived.Test.YtnceeaccbcfopaaGreatDoorT8
namespace Go.Proofs.YtnceeaccbcfopaaGreatDoor
open Go.ChangeShapes Go.WideShapes Go.ChangeAt Go.RowKit
set_option linter.unusedVariables false
namespace OwG
open RowG (MadeG Rws cellsAll)
open EvtR (Pt)
open CatR (Blk Blk.new)
open DocR (BlkW)
theorem gtransO {w w1 w2:World} {g:Option Nat} (h1:w.grownBy w1 g) (h2:w1.grownBy w2 g):w.grownBy w2 g :=
 ⟨h2.os.trans h1.os,h2.tape.trans h1.tape,h2.output.trans h1.output,Nat.le_trans h1.size h2.size,fun k hk hne=>(h2.block k (by have:=h1.size;omega) hne).trans (h1.block k hk hne)⟩
theorem rgrownO {w w':World} (hb:Below w.heap.size w w') (row:Option Nat):w.grownBy w' row:=⟨hb.os,hb.tape,hb.output,hb.size,fun k hk _=>hb.block k hk⟩
theorem blkW_grown {b:Nat} {cs:List Value} {w w':World} {row:Option Nat} (h:BlkW b cs w) (hg:w.grownBy w' row) (hne:some b≠row):BlkW b cs w':=by
 have e:=hg.block b h.1.1 hne
 exact ⟨⟨Nat.lt_of_lt_of_le h.1.1 hg.size,fun i hi=>(World.cell?_of_block (a:=⟨b,i,none⟩) e).trans (h.1.2 i hi)⟩,fun i hi=>(World.frozen?_of_block (a:=⟨b,i,none⟩) e).trans (h.2 i hi)⟩
theorem pt_row {p n:Nat} {W W':World} {row:Option Nat} (h:Pt p n W) (hg:W.grownBy W' row) (hne:some p≠row):Pt p n W':=by
 have e:=hg.block p h.lt hne
 exact ⟨by have:=hg.size;have:=h.lt;omega,fun o ho=>by obtain ⟨v,hv⟩:=h.has o ho;exact ⟨v,(World.cell?_of_block (a:=⟨p,o,none⟩) e).trans hv⟩,fun o ho=>(World.frozen?_of_block (a:=⟨p,o,none⟩) e).trans (h.free o ho)⟩
theorem own_keepG {w w':World} {base e size n:Nat} {v:Value} {xs:List Value} {g:Nat} (h:w.ownsRow base e size v n xs) (hg:w.grownBy w' (some g)) (hlt:g<base):w'.ownsRow base e size v n xs:=by
 refine h.kept hg ?_
 rcases hob:v.ownBlock with _|b
 ·exact .inl rfl
 ·refine .inr (fun e=>?_)
  have:=(h.lt b hob).1
  simp only [Option.some.injEq] at e
  omega
theorem own_apart {w:World} {base e size n base' e' size' n':Nat} {v v':Value} {xs xs':List Value} (h:w.ownsRow base e size v n xs) (h':w.ownsRow base' e' size' v' n' xs') (hT:e'≠e):∀b,v.ownBlock=some b→some b≠v'.ownBlock:=by
 intro b hb q
 rcases h.2 with ⟨h0,_⟩|⟨g,cap,cur,hv,_,hh,_⟩
 ·rw [h0] at hb;simp [Value.ownBlock] at hb
 ·rw [hv] at hb
  simp only [Value.ownBlock,Option.some.injEq] at hb
  rcases h'.2 with ⟨h0,_⟩|⟨g2,cap2,cur2,hv2,_,hh2,_⟩
  ·rw [h0] at q;simp [Value.ownBlock] at q
  ·rw [hv2] at q
   simp only [Value.ownBlock,Option.some.injEq] at q
   subst hb
   subst q
   rw [hh2] at hh
   simp at hh
   exact hT hh.2
theorem own_keepO {w w':World} {base e size n:Nat} {v:Value} {xs:List Value} {row:Option Nat} (h:w.ownsRow base e size v n xs) (hg:w.grownBy w' row) (hne:∀b,v.ownBlock=some b→some b≠row):w'.ownsRow base e size v n xs:=by
 refine h.kept hg ?_
 rcases hob:v.ownBlock with _|b
 ·exact .inl rfl
 ·exact .inr (hne b hob)
theorem own_low {w:World} {base base' e size n:Nat} {v:Value} {xs:List Value} (h:w.ownsRow base e size v n xs) (hb:base'≤base):w.ownsRow base' e size v n xs:=by
 refine ⟨h.1,?_⟩
 rcases h.2 with hn|⟨g,cap,cur,rfl,h1,rest⟩
 ·exact .inl hn
 ·exact .inr ⟨g,cap,cur,rfl,by omega,rest⟩
theorem own_form {w:World} {base e size n:Nat} {v:Value} {xs:List Value} (h:w.ownsRow base e size v (n+1) xs):∃b c,v=.slice (some ⟨b,0,none⟩) (n+1) c:=by
 rcases h.2 with ⟨_,h0⟩|⟨g,cap,cur,hv,_⟩
 ·omega
 ·exact ⟨_,_,hv⟩
theorem cellsAll_snoc {α:Type} (cells:α→List Value) (l:List α) (x:α):cellsAll cells (l ++ [x])=cellsAll cells l++cells x:=by simp [cellsAll]
theorem new_cells (w:World) (cs:List Value) (T:TypeId):∀j u,cs[j]? = some u→(w.alloc (.cells cs.toArray T)).cell? ((⟨w.heap.size,0,none⟩:Addr).add j)=some u:=by
 intro j u hj
 have hl:=(List.getElem?_eq_some_iff.1 hj).1
 have:=(Blk.new w cs T).2 j hl
 rw [hj] at this
 rw [←this]
 congr 1
 unfold Addr.add;split<;>simp_all
end OwG
end Go.Proofs.YtnceeaccbcfopaaGreatDoor
