/-
  Lists of documents: read, sized, copied and held against each other by the law. The condition: at most 1048576 documents.
-/
import Derived.Test.YtnceeaccbcfopaaGreatDoorT120
namespace Go.Proofs.YtnceeaccbcfopaaGreatDoor
open Go.ChangeShapes Go.WideShapes Go.ChangeAt Go.RowKit Go.Deep
set_option linter.unusedVariables false
namespace LedR
open LinR RowG LtR NetR DocR
open EvtR (Pt cell_put cell_far)
def IsDcs (w:World) (ao:Option Addr) (ds:List D):Prop:=ds.length≤maxLen∧Dcs ao ds w∧∀d∈ds,d.In∧(Lit.int .i64 d.mo).wf=true
section
variable {J:Type} {enc:TypeId × Value→J} {P:Program} {w:World} {base:Nat} {spare:Nat→Bool} {held:Bool}
theorem doc_wf {t:TypeId} {f0 f1 f2 f3:Field} {fuel:Nat} {cs:List Value} {x:DataW J × List MemPlace} (hs:P.underlying t=some (.struct #[f0,f1,f2,f3])) (hone:oneCellFields P #[f0,f1,f2,f3]=true) (hC:P.cellsOf t=4) (u1:P.underlying f1.type=some (.int .i64))
 (h:DataW.trod enc P w base spare held fuel t cs=some x) (y:D) (la:Option Addr) (lc:Nat) (e:cs=(dcells y la lc).toList):(Lit.int .i64 y.mo).wf=true:=by
 obtain ⟨xs,n,_,_,hl,hlen,hf⟩:=DataW.trod_struct hs h
 obtain ⟨c0,c1,c2,c3,rfl⟩:=lst4 (hl.trans hC)
 obtain ⟨y0,y1,y2,y3,rfl⟩:=lst4 (show xs.length=4 from hlen)
 obtain ⟨o1,k1⟩:=hone_of hone 1 f1 rfl
 have h1:=hf 1 f1 rfl
 simp [o1,k1] at h1
 obtain ⟨p,e1,_,hw⟩:=DataW.trod_int u1 h1
 simp only [List.cons.injEq,and_true] at e1
 simp [dcells] at e
 rw [e1] at e
 have:=e.2.1
 simp at this
 rw [←this]
 exact hw
theorem docs_open {t e te:TypeId} {f0 f1 f2 f3 g0 g1:Field} {fuel:Nat} {ao:Option Addr} {len cap:Nat} {x:DataW J × List MemPlace} (ht:P.underlying t=some (.slice e)) (hs:P.underlying e=some (.struct #[f0,f1,f2,f3])) (hone:oneCellFields P #[f0,f1,f2,f3]=true) (hC:P.cellsOf e=4)
 (u0:P.underlying f0.type=some .string) (u1:P.underlying f1.type=some (.int .i64)) (u2:P.underlying f2.type=some (.int .i64)) (u3:P.underlying f3.type=some (.slice te))
 (hs2:P.underlying te=some (.struct #[g0,g1])) (hone2:oneCellFields P #[g0,g1]=true) (hC2:P.cellsOf te=2) (v0:P.underlying g0.type=some .string) (v1:P.underlying g1.type=some (.int .i64))
 (h:DataW.trod enc P w base spare held fuel t [.slice ao len cap]=some x):∃ds,ds.length=len∧IsDcs w ao ds:=by
 rcases DataW.trod_slice ht h with ⟨hcs,_⟩|⟨a,len',cap',elems,rest,n,_,hcs,_,hb,hl,hm,hlen,hel,_,_⟩
 ·simp only [List.cons.injEq,Value.slice.injEq,and_true] at hcs
  obtain ⟨rfl,rfl,rfl⟩:=hcs
  exact ⟨[],rfl,Nat.zero_le _,.inl rfl,fun e he=>by cases he⟩
 ·simp only [List.cons.injEq,Value.slice.injEq,and_true] at hcs
  obtain ⟨rfl,rfl,rfl⟩:=hcs
  have key:∀i,i<len→∃(X:D) (la:Option Addr) (lc:Nat),X.In∧(Lit.int .i64 X.mo).wf=true∧Lis la X.ls w∧w.cells? base (a.add (i*4)) 4=some (dcells X la lc).toList:=by
   intro i hi
   have h1:=hel i hi
   rw [hC,List.getElem?_eq_getElem (by omega)] at h1
   cases hc:w.cells? base (a.add (i*4)) 4 with
   | none=>rw [hc] at h1;simp at h1
   | some cs =>
    rw [hc] at h1
    simp only [Option.bind_some] at h1
    obtain ⟨X,la,lc,rfl,q1,q2⟩:=doc_open hs hone hC u0 u1 u2 u3 hs2 hone2 hC2 v0 v1 h1
    exact ⟨X,la,lc,q1,doc_wf hs hone hC u1 h1 X la lc rfl,q2,rfl⟩
  have:∃f:Nat→D,∀i,i<len→(f i).In∧(Lit.int .i64 (f i).mo).wf=true∧∃la lc,Lis la (f i).ls w∧w.cells? base (a.add (i*4)) 4=some (dcells (f i) la lc).toList:=by
   refine ⟨fun i=>if hi:i<len then Classical.choose (key i hi) else D.zero,fun i hi=>?_⟩
   simp only [hi,dif_pos]
   obtain ⟨la,lc,q1,q2,q3,q4⟩:=Classical.choose_spec (key i hi)
   exact ⟨q1,q2,la,lc,q3,q4⟩
  obtain ⟨f,hf⟩:=this
  refine ⟨(List.range len).map f,by simp,by simp;omega,?_,fun e he=>?_⟩
  ·by_cases h0:len=0
   ·exact .inl (by simpa using h0)
   ·obtain ⟨b,off,spot⟩:=a
    obtain ⟨_,_,la0,lc0,_,hc00⟩:=hf 0 (by omega)
    have hc0:=LinR.cells_at hc00 0 (by omega)
    have hspot:spot=none:=by
     have:w.cell? ⟨b,off,spot⟩=some (.string (f 0).a):=by simpa [Addr.add,dcells] using hc0
     exact World.cell?_spot this
    subst hspot
    refine .inr ⟨b,off,rfl,?_,fun j hj=>?_⟩
    ·have:w.cell? ⟨b,off,none⟩=some (.string (f 0).a):=by simpa [Addr.add,dcells] using hc0
     exact World.block_lt_of_cell? w _ this
    ·have hj:j<len:=by simpa using hj
     have e:((List.range len).map f).getD j D.zero=f j:=by simp [List.getD,hj]
     rw [e]
     obtain ⟨_,_,la,lc,hL,hcc⟩:=hf j hj
     have g:=fun k (hk:k<4)=>LinR.cells_at hcc k hk
     have ad:∀k,((⟨b,off,none⟩:Addr).add (j*4)).add k=⟨b,off+j*4+k,none⟩:=by
      intro k
      unfold Addr.add
      split<;>split<;>simp_all
     simp only [ad] at g
     exact ⟨la,lc,g 0 (by omega),g 1 (by omega),g 2 (by omega),g 3 (by omega),hL⟩
  ·simp only [List.mem_map,List.mem_range] at he
   obtain ⟨i,hi,rfl⟩:=he
   exact ⟨(hf i hi).1,(hf i hi).2.1⟩
end
end LedR
end Go.Proofs.YtnceeaccbcfopaaGreatDoor
