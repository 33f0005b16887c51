/-
  A list of lines that came in, read as a row. No condition.
-/
import Derived.Deep.Fields
import Derived.OpenVars
import Derived.Carry
import Derived.ChangeMaps5
import Derived.Lib.SmallJoins
import Derived.DataReads
import Derived.Test.YtnceeaccbcfopaaGreatDoorT47
namespace Go.Proofs.YtnceeaccbcfopaaGreatDoor
open Go.ChangeShapes Go.WideShapes Go.ChangeAt Go.RowKit Go.Deep
set_option linter.unusedVariables false
namespace LinR
def IsLis (w:World) (a:Option Addr) (es:List N):Prop:=es.length≤maxLen∧Lis a es w∧∀e∈es,e.i.size≤maxLen
section
variable {H:Type} {enc:TypeId × Value→H} {P:Program} {w:World} {base:Nat} {spare:Nat→Bool} {held:Bool}
theorem list2 {α:Type} {cs:List α} (h:cs.length=2):∃c0 c1,cs=[c0,c1]:=by
 match cs,h with
 | [c0,c1],_=>exact ⟨c0,c1,rfl⟩
theorem line_cells {t:TypeId} {f0 f1:Field} {fuel:Nat} {cs:List Value} {x:DataW H × List MemPlace} (hs:P.underlying t=some (.struct #[f0,f1])) (hone:oneCellFields P #[f0,f1]=true) (hC:P.cellsOf t=2)
 (u0:P.underlying f0.type=some .string) (u1:P.underlying f1.type=some (.int .i64))
 (h:DataW.trod enc P w base spare held fuel t cs=some x) :
 ∃(i:ByteArray) (n:Int),cs=[.string i,.int .i64 n]∧i.size≤maxLen:=by
 obtain ⟨xs,n,_,_,hl,hlen,hf⟩:=DataW.trod_struct hs h
 obtain ⟨c0,c1,rfl⟩:=list2 (hl.trans hC)
 obtain ⟨y0,y1,rfl⟩:=list2 (show xs.length=2 from hlen)
 obtain ⟨o0,k0⟩:=hone_of hone 0 f0 rfl
 obtain ⟨o1,k1⟩:=hone_of hone 1 f1 rfl
 have h0:=hf 0 f0 rfl
 have h1:=hf 1 f1 rfl
 simp [o0,k0] at h0
 simp [o1,k1] at h1
 obtain ⟨i,e0,_,s0⟩:=DataW.trod_string u0 h0
 obtain ⟨p,e1,_,s1⟩:=DataW.trod_int u1 h1
 simp only [List.cons.injEq,and_true] at e0 e1
 subst e0 e1
 exact ⟨i,p,rfl,s0⟩
theorem cells_at {a:Addr} {cs:List Value} {n:Nat} (h:w.cells? base a n=some cs) (j:Nat) (hj:j<n):w.cell? (a.add j)=cs[j]?:=by
 obtain ⟨_,h1,h2⟩:=World.cells?_some h
 exact h2 j hj
theorem lis_open {t e:TypeId} {f0 f1:Field} {fuel:Nat} {ao:Option Addr} {len cap:Nat} {x:DataW H × List MemPlace} (ht:P.underlying t=some (.slice e)) (hs:P.underlying e=some (.struct #[f0,f1])) (hone:oneCellFields P #[f0,f1]=true) (hC:P.cellsOf e=2)
 (u0:P.underlying f0.type=some .string) (u1:P.underlying f1.type=some (.int .i64))
 (h:DataW.trod enc P w base spare held fuel t [.slice ao len cap]=some x):∃es,es.length=len∧IsLis w ao es:=by
 rcases DataW.trod_slice ht h with ⟨hcs,_⟩|⟨a,len',cap',elems,rest,n,_,hcs,_,hb,hl,hm,hlen,hel,_,_⟩
 ·simp only [List.cons.injEq,Value.slice.injEq,and_true] at hcs
  obtain ⟨rfl,rfl,rfl⟩:=hcs
  exact ⟨[],rfl,Nat.zero_le _,.inl rfl,fun e he=>by cases he⟩
 ·simp only [List.cons.injEq,Value.slice.injEq,and_true] at hcs
  obtain ⟨rfl,rfl,rfl⟩:=hcs
  have key:∀i,i<len→∃E1:N,E1.i.size≤maxLen∧w.cells? base (a.add (i*2)) 2=some E1.cells:=by
   intro i hi
   have h1:=hel i hi
   rw [hC,List.getElem?_eq_getElem (by omega)] at h1
   cases hc:w.cells? base (a.add (i*2)) 2 with
   | none=>rw [hc] at h1;simp at h1
   | some cs =>
    rw [hc] at h1
    simp only [Option.bind_some] at h1
    obtain ⟨i',n',rfl,q0⟩:=line_cells hs hone hC u0 u1 h1
    exact ⟨⟨i',n'⟩,q0,rfl⟩
  have:∃f:Nat→N,∀i,i<len→(f i).i.size≤maxLen∧w.cells? base (a.add (i*2)) 2=some (f i).cells:=by
   refine ⟨fun i=>if hi:i<len then Classical.choose (key i hi) else N.zero,fun i hi=>?_⟩
   simp only [hi,dif_pos]
   exact Classical.choose_spec (key i hi)
  obtain ⟨f,hf⟩:=this
  refine ⟨(List.range len).map f,by simp,by simp;omega,?_,fun e he=>?_⟩
  ·by_cases h0:len=0
   ·exact .inl (by simpa using h0)
   ·obtain ⟨b,off,spot⟩:=a
    have hc0:=cells_at (hf 0 (by omega)).2 0 (by omega)
    have hspot:spot=none:=by
     have:w.cell? ⟨b,off,spot⟩=some (.string (f 0).i):=by simpa [Addr.add,N.cells] using hc0
     exact World.cell?_spot this
    subst hspot
    refine .inr ⟨b,off,rfl,?_,fun j hj=>?_⟩
    ·have:w.cell? ⟨b,off,none⟩=some (.string (f 0).i):=by simpa [Addr.add,N.cells] using hc0
     exact World.block_lt_of_cell? w _ this
    ·have hj:j<len:=by simpa using hj
     have e:((List.range len).map f).getD j N.zero=f j:=by simp [List.getD,hj]
     rw [e]
     have g:=fun k (hk:k<2)=>cells_at (hf j hj).2 k hk
     have ad:∀k,((⟨b,off,none⟩:Addr).add (j*2)).add k=⟨b,off+j*2+k,none⟩:=by
      intro k
      unfold Addr.add
      split<;>split<;>simp_all
     simp only [ad] at g
     exact fun i hi=>g i hi
  ·simp only [List.mem_map,List.mem_range] at he
   obtain ⟨i,hi,rfl⟩:=he
   exact (hf i hi).1
end
end LinR
end Go.Proofs.YtnceeaccbcfopaaGreatDoor
