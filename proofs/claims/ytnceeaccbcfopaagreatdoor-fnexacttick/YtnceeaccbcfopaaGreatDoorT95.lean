/-
  append of a whole list, that may be none, to an empty list of one's own. The condition: sizes that fit.
-/
import Derived.Deep.AppendSrc
import Derived.Test.YtnceeaccbcfopaaGreatDoorT94
namespace Go.Proofs.YtnceeaccbcfopaaGreatDoor
open Go.ChangeShapes Go.WideShapes Go.ChangeAt Go.RowKit
set_option linter.unusedVariables false
namespace RowG
theorem grown_refl (w:World) (row:Option Nat):w.grownBy w row:=⟨rfl,rfl,rfl,Nat.le_refl _,fun _ _ _=>rfl⟩
theorem wpList_append_whole {P:Program} (w:World) {ops:Array Oper} {rest:List Oper} {o:Oper} {a:Act} {Q:Exit→Act→World→Prop} (hgd:o.guard=none) (s x:Operand) (t:TypeId)
 (ho:o.op=.call {callee:=.builtin .append,args:=#[s,x],argTypes:=#[t,t]})
 (base:Nat) (e:TypeId) (i:TypeInfo) (z:Value) (size bytes:Nat) (ht:P.underlying t=some (.slice e)) (hi:P.info? e=some i) (hz:i.zero=some z)
 (hsize:i.size=size) (hby:i.bytes=bytes) (hzs:z.cells.size=size) (hsz:0<size)
 (g:Nat) (hs:a.eval s=.slice (some ⟨g,0,none⟩) 0 0) (hown:w.ownsRow base e size (.slice (some ⟨g,0,none⟩) 0 0) 0 [])
 (la:Option Addr) (m c:Nat) (news:List Value) (hx:a.eval x=.slice la m c) (hl:news.length=m*size) (hla:m=0∨∃ad,la=some ad∧∀j u,news[j]? = some u→w.cell? (ad.add j)=some u) (h1:∀u∈news,u.oneCell'=true)
 (h63:m≤maxLen) (hbytes:m*bytes≤140737488355328) (hbase:base≤w.heap.size)
 (h:∀v' w',w'.ownsRow base e size v' m news→w.grownBy w' (some g)→v'≠.slice none 0 0→wpList P ops Q rest (a.put o.dst v') w'):wpList P ops Q (o::rest) a w:=by
 cases la with
 | none =>
  have hm:m=0:=by
   rcases hla with h0|⟨ad,e,_⟩
   ·exact h0
   ·cases e
  subst hm
  obtain rfl:news=[]:=List.eq_nil_of_length_eq_zero (by simpa using hl)
  have hrun:=run_append_room_src (P:=P) w t t o.type e i ht hi g 0 0 0 (.slice none 0 c) 0 [] (Src.ofNil w ht c) (by omega) (fun j hj=>by simp at hj) (fun j hj=>by simp at hj)
  refine wpList_plain hgd fun K hK=>?_
  unfold Oper.wp
  simp only [execOp,ho,resolve,invoke,builtin,Sem.run_bind,Sem.run_pure,Result.andThen_ok,List.map_toArray,List.map_cons,List.map_nil,hs,hx,hrun]
  exact hK _ _ (h _ _ hown (grown_refl _ _) (by simp))
 | some ad =>
  refine wpList_append_own w hgd s x t ho base e i z size bytes ht hi hz hsize hby hzs hsz _ 0 [] hs hown ad m c news hx hl ?_ h1 (by rw [Nat.zero_add];exact h63) (by rw [Nat.zero_add];exact hbytes) hbase ?_
  ·rcases hla with h0|⟨ad',e,hc⟩
   ·subst h0
    obtain rfl:news=[]:=List.eq_nil_of_length_eq_zero (by simpa using hl)
    intro j u hj
    simp at hj
   ·cases e
    exact hc
  ·intro v' w' hv hg hn
   refine h v' w' (by simpa using hv) hg (fun e=>?_)
   have:=(hn.1 e).1
   cases this
end RowG
end Go.Proofs.YtnceeaccbcfopaaGreatDoor
