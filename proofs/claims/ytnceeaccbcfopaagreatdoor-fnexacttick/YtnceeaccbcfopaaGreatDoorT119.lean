/-
  What a right ledger is: documents counted and added by account and month. No condition.
-/
import Derived.DeepKeys4
import Derived.Test.YtnceeaccbcfopaaGreatDoorT118
namespace Go.Proofs.YtnceeaccbcfopaaGreatDoor
open Go.ChangeShapes Go.WideShapes Go.ChangeAt Go.RowKit
set_option linter.unusedVariables false
namespace LedR
open LinR RowG LtR NetR DocR
def of (a:ByteArray) (m:Int) (d:D):Bool:=d.a.toList==a.toList&&d.mo==m
theorem of_iff {a:ByteArray} {m:Int} {d:D}:of a m d=true↔d.a=a∧d.mo=m:=by
 unfold of
 simp only [Bool.and_eq_true,beq_iff_eq]
 exact ⟨fun h=>⟨toList_inj h.1,h.2⟩,fun h=>⟨by rw [h.1],h.2⟩⟩
theorem of_self (d:D):of d.a d.mo d=true:=of_iff.2 ⟨rfl,rfl⟩
def D.zero:D:=⟨⟨#[]⟩,0,0,[]⟩
def cnt (ds:List D) (a:ByteArray) (m:Int):Nat:=(ds.filter (of a m)).length
def net (ds:List D) (a:ByteArray) (m:Int):List N:=ds.foldl (fun L d=>bif of a m d then all L d.ls 1 else L) []
theorem tk_more (ds:List D) (k:Nat) (h:k<ds.length):ds.take (k+1)=ds.take k ++ [ds.getD k D.zero]:=take_more (z:=D.zero) ds k h
theorem cnt_more (ds:List D) (k:Nat) (h:k<ds.length) (a:ByteArray) (m:Int):cnt (ds.take (k+1)) a m=cnt (ds.take k) a m+(bif of a m (ds.getD k D.zero) then 1 else 0):=by
 unfold cnt
 rw [tk_more ds k h,List.filter_append]
 generalize ds.getD k D.zero=X
 cases hx:of a m X<;>simp [hx]
theorem net_more (ds:List D) (k:Nat) (h:k<ds.length) (a:ByteArray) (m:Int):net (ds.take (k+1)) a m=bif of a m (ds.getD k D.zero) then all (net (ds.take k) a m) (ds.getD k D.zero).ls 1 else net (ds.take k) a m:=by
 unfold net
 rw [tk_more ds k h,List.foldl_append]
 rfl
theorem cnt_le (ds:List D) (a:ByteArray) (m:Int):cnt ds a m≤ds.length:=List.length_filter_le _ _
theorem net_zero:∀{ds:List D} {a:ByteArray} {m:Int},cnt ds a m=0→net ds a m=[]:=by
 intro ds a m h
 unfold cnt at h
 unfold net
 have hf:∀d∈ds,of a m d=false:=by
  intro d hd
  cases hx:of a m d
  ·rfl
  ·have:d∈ds.filter (of a m):=List.mem_filter.2 ⟨hd,hx⟩
   rw [List.length_eq_zero_iff.1 h] at this
   cases this
 clear h
 generalize ([]:List N)=L
 induction ds generalizing L with
 | nil=>rfl
 | cons d ds ih =>
  rw [List.foldl_cons,hf d (by simp),cond_false]
  exact ih (fun d hd=>hf d (by simp [hd])) L
def SOk (ds:List D) (k:Nat):Prop:=∀i,i<k→dB (ds.getD i D.zero)=true∧(ds.getD i D.zero).sq=cnt (ds.take i) (ds.getD i D.zero).a (ds.getD i D.zero).mo
def NOk (ds:List D) (k:Nat):Prop:=∀i,i<k→ovB (net ds (ds.getD i D.zero).a (ds.getD i D.zero).mo)=true
def LRight (ds:List D):Prop:=ds.length≤30∧SOk ds ds.length∧NOk ds ds.length
def SOkDec (ds:List D) (k:Nat):Decidable (SOk ds k):=inferInstanceAs (Decidable (∀i,i<k→dB (ds.getD i D.zero)=true∧(ds.getD i D.zero).sq=cnt (ds.take i) (ds.getD i D.zero).a (ds.getD i D.zero).mo))
def NOkDec (ds:List D) (k:Nat):Decidable (NOk ds k):=inferInstanceAs (Decidable (∀i,i<k→ovB (net ds (ds.getD i D.zero).a (ds.getD i D.zero).mo)=true))
def LRightDec (ds:List D):Decidable (LRight ds) :=
 haveI:=SOkDec ds ds.length
 haveI:=NOkDec ds ds.length
 inferInstanceAs (Decidable (ds.length≤30∧SOk ds ds.length∧NOk ds ds.length))
def lB (ds:List D):Bool:=@decide (LRight ds) (LRightDec ds)
theorem lB_no {ds:List D} (h:¬LRight ds):lB ds=false:=by unfold lB;exact @decide_eq_false _ (LRightDec ds) h
theorem lB_yes {ds:List D} (h:LRight ds):lB ds=true:=by unfold lB;exact @decide_eq_true _ (LRightDec ds) h
theorem lB_iff {ds:List D}:lB ds=true↔LRight ds:=by unfold lB;exact @decide_eq_true_iff _ (LRightDec ds)
theorem SOk.zero (ds:List D):SOk ds 0:=fun i h=>absurd h (by omega)
theorem SOk.more {ds:List D} {k:Nat} (h:SOk ds k) (h1:dB (ds.getD k D.zero)=true) (h2:(ds.getD k D.zero).sq=cnt (ds.take k) (ds.getD k D.zero).a (ds.getD k D.zero).mo):SOk ds (k+1):=by
 intro i hi
 by_cases e:i=k
 ·subst e;exact ⟨h1,h2⟩
 ·exact h i (by omega)
theorem dB_lines {x:D} (h:dB x=true):SRight x.ls:=by
 unfold dB at h
 simp only [Bool.and_eq_true] at h
 exact sB_iff.1 h.2.2.2.1
theorem mem_cnt {ds:List D} {a:ByteArray} {m:Int} (h:cnt ds a m≠0):∃i,i<ds.length∧(ds.getD i D.zero).a=a∧(ds.getD i D.zero).mo=m:=by
 unfold cnt at h
 have:ds.filter (of a m)≠[]:=fun e=>h (by rw [e];rfl)
 obtain ⟨d,hd⟩:=List.exists_mem_of_ne_nil _ this
 obtain ⟨h1,h2⟩:=List.mem_filter.1 hd
 obtain ⟨i,hi,rfl⟩:=List.getElem_of_mem h1
 refine ⟨i,hi,?_⟩
 have e2:ds.getD i D.zero=ds[i]:=by simp [List.getD,hi]
 rw [e2]
 exact of_iff.1 h2
theorem cnt_mem {ds:List D} {i:Nat} (hi:i<ds.length):cnt ds (ds.getD i D.zero).a (ds.getD i D.zero).mo≠0:=by
 unfold cnt
 have e2:ds.getD i D.zero∈ds:=getD_mem (z:=D.zero) ds i hi
 have:ds.getD i D.zero∈ds.filter (of (ds.getD i D.zero).a (ds.getD i D.zero).mo):=List.mem_filter.2 ⟨e2,of_self _⟩
 intro h
 rw [List.length_eq_zero_iff.1 h] at this
 cases this
theorem net_facts {ds:List D}:∀k,k≤ds.length→SOk ds k→∀a m,Rise (net (ds.take k) a m)∧(net (ds.take k) a m).length≤6*k∧(∀y∈net (ds.take k) a m,-(6000000000000000*(k:Int))≤y.n∧y.n≤6000000000000000*(k:Int))
 | 0,_,_,a,m=>by simp [net,Rise]
 | k+1,hk,h,a,m=>by
  obtain ⟨i1,i2,i3⟩:=net_facts k (by omega) (fun i hi=>h i (by omega)) a m
  rw [net_more ds k (by omega)]
  have hr:=dB_lines (h k (by omega)).1
  generalize ds.getD k D.zero=X at *
  cases of a m X
  ·rw [cond_false]
   exact ⟨i1,by omega,fun y hy=>by have:=i3 y hy;omega⟩
  ·rw [cond_true]
   refine ⟨rise_all _ _ i1,by have:=all_len (net (ds.take k) a m) X.ls 1;have:=hr.1;omega,?_⟩
   have key:∀(b:List N) (L:List N) (B:Int),0≤B→(∀y∈L,-B≤y.n∧y.n≤B)→(∀e∈b,-1000000000000000≤e.n∧e.n≤1000000000000000)→∀y∈all L b 1,-(B+1000000000000000*(b.length:Int))≤y.n∧y.n≤B+1000000000000000*(b.length:Int):=by
    intro b
    induction b with
    | nil=>intro L B hB hL _ y hy;have:=hL y hy;simp;omega
    | cons e b ih =>
     intro L B hB hL hb y hy
     have h1:=hb e (by simp)
     have h2:=ih (NetR.put L (sg 1 e)) (B+1000000000000000) (by omega) (put_bd hB hL (by omega) (by simp only [sg];omega)) (fun e he=>hb e (by simp [he])) y hy
     simp only [List.length_cons]
     omega
   intro y hy
   have h1:=key X.ls _ (6000000000000000*(k:Int)) (by omega) i3 (right_bd hr) y hy
   have h2:=hr.1
   omega
end LedR
end Go.Proofs.YtnceeaccbcfopaaGreatDoor
