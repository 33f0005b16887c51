/-
  Where an Id stands among right entries. No condition.
-/
import Derived.Test.YtnceeaccbcfopaaGreatDoorT91
namespace Go.Proofs.YtnceeaccbcfopaaGreatDoor
open Go.RowKit
set_option linter.unusedVariables false
namespace SeenR
open RowG LtR
def pos (es:List N) (id:ByteArray):Nat:=(es.takeWhile (fun e=>lt e.i id)).length
def Ahead (es:List N) (id:ByteArray) (k:Nat):Prop:=∀i,i<k→lt (es.getD i N.zero).i id=true
theorem Ahead.zero (es:List N) (id:ByteArray):Ahead es id 0:=fun i h=>absurd h (by omega)
theorem Ahead.more {es:List N} {id:ByteArray} {k:Nat} (h:Ahead es id k) (h1:lt (es.getD k N.zero).i id=true):Ahead es id (k+1):=by
 intro i hi
 by_cases e:i=k
 ·subst e;exact h1
 ·exact h i (by omega)
theorem rise {es:List N} (h:SRight es):∀i,i<es.length→∀j,j<i→lt (es.getD j N.zero).i (es.getD i N.zero).i=true
 | 0,_=>fun j hj=>absurd hj (by omega)
 | i+1,hi=>fun j hj=>by
  have h1:=(h.2 (i+1) hi).1
  have e:ahd es (i+1)=(es.getD i N.zero).i:=rfl
  rw [e] at h1
  by_cases q:j=i
  ·subst q;exact h1
  ·exact lt_trans (rise h i (by omega) j (by omega)) h1
end SeenR
end Go.Proofs.YtnceeaccbcfopaaGreatDoor
