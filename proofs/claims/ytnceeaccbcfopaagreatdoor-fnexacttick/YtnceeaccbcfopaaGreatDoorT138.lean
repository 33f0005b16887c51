/-
  The program's rows of a ledger, one document more. No condition.
-/
import Derived.Test.YtnceeaccbcfopaaGreatDoorT137
namespace Go.Proofs.YtnceeaccbcfopaaGreatDoor
open Go.ChangeShapes Go.WideShapes Go.ChangeAt Go.RowKit
set_option linter.unusedVariables false
namespace LedR
open LinR RowG LtR NetR DocR
theorem rows_step {rb M k nb:Nat} {ds:List D} {W W':World} {Dm:DataW Value} {f:ByteArray→Int→Nat} (hk:k<ds.length) (hg:Good (ds.getD k D.zero).a (ds.getD k D.zero).mo)
 (h1:W.ownsMap Tryz.prog 231 RV rb M Dm)
 (h2:∀kl,Maps.has Dm kl=true→∃a m,Good a m∧kl=kP a m∧cnt (ds.take k) a m≠0)
 (h3:∀a m,cnt (ds.take k) a m≠0→Good a m∧(∀z,Dm.atKey (kP a m) z=.held (.agg #[.int .i64 (cnt (ds.take k) a m:Nat),.map (some (f a m))]))∧rb<f a m∧f a m<W.heap.size∧∃Dn M',M'≤6*(ds.take k).length∧W.ownsMap Tryz.prog 9 (plainElem (H:=Value) Tryz.prog 2) (f a m) M' Dn∧NetM Dn (net (ds.take k) a m))
 (h4:∀a m a' m',cnt (ds.take k) a m≠0→cnt (ds.take k) a' m'≠0→f a m=f a' m'→a=a'∧m=m')
 (hnb:rb<nb∧nb<W'.heap.size)
 (hnew:(cnt (ds.take k) (ds.getD k D.zero).a (ds.getD k D.zero).mo≠0∧nb=f (ds.getD k D.zero).a (ds.getD k D.zero).mo)∨(cnt (ds.take k) (ds.getD k D.zero).a (ds.getD k D.zero).mo=0∧W.heap.size≤nb))
 (hrows:W'.ownsMap Tryz.prog 231 RV rb (M+1) (Dm.put (kP (ds.getD k D.zero).a (ds.getD k D.zero).mo) (.held (.agg #[.int .i64 ((cnt (ds.take k) (ds.getD k D.zero).a (ds.getD k D.zero).mo:Nat)+1),.map (some nb)]))))
 (hnet:∃Dn M',M'≤6*(k+1)∧W'.ownsMap Tryz.prog 9 (plainElem (H:=Value) Tryz.prog 2) nb M' Dn∧NetM Dn (all (net (ds.take k) (ds.getD k D.zero).a (ds.getD k D.zero).mo) (ds.getD k D.zero).ls 1))
 (hoth:∀b,b<W.heap.size→b≠rb→b≠nb→W'.heap[b]? = W.heap[b]?) (hsz:W.heap.size≤W'.heap.size) :
 RowsM rb (M+1) (ds.take (k+1)) W':=by
 have htl:(ds.take (k+1)).length=k+1:=by simp;omega
 have htk:(ds.take k).length=k:=by simp;omega
 have hcm:=fun a m=>cnt_more ds k hk a m
 have hnm:=fun a m=>net_more ds k hk a m
 generalize hX:ds.getD k D.zero=X at *
 have hself:of X.a X.mo X=true:=of_self X
 have hoth2:∀a m,¬(a=X.a∧m=X.mo)→of a m X=false:=by
  intro a m hn
  cases h:of a m X
  ·rfl
  ·obtain ⟨e1,e2⟩:=of_iff.1 h
   exact absurd ⟨e1.symm,e2.symm⟩ hn
 have hkeep:∀b n Dn,b<W.heap.size→b≠rb→b≠nb→W.ownsMap Tryz.prog 9 (plainElem (H:=Value) Tryz.prog 2) b n Dn→W'.ownsMap Tryz.prog 9 (plainElem (H:=Value) Tryz.prog 2) b n Dn:=by
  intro b n Dn hb n1 n2 ⟨es,clock,q1,q2⟩
  exact ⟨es,clock,(hoth b hb n1 n2).trans q1,q2⟩
 have hmono:∀a m,cnt (ds.take k) a m≠0→cnt (ds.take (k+1)) a m≠0:=fun a m h=>by rw [hcm];omega
 obtain ⟨f',hf1,hf2⟩:∃f':ByteArray→Int→Nat,f' X.a X.mo=nb∧∀a m,¬(a=X.a∧m=X.mo)→f' a m=f a m:=⟨fun a m=>if a=X.a∧m=X.mo then nb else f a m,by simp,fun a m h=>by simp [h]⟩
 refine ⟨_,f',hrows,fun kl hh=>?_,fun a m hc=>?_,fun a m a' m' hc hc' e=>?_⟩
 ·by_cases e:kl=kP X.a X.mo
  ·exact ⟨X.a,X.mo,hg,e,by rw [hcm,hself,cond_true];omega⟩
  ·rw [Maps.has_put_other e] at hh
   obtain ⟨a,m,g,e2,hc⟩:=h2 kl hh
   exact ⟨a,m,g,e2,hmono a m hc⟩
 ·by_cases e:a=X.a∧m=X.mo
  ·obtain ⟨rfl,rfl⟩:=e
   obtain ⟨Dn,M',q1,q2,q3⟩:=hnet
   refine ⟨hg,fun z=>?_,?_,?_,Dn,M',by rw [htl];exact q1,?_,?_⟩
   ·rw [Maps.atKey_put_same h1.isMap (kP_key _ _),hcm,hself,cond_true,hf1]
    rfl
   ·rw [hf1];exact hnb.1
   ·rw [hf1];exact hnb.2
   ·rw [hf1];exact q2
   ·rw [hnm,hself,cond_true];exact q3
  ·have h0:=hoth2 a m e
   rw [hcm,h0,cond_false,Nat.add_zero] at hc
   obtain ⟨g,p1,p2,p3,Dn,M',p4,p5,p6⟩:=h3 a m hc
   have hne:f a m≠nb:=by
    rcases hnew with ⟨hn,en⟩|⟨_,hn⟩
    ·intro e2
     exact e (h4 a m X.a X.mo hc hn (e2.trans en))
    ·omega
   refine ⟨g,fun z=>?_,?_,?_,Dn,M',by rw [htl];rw [htk] at p4;omega,?_,?_⟩
   ·rw [Maps.atKey_put_other (fun e2=>e (kP_inj g hg e2)),p1,hcm,h0,cond_false,Nat.add_zero,hf2 a m e]
   ·rw [hf2 a m e];exact p2
   ·rw [hf2 a m e];omega
   ·rw [hf2 a m e];exact hkeep _ _ _ p3 (by omega) hne p5
   ·rw [hnm,h0,cond_false];exact p6
 ·have key:∀a m,cnt (ds.take (k+1)) a m≠0→¬(a=X.a∧m=X.mo)→cnt (ds.take k) a m≠0∧f a m≠nb:=by
   intro a m hc hn
   rw [hcm,hoth2 a m hn,cond_false,Nat.add_zero] at hc
   refine ⟨hc,?_⟩
   rcases hnew with ⟨hn2,en⟩|⟨_,hn2⟩
   ·intro e2
    exact hn (h4 a m X.a X.mo hc hn2 (e2.trans en))
   ·have:=(h3 a m hc).2.2.2.1;omega
  by_cases e1:a=X.a∧m=X.mo
  ·by_cases e2:a'=X.a∧m'=X.mo
   ·exact ⟨e1.1.trans e2.1.symm,e1.2.trans e2.2.symm⟩
   ·rw [e1.1,e1.2,hf1,hf2 a' m' e2] at e
    exact absurd e.symm (key a' m' hc' e2).2
  ·by_cases e2:a'=X.a∧m'=X.mo
   ·rw [e2.1,e2.2,hf1,hf2 a m e1] at e
    exact absurd e (key a m hc e1).2
   ·rw [hf2 a m e1,hf2 a' m' e2] at e
    exact h4 a m a' m' (key a m hc e1).1 (key a' m' hc' e2).1 e
end LedR
end Go.Proofs.YtnceeaccbcfopaaGreatDoor
