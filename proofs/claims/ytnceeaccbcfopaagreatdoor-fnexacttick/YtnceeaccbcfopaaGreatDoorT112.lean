/-
  Lines put among others that rise by their Meters, the numbers of one Meter added; and a map of numbers by Meters, read as such a list. No condition.
-/
import Derived.Maps.OwnSet
import Derived.Sort.KeysCollected
import Derived.Test.YtnceeaccbcfopaaGreatDoorT111
namespace Go.Proofs.YtnceeaccbcfopaaGreatDoor
open Go.ChangeShapes Go.WideShapes Go.ChangeAt Go.RowKit
set_option linter.unusedVariables false
namespace NetR
open LinR RowG LtR
section
variable {α:Type} (r:α→α→Bool) (f:α→α→α)
def ins:List α→α→List α
 | [],y=>[y]
 | x::xs,y=>if r x y then x::ins xs y else if r y x then y::x::xs else f x y::xs
end
section
variable {α:Type} {r:α→α→Bool} {f:α→α→α} {z:α}
theorem ins_end:∀(xs:List α) (y:α),(∀j,j<xs.length→r (xs.getD j z) y=true)→ins r f xs y=xs ++ [y]
 | [],y,_=>rfl
 | x::xs,y,h=>by
  have h0:r x y=true:=by simpa using h 0 (by simp)
  rw [ins,if_pos h0,ins_end xs y (fun j hj=>by simpa using h (j+1) (by simpa using hj))]
  rfl
theorem ins_at:∀(xs:List α) (y:α) (q:Nat),q<xs.length→(∀j,j<q→r (xs.getD j z) y=true)→r (xs.getD q z) y=false →
 (r y (xs.getD q z)=true→ins r f xs y=xs.take q++y::xs.drop q)∧(r y (xs.getD q z)=false→ins r f xs y=xs.take q++f (xs.getD q z) y::xs.drop (q+1))
 | [],y,q,hq,_,_=>by simp at hq
 | x::xs,y,0,hq,_,h1=>by
  have h2:r x y=false:=by simpa using h1
  constructor
  ·intro h3
   have h4:r y x=true:=by simpa using h3
   rw [ins,if_neg (by simp [h2]),if_pos h4]
   rfl
  ·intro h3
   have h4:r y x=false:=by simpa using h3
   rw [ins,if_neg (by simp [h2]),if_neg (by simp [h4])]
   simp
 | x::xs,y,q+1,hq,h0,h1=>by
  have h2:r x y=true:=by simpa using h0 0 (by omega)
  have ih:=ins_at xs y q (by simpa using hq) (fun j hj=>by simpa using h0 (j+1) (by omega)) (by simpa using h1)
  constructor
  ·intro h3
   rw [ins,if_pos h2,ih.1 (by simpa using h3)]
   simp
  ·intro h3
   rw [ins,if_pos h2,ih.2 (by simpa using h3)]
   simp
theorem ins_len:∀(xs:List α) (y:α),(ins r f xs y).length≤xs.length+1
 | [],y=>by simp [ins]
 | x::xs,y=>by
  have:=ins_len xs y
  rw [ins]
  split
  ·simp only [List.length_cons];omega
  ·split<;>simp
end
def nlt (x y:N):Bool:=lt x.i y.i
def addN (x y:N):N:=⟨x.i,x.n+y.n⟩
def put (L:List N) (x:N):List N:=ins nlt addN L x
def Rise (L:List N):Prop:=L.Pairwise (fun x y=>lt x.i y.i=true)
def sg (s:Int) (x:N):N:=⟨x.i,s*x.n⟩
def all (L b:List N) (s:Int):List N:=b.foldl (fun l x=>put l (sg s x)) L
theorem all_more (L b:List N) (s:Int) (k:Nat) (h:k<b.length):all L (b.take (k+1)) s=put (all L (b.take k) s) (sg s (b.getD k N.zero)):=by
 unfold all
 rw [take_more (z:=N.zero) b k h,List.foldl_append]
 rfl
theorem neq_of {x y:N} (h1:nlt x y=false) (h2:nlt y x=false):x.i=y.i:=lt_total h1 h2
def val:List N→ByteArray→Int
 | [],_=>0
 | y::l,n=>if y.i=n then y.n else val l n
theorem val_none:∀{L:List N} {n:ByteArray},(∀y∈L,y.i≠n)→val L n=0
 | [],_,_=>rfl
 | y::l,n,h=>by
  rw [val,if_neg (h y (by simp))]
  exact val_none (fun y hy=>h y (by simp [hy]))
theorem val_mem:∀{L:List N},Rise L→∀y∈L,val L y.i=y.n
 | [],_,y,h=>by cases h
 | x::l,hr,y,h=>by
  rw [val]
  rcases List.mem_cons.1 h with rfl|h
  ·rw [if_pos rfl]
  ·have h1:=(List.pairwise_cons.1 hr).1 y h
   have h2:x.i≠y.i:=fun e=>by rw [e,lt_irrefl] at h1;cases h1
   rw [if_neg h2]
   exact val_mem (List.pairwise_cons.1 hr).2 y h
theorem mem_put:∀{L:List N} {x:N} {n:ByteArray},(∃y∈put L x,y.i=n)↔(n=x.i∨∃y∈L,y.i=n)
 | [],x,n=>by simp [put,ins];exact eq_comm
 | a::l,x,n=>by
  have ih:=mem_put (L:=l) (x:=x) (n:=n)
  unfold put at *
  rw [ins]
  split
  ·simp only [List.mem_cons,exists_eq_or_imp,ih]
   constructor
   ·rintro (h|h|h)
    ·exact .inr (.inl h)
    ·exact .inl h
    ·exact .inr (.inr h)
   ·rintro (h|h|h)
    ·exact .inr (.inl h)
    ·exact .inl h
    ·exact .inr (.inr h)
  ·rename_i h1
   split
   ·simp only [List.mem_cons,exists_eq_or_imp]
    constructor
    ·rintro (h|h|h)
     ·exact .inl h.symm
     ·exact .inr (.inl h)
     ·exact .inr (.inr h)
    ·rintro (h|h|h)
     ·exact .inl h.symm
     ·exact .inr (.inl h)
     ·exact .inr (.inr h)
   ·rename_i h2
    have e:=neq_of (by simpa using h1) (by simpa using h2)
    simp only [List.mem_cons,exists_eq_or_imp]
    constructor
    ·rintro (h|h)
     ·exact .inl (by rw [←e];exact h.symm)
     ·exact .inr (.inr h)
    ·rintro (h|h|h)
     ·exact .inl (by rw [h];exact e)
     ·exact .inl h
     ·exact .inr h
theorem rise_put:∀{L:List N} (x:N),Rise L→Rise (put L x)
 | [],x,_=>by simp [put,ins,Rise]
 | a::l,x,hr=>by
  have h0:=List.pairwise_cons.1 hr
  have ih:=rise_put x h0.2
  have hm:=fun n=>mem_put (L:=l) (x:=x) (n:=n)
  unfold put Rise at *
  rw [ins]
  split
  ·rename_i h1
   refine List.pairwise_cons.2 ⟨fun y hy=>?_,ih⟩
   rcases (hm y.i).1 ⟨y,hy,rfl⟩ with e|⟨z,hz,e⟩
   ·rw [e];exact h1
   ·rw [←e];exact h0.1 z hz
  ·rename_i h1
   split
   ·rename_i h2
    refine List.pairwise_cons.2 ⟨fun y hy=>?_,hr⟩
    rcases List.mem_cons.1 hy with rfl|hy
    ·exact h2
    ·exact lt_trans h2 (h0.1 y hy)
   ·exact List.pairwise_cons.2 ⟨fun y hy=>h0.1 y hy,h0.2⟩
theorem val_put:∀{L:List N} (x:N),Rise L→∀n,val (put L x) n=if n=x.i then val L n+x.n else val L n
 | [],x,_,n=>by
  simp only [put,ins,val]
  by_cases h:n=x.i
  ·rw [if_pos h,if_pos h.symm];omega
  ·rw [if_neg h,if_neg (fun e=>h e.symm)]
 | a::l,x,hr,n=>by
  have h0:=List.pairwise_cons.1 hr
  have ih:=val_put x h0.2 n
  unfold put at *
  rw [ins]
  split
  ·rename_i h1
   have hne:a.i≠x.i:=fun e=>by unfold nlt at h1;rw [e,lt_irrefl] at h1;cases h1
   simp only [val,ih]
   by_cases ha:a.i=n
   ·rw [if_pos ha,if_neg (fun e=>hne (ha.trans e)),if_pos ha]
   ·rw [if_neg ha,if_neg ha]
  ·rename_i h1
   split
   ·rename_i h2
    simp only [val]
    by_cases hx:n=x.i
    ·subst hx
     have hn:∀y∈a::l,y.i≠x.i:=by
      intro y hy e
      rcases List.mem_cons.1 hy with rfl|hy
      ·unfold nlt at h2;rw [e,lt_irrefl] at h2;cases h2
      ·have:=lt_trans h2 (h0.1 y hy)
       rw [e,lt_irrefl] at this;cases this
     have hv:=val_none hn
     simp only [val] at hv
     rw [if_pos rfl,if_pos rfl,hv];omega
    ·rw [if_neg (fun e=>hx e.symm),if_neg hx]
   ·rename_i h2
    have e:=neq_of (by simpa using h1) (by simpa using h2)
    show (if a.i=n then a.n+x.n else val l n)=if n=x.i then (if a.i=n then a.n else val l n)+x.n else (if a.i=n then a.n else val l n)
    by_cases ha:a.i=n
    ·rw [if_pos ha,if_pos ha,if_pos (ha.symm.trans e)]
    ·rw [if_neg ha,if_neg ha,if_neg (fun h=>ha (e.trans h.symm))]
theorem put_len (L:List N) (x:N):(put L x).length≤L.length+1:=ins_len L x
theorem put_bd {L:List N} {x:N} {B C:Int} (hB:0≤B) (hL:∀y∈L,-B≤y.n∧y.n≤B) (hC:0≤C) (hx:-C≤x.n∧x.n≤C):∀y∈put L x,-(B+C)≤y.n∧y.n≤B+C:=by
 unfold put
 induction L with
 | nil=>intro y hy;simp [ins] at hy;subst hy;omega
 | cons a l ih =>
  have h1:=hL a (by simp)
  have h2:=ih (fun y hy=>hL y (by simp [hy]))
  intro y hy
  rw [ins] at hy
  split at hy
  ·rcases List.mem_cons.1 hy with rfl|hy
   ·omega
   ·exact h2 y hy
  ·split at hy
   ·rcases List.mem_cons.1 hy with rfl|hy
    ·omega
    ·have:=hL y hy;omega
   ·rcases List.mem_cons.1 hy with rfl|hy
    ·simp only [addN];omega
    ·have:=hL y (by simp [hy]);omega
theorem all_len (L b:List N) (s:Int):(all L b s).length≤L.length+b.length:=by
 unfold all
 induction b generalizing L with
 | nil=>simp
 | cons x b ih =>
  have h1:=ih (put L (sg s x))
  have h2:=put_len L (sg s x)
  simp only [List.foldl_cons,List.length_cons]
  omega
theorem rise_all {L:List N} (b:List N) (s:Int) (h:Rise L):Rise (all L b s):=by
 unfold all
 induction b generalizing L with
 | nil=>exact h
 | cons x b ih=>exact ih (rise_put _ h)
def kS (n:ByteArray):Lit:=.string n.data.toList
theorem kS_inj {a b:ByteArray} (h:kS a=kS b):a=b:=by
 unfold kS at h
 simp only [Lit.string.injEq] at h
 exact ByteArray.ext (Array.ext' h)
theorem kS_key (n:ByteArray):WideAt.IsKeyLit (kS n):=by
 unfold kS
 first|trivial|exact rfl|(simp [WideAt.IsKeyLit])
structure NetM (D:DataW Value) (L:List N):Prop where
 is:Maps.IsMap D
 rise:Rise L
 has:∀n,Maps.has D (kS n)=true↔∃y∈L,y.i=n
 nat:∀y∈L,∀z,D.atKey (kS y.i) z=.lit (.int .i64 y.n)
theorem netM_nil:NetM (.map []) []:=⟨Maps.isMap_empty,List.Pairwise.nil,fun n=>by
 rw [Maps.has_eq]
 simp,fun y h=>by cases h⟩
theorem NetM.look {D:DataW Value} {L:List N} (h:NetM D L) (n:ByteArray):D.atKey (kS n) (.lit (.int .i64 0))=.lit (.int .i64 (val L n)):=by
 by_cases e:∃y∈L,y.i=n
 ·obtain ⟨y,hy,rfl⟩:=e
  rw [h.nat y hy,val_mem h.rise y hy]
 ·have h1:Maps.has D (kS n)=false:=by
   cases h2:Maps.has D (kS n)
   ·rfl
   ·exact absurd ((h.has n).1 h2) e
  rw [Maps.atKey_of_not_has h1,val_none (fun y hy e2=>e ⟨y,hy,e2⟩)]
theorem NetM.put {D:DataW Value} {L:List N} (h:NetM D L) (x:N):NetM (D.put (kS x.i) (.lit (.int .i64 (val L x.i+x.n)))) (put L x):=by
 refine ⟨h.is.put _ _,rise_put x h.rise,fun n=>?_,fun y hy z=>?_⟩
 ·rw [mem_put]
  by_cases e:n=x.i
  ·subst e
   rw [Maps.has_put_same h.is (kS_key _)]
   exact ⟨fun _=>.inl rfl,fun _=>rfl⟩
  ·rw [Maps.has_put_other (fun q=>e (kS_inj q)),h.has n]
   exact ⟨fun q=>.inr q,fun q=>q.resolve_left e⟩
 ·have hv:=val_put x h.rise y.i
  rw [val_mem (rise_put x h.rise) y hy] at hv
  by_cases e:y.i=x.i
  ·rw [if_pos e] at hv
   rw [e,Maps.atKey_put_same h.is (kS_key _),hv,e]
  ·rw [if_neg e] at hv
   rw [Maps.atKey_put_other (fun q=>e (kS_inj q))]
   rcases mem_put.1 ⟨y,hy,rfl⟩ with h1|⟨q,hq,h1⟩
   ·exact absurd h1 e
   ·rw [←h1,h.nat q hq,hv,←h1,val_mem h.rise q hq]
def ovB (L:List N):Bool:=L.all (fun y=>nOk y.n)
theorem NetM.key {D:DataW Value} {L:List N} (h:NetM D L) {kl:Lit} (hs:∃x,kl=.string x) (hh:Maps.has D kl=true):∃y∈L,kS y.i=kl:=by
 obtain ⟨x,rfl⟩:=hs
 have e:(Lit.string x)=kS ⟨x.toArray⟩:=by simp [kS]
 rw [e] at hh ⊢
 obtain ⟨y,hy,h1⟩:=(h.has _).1 hh
 exact ⟨y,hy,by rw [h1]⟩
end NetR
end Go.Proofs.YtnceeaccbcfopaaGreatDoor
