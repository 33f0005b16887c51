/-
  Lines put among others that rise by their Meters, the numbers of one Meter added; and a map of numbers by Meters, read as such a list.
  The model's way to put a line among others in its place.
  The program's nets: a map of numbers by Meters, to which lines are added, and of which is asked whether one runs beyond.
  The model's way to add lines to others.
  The conditions stand in what each theorem says.
-/
import Derived.Maps.OwnSet
import Derived.Sort.KeysCollected
import Derived.Deep.QuietTactic
import Derived.Maps.RangeWalk
import Derived.Maps.OwnOps
import Derived.Carry
import Derived.Test.YtnceeaccbcfopaaGreatDoorT24
set_option maxRecDepth 100000
set_option maxHeartbeats 16000000
namespace Go.Proofs.YtnceeaccbcfopaaGreatDoor
open Go.ChangeShapes Go.WideShapes Go.ChangeAt Go.RowKit
set_option linter.unusedVariables false
namespace NetR
open LinR RowG LtR
section
variable {α:Type} (r:α→α→Bool) (f:α→α→α)
def ins:List α→α→List α
 | [],y=>[y]
 | x::xs,y=>if r x y then x::ins xs y else if r y x then y::x::xs else f x y::xs
end
section
variable {α:Type} {r:α→α→Bool} {f:α→α→α} {z:α}
theorem ins_end:∀(xs:List α) (y:α),(∀j,j<xs.length→r (xs.getD j z) y=true)→ins r f xs y=xs ++ [y]
 | [],y,_=>rfl
 | x::xs,y,h=>by
  have h0:r x y=true:=by simpa using h 0 (by simp)
  rw [ins,if_pos h0,ins_end xs y (fun j hj=>by simpa using h (j+1) (by simpa using hj))]
  rfl
theorem ins_at:∀(xs:List α) (y:α) (q:Nat),q<xs.length→(∀j,j<q→r (xs.getD j z) y=true)→r (xs.getD q z) y=false →
 (r y (xs.getD q z)=true→ins r f xs y=xs.take q++y::xs.drop q)∧(r y (xs.getD q z)=false→ins r f xs y=xs.take q++f (xs.getD q z) y::xs.drop (q+1))
 | [],y,q,hq,_,_=>by simp at hq
 | x::xs,y,0,hq,_,h1=>by
  have h2:r x y=false:=by simpa using h1
  constructor
  ·intro h3
   have h4:r y x=true:=by simpa using h3
   rw [ins,if_neg (by simp [h2]),if_pos h4]
   rfl
  ·intro h3
   have h4:r y x=false:=by simpa using h3
   rw [ins,if_neg (by simp [h2]),if_neg (by simp [h4])]
   simp
 | x::xs,y,q+1,hq,h0,h1=>by
  have h2:r x y=true:=by simpa using h0 0 (by omega)
  have ih:=ins_at xs y q (by simpa using hq) (fun j hj=>by simpa using h0 (j+1) (by omega)) (by simpa using h1)
  constructor
  ·intro h3
   rw [ins,if_pos h2,ih.1 (by simpa using h3)]
   simp
  ·intro h3
   rw [ins,if_pos h2,ih.2 (by simpa using h3)]
   simp
theorem ins_len:∀(xs:List α) (y:α),(ins r f xs y).length≤xs.length+1
 | [],y=>by simp [ins]
 | x::xs,y=>by
  have:=ins_len xs y
  rw [ins]
  split
  ·simp only [List.length_cons];omega
  ·split<;>simp
end
def nlt (x y:N):Bool:=lt x.i y.i
def addN (x y:N):N:=⟨x.i,x.n+y.n⟩
def put (L:List N) (x:N):List N:=ins nlt addN L x
def Rise (L:List N):Prop:=L.Pairwise (fun x y=>lt x.i y.i=true)
def sg (s:Int) (x:N):N:=⟨x.i,s*x.n⟩
def all (L b:List N) (s:Int):List N:=b.foldl (fun l x=>put l (sg s x)) L
theorem all_more (L b:List N) (s:Int) (k:Nat) (h:k<b.length):all L (b.take (k+1)) s=put (all L (b.take k) s) (sg s (b.getD k N.zero)):=by
 unfold all
 rw [take_more (z:=N.zero) b k h,List.foldl_append]
 rfl
theorem neq_of {x y:N} (h1:nlt x y=false) (h2:nlt y x=false):x.i=y.i:=lt_total h1 h2
def val:List N→ByteArray→Int
 | [],_=>0
 | y::l,n=>if y.i=n then y.n else val l n
theorem val_none:∀{L:List N} {n:ByteArray},(∀y∈L,y.i≠n)→val L n=0
 | [],_,_=>rfl
 | y::l,n,h=>by
  rw [val,if_neg (h y (by simp))]
  exact val_none (fun y hy=>h y (by simp [hy]))
theorem val_mem:∀{L:List N},Rise L→∀y∈L,val L y.i=y.n
 | [],_,y,h=>by cases h
 | x::l,hr,y,h=>by
  rw [val]
  rcases List.mem_cons.1 h with rfl|h
  ·rw [if_pos rfl]
  ·have h1:=(List.pairwise_cons.1 hr).1 y h
   have h2:x.i≠y.i:=fun e=>by rw [e,lt_irrefl] at h1;cases h1
   rw [if_neg h2]
   exact val_mem (List.pairwise_cons.1 hr).2 y h
theorem mem_put:∀{L:List N} {x:N} {n:ByteArray},(∃y∈put L x,y.i=n)↔(n=x.i∨∃y∈L,y.i=n)
 | [],x,n=>by simp [put,ins];exact eq_comm
 | a::l,x,n=>by
  have ih:=mem_put (L:=l) (x:=x) (n:=n)
  unfold put at *
  rw [ins]
  split
  ·simp only [List.mem_cons,exists_eq_or_imp,ih]
   constructor
   ·rintro (h|h|h)
    ·exact .inr (.inl h)
    ·exact .inl h
    ·exact .inr (.inr h)
   ·rintro (h|h|h)
    ·exact .inr (.inl h)
    ·exact .inl h
    ·exact .inr (.inr h)
  ·rename_i h1
   split
   ·simp only [List.mem_cons,exists_eq_or_imp]
    constructor
    ·rintro (h|h|h)
     ·exact .inl h.symm
     ·exact .inr (.inl h)
     ·exact .inr (.inr h)
    ·rintro (h|h|h)
     ·exact .inl h.symm
     ·exact .inr (.inl h)
     ·exact .inr (.inr h)
   ·rename_i h2
    have e:=neq_of (by simpa using h1) (by simpa using h2)
    simp only [List.mem_cons,exists_eq_or_imp]
    constructor
    ·rintro (h|h)
     ·exact .inl (by rw [←e];exact h.symm)
     ·exact .inr (.inr h)
    ·rintro (h|h|h)
     ·exact .inl (by rw [h];exact e)
     ·exact .inl h
     ·exact .inr h
theorem rise_put:∀{L:List N} (x:N),Rise L→Rise (put L x)
 | [],x,_=>by simp [put,ins,Rise]
 | a::l,x,hr=>by
  have h0:=List.pairwise_cons.1 hr
  have ih:=rise_put x h0.2
  have hm:=fun n=>mem_put (L:=l) (x:=x) (n:=n)
  unfold put Rise at *
  rw [ins]
  split
  ·rename_i h1
   refine List.pairwise_cons.2 ⟨fun y hy=>?_,ih⟩
   rcases (hm y.i).1 ⟨y,hy,rfl⟩ with e|⟨z,hz,e⟩
   ·rw [e];exact h1
   ·rw [←e];exact h0.1 z hz
  ·rename_i h1
   split
   ·rename_i h2
    refine List.pairwise_cons.2 ⟨fun y hy=>?_,hr⟩
    rcases List.mem_cons.1 hy with rfl|hy
    ·exact h2
    ·exact lt_trans h2 (h0.1 y hy)
   ·exact List.pairwise_cons.2 ⟨fun y hy=>h0.1 y hy,h0.2⟩
theorem val_put:∀{L:List N} (x:N),Rise L→∀n,val (put L x) n=if n=x.i then val L n+x.n else val L n
 | [],x,_,n=>by
  simp only [put,ins,val]
  by_cases h:n=x.i
  ·rw [if_pos h,if_pos h.symm];omega
  ·rw [if_neg h,if_neg (fun e=>h e.symm)]
 | a::l,x,hr,n=>by
  have h0:=List.pairwise_cons.1 hr
  have ih:=val_put x h0.2 n
  unfold put at *
  rw [ins]
  split
  ·rename_i h1
   have hne:a.i≠x.i:=fun e=>by unfold nlt at h1;rw [e,lt_irrefl] at h1;cases h1
   simp only [val,ih]
   by_cases ha:a.i=n
   ·rw [if_pos ha,if_neg (fun e=>hne (ha.trans e)),if_pos ha]
   ·rw [if_neg ha,if_neg ha]
  ·rename_i h1
   split
   ·rename_i h2
    simp only [val]
    by_cases hx:n=x.i
    ·subst hx
     have hn:∀y∈a::l,y.i≠x.i:=by
      intro y hy e
      rcases List.mem_cons.1 hy with rfl|hy
      ·unfold nlt at h2;rw [e,lt_irrefl] at h2;cases h2
      ·have:=lt_trans h2 (h0.1 y hy)
       rw [e,lt_irrefl] at this;cases this
     have hv:=val_none hn
     simp only [val] at hv
     rw [if_pos rfl,if_pos rfl,hv];omega
    ·rw [if_neg (fun e=>hx e.symm),if_neg hx]
   ·rename_i h2
    have e:=neq_of (by simpa using h1) (by simpa using h2)
    show (if a.i=n then a.n+x.n else val l n)=if n=x.i then (if a.i=n then a.n else val l n)+x.n else (if a.i=n then a.n else val l n)
    by_cases ha:a.i=n
    ·rw [if_pos ha,if_pos ha,if_pos (ha.symm.trans e)]
    ·rw [if_neg ha,if_neg ha,if_neg (fun h=>ha (e.trans h.symm))]
theorem put_len (L:List N) (x:N):(put L x).length≤L.length+1:=ins_len L x
theorem put_bd {L:List N} {x:N} {B C:Int} (hB:0≤B) (hL:∀y∈L,-B≤y.n∧y.n≤B) (hC:0≤C) (hx:-C≤x.n∧x.n≤C):∀y∈put L x,-(B+C)≤y.n∧y.n≤B+C:=by
 unfold put
 induction L with
 | nil=>intro y hy;simp [ins] at hy;subst hy;omega
 | cons a l ih =>
  have h1:=hL a (by simp)
  have h2:=ih (fun y hy=>hL y (by simp [hy]))
  intro y hy
  rw [ins] at hy
  split at hy
  ·rcases List.mem_cons.1 hy with rfl|hy
   ·omega
   ·exact h2 y hy
  ·split at hy
   ·rcases List.mem_cons.1 hy with rfl|hy
    ·omega
    ·have:=hL y hy;omega
   ·rcases List.mem_cons.1 hy with rfl|hy
    ·simp only [addN];omega
    ·have:=hL y (by simp [hy]);omega
theorem all_len (L b:List N) (s:Int):(all L b s).length≤L.length+b.length:=by
 unfold all
 induction b generalizing L with
 | nil=>simp
 | cons x b ih =>
  have h1:=ih (put L (sg s x))
  have h2:=put_len L (sg s x)
  simp only [List.foldl_cons,List.length_cons]
  omega
theorem rise_all {L:List N} (b:List N) (s:Int) (h:Rise L):Rise (all L b s):=by
 unfold all
 induction b generalizing L with
 | nil=>exact h
 | cons x b ih=>exact ih (rise_put _ h)
def kS (n:ByteArray):Lit:=.string n.data.toList
theorem kS_inj {a b:ByteArray} (h:kS a=kS b):a=b:=by
 unfold kS at h
 simp only [Lit.string.injEq] at h
 exact ByteArray.ext (Array.ext' h)
theorem kS_key (n:ByteArray):WideAt.IsKeyLit (kS n):=by
 unfold kS
 first|trivial|exact rfl|(simp [WideAt.IsKeyLit])
structure NetM (D:DataW Value) (L:List N):Prop where
 is:Maps.IsMap D
 rise:Rise L
 has:∀n,Maps.has D (kS n)=true↔∃y∈L,y.i=n
 nat:∀y∈L,∀z,D.atKey (kS y.i) z=.lit (.int .i64 y.n)
theorem netM_nil:NetM (.map []) []:=⟨Maps.isMap_empty,List.Pairwise.nil,fun n=>by
 rw [Maps.has_eq]
 simp,fun y h=>by cases h⟩
theorem NetM.look {D:DataW Value} {L:List N} (h:NetM D L) (n:ByteArray):D.atKey (kS n) (.lit (.int .i64 0))=.lit (.int .i64 (val L n)):=by
 by_cases e:∃y∈L,y.i=n
 ·obtain ⟨y,hy,rfl⟩:=e
  rw [h.nat y hy,val_mem h.rise y hy]
 ·have h1:Maps.has D (kS n)=false:=by
   cases h2:Maps.has D (kS n)
   ·rfl
   ·exact absurd ((h.has n).1 h2) e
  rw [Maps.atKey_of_not_has h1,val_none (fun y hy e2=>e ⟨y,hy,e2⟩)]
theorem NetM.put {D:DataW Value} {L:List N} (h:NetM D L) (x:N):NetM (D.put (kS x.i) (.lit (.int .i64 (val L x.i+x.n)))) (put L x):=by
 refine ⟨h.is.put _ _,rise_put x h.rise,fun n=>?_,fun y hy z=>?_⟩
 ·rw [mem_put]
  by_cases e:n=x.i
  ·subst e
   rw [Maps.has_put_same h.is (kS_key _)]
   exact ⟨fun _=>.inl rfl,fun _=>rfl⟩
  ·rw [Maps.has_put_other (fun q=>e (kS_inj q)),h.has n]
   exact ⟨fun q=>.inr q,fun q=>q.resolve_left e⟩
 ·have hv:=val_put x h.rise y.i
  rw [val_mem (rise_put x h.rise) y hy] at hv
  by_cases e:y.i=x.i
  ·rw [if_pos e] at hv
   rw [e,Maps.atKey_put_same h.is (kS_key _),hv,e]
  ·rw [if_neg e] at hv
   rw [Maps.atKey_put_other (fun q=>e (kS_inj q))]
   rcases mem_put.1 ⟨y,hy,rfl⟩ with h1|⟨q,hq,h1⟩
   ·exact absurd h1 e
   ·rw [←h1,h.nat q hq,hv,←h1,val_mem h.rise q hq]
def ovB (L:List N):Bool:=L.all (fun y=>nOk y.n)
theorem NetM.key {D:DataW Value} {L:List N} (h:NetM D L) {kl:Lit} (hs:∃x,kl=.string x) (hh:Maps.has D kl=true):∃y∈L,kS y.i=kl:=by
 obtain ⟨x,rfl⟩:=hs
 have e:(Lit.string x)=kS ⟨x.toArray⟩:=by simp [kS]
 rw [e] at hh ⊢
 obtain ⟨y,hy,h1⟩:=(h.has _).1 hh
 exact ⟨y,hy,by rw [h1]⟩
end NetR
end Go.Proofs.YtnceeaccbcfopaaGreatDoor
namespace Go.Proofs.YtnceeaccbcfopaaGreatDoor
open Go.ChangeShapes Go.WideShapes Go.ChangeAt Go.RowKit
set_option linter.unusedVariables false
namespace NetR
open LinR RowG LtR
open DocR (BlkW BlkW.new BlkW.below)
theorem al (w:World) (o:Obj):Below w.heap.size w (w.alloc o):=(Below.refl _ _).alloc (Nat.le_refl _) _
theorem rws_sub {α:Type} {k:Nat} {cells:α→List Value} {z:α} {b off i n:Nat} {xs:List α} {w:World} (hk:∀x,(cells x).length=k) (h:Rws k cells z (some ⟨b,off,none⟩) xs w):∀j u,(cellsAll cells ((xs.drop i).take n))[j]? = some u→w.cell? ((⟨b,off+i*k,none⟩:Addr).add j)=some u:=by
 intro j u hj
 have hlt:=(List.getElem?_eq_some_iff.1 hj).1
 rw [cellsAll_len hk] at hlt
 have hk0:0<k:=by
  rcases Nat.eq_zero_or_pos k with e|e
  ·rw [e,Nat.mul_zero] at hlt;omega
  ·exact e
 obtain ⟨d,r,rfl,hr⟩:∃d r,j=d*k+r∧r<k:=⟨j / k,j % k,by rw [Nat.mul_comm];exact (Nat.div_add_mod j k).symm,Nat.mod_lt _ hk0⟩
 have hi:d<((xs.drop i).take n).length:=Nat.lt_of_mul_lt_mul_right (a:=k) (Nat.lt_of_le_of_lt (Nat.le_add_right _ _) hlt)
 have hi2:i+d<xs.length:=by simp at hi;omega
 have hn:d<n:=by simp at hi;omega
 have eg:((xs.drop i).take n).getD d z=xs.getD (i+d) z:=by simp [List.getD,hn]
 rw [cellsAll_get (z:=z) hk _ d r hi hr,eg] at hj
 rcases h with h0|⟨b',off',he,_,hc⟩
 ·omega
 ·simp only [Option.some.injEq,Addr.mk.injEq,and_true] at he
  obtain ⟨rfl,rfl⟩:=he
  have:=hc (i+d) hi2 r hr
  rw [Addr.add_lit,show off+i*k+(d*k+r)=off+(i+d)*k+r by rw [Nat.add_mul];omega,this]
  exact hj
theorem ins_cells {α:Type} {cells:α→List Value} (a:List α) (x:α) (b:List α):cellsAll cells (a++x::b)=cellsAll cells a++cells x++cellsAll cells b:=by simp [cellsAll]
theorem ins_len2 {α:Type} (ts:List α) (q:Nat) (t:α) (h:q≤ts.length):(ts.take q++t::ts.drop q).length=ts.length+1:=by simp;omega
theorem lis_one (L:List N):∀v∈cellsAll N.cells L,v.oneCell'=true:=by
 intro v hv
 simp only [cellsAll,List.mem_flatMap] at hv
 obtain ⟨x,_,h⟩:=hv
 exact two_one x v h
theorem bdn {B:Nat} {a w:World} (h:Below B a w) (n:Nat):Below B a (w.drewN n):=⟨h.os,h.tape,h.output,h.size,h.block⟩
theorem blkw_grown {b:Nat} {cs:List Value} {w w':World} {row:Option Nat} (h:BlkW b cs w) (hg:w.grownBy w' row) (hne:some b≠row):BlkW b cs w':=by
 have e:=hg.block b h.1.1 hne
 exact ⟨⟨by have:=hg.size;have:=h.1.1;omega,fun i hi=>(World.cell?_of_block (a:=⟨b,i,none⟩) e).trans (h.1.2 i hi)⟩,fun i hi=>(World.frozen?_of_block (a:=⟨b,i,none⟩) e).trans (h.2 i hi)⟩
theorem lis_two {b off:Nat} {L:List N} {w:World} (h:Lis (some ⟨b,off,none⟩) L w) (q:Nat) (hq:q<L.length):b<w.heap.size∧w.cell? ⟨b,off+q*2,none⟩=some (.string (L.getD q N.zero).i)∧w.cell? ⟨b,off+q*2+1,none⟩=some (.int .i64 (L.getD q N.zero).n):=by
 obtain ⟨b',off',e,hl,c0,c1⟩:=h.at q hq
 simp only [Option.some.injEq,Addr.mk.injEq,and_true] at e
 obtain ⟨rfl,rfl⟩:=e
 exact ⟨hl,c0,c1⟩
def fnd:List N→ByteArray→Bool
 | [],_=>false
 | y::l,x=>bif lt y.i x then fnd l x else y.i.toList==x.toList
theorem fnd_end:∀(L:List N) (x:ByteArray),(∀j,j<L.length→lt (L.getD j N.zero).i x=true)→fnd L x=false
 | [],x,_=>rfl
 | y::l,x,h=>by
  have h0:lt y.i x=true:=by simpa using h 0 (by simp)
  rw [fnd,h0,cond_true]
  exact fnd_end l x (fun j hj=>by simpa using h (j+1) (by simpa using hj))
theorem fnd_at:∀(L:List N) (x:ByteArray) (q:Nat),q<L.length→(∀j,j<q→lt (L.getD j N.zero).i x=true)→lt (L.getD q N.zero).i x=false→fnd L x=((L.getD q N.zero).i.toList==x.toList)
 | [],x,q,hq,_,_=>by simp at hq
 | y::l,x,0,hq,_,h1=>by
  have h2:lt y.i x=false:=by simpa using h1
  rw [fnd,h2,cond_false]
  rfl
 | y::l,x,q+1,hq,h0,h1=>by
  have h2:lt y.i x=true:=by simpa using h0 0 (by omega)
  rw [fnd,h2,cond_true]
  simpa using fnd_at l x q (by simpa using hq) (fun j hj=>by simpa using h0 (j+1) (by omega)) (by simpa using h1)
def SLn (b off cap:Nat) (L:List N) (xi:ByteArray) (xn:Int) (w:World) (e:Ending) (w':World):Prop :=
 (fnd L xi=true∧e=.returned (.tuple #[.slice (some ⟨b,off,none⟩) L.length cap,.bool false])∧Below w.heap.size w w') ∨
 (fnd L xi=false∧(∃v,e=.returned (.tuple #[v,.bool true])∧w'.ownsRow w.heap.size 209 2 v (put L ⟨xi,xn⟩).length (cellsAll N.cells (put L ⟨xi,xn⟩)))∧Below w.heap.size w w')
theorem sline (b off cap:Nat) (L:List N) (xi:ByteArray) (xn:Int) (w:World) (hl:L.length≤1048575) (hcap:L.length≤cap) (hcm:cap≤maxLen) (hT:Lis (some ⟨b,off,none⟩) L w) :
 Calls Tryz.prog 191 #[.slice (some ⟨b,off,none⟩) L.length cap,.agg #[.string xi,.int .i64 xn]] w (SLn b off cap L xi xn w):=by
 obtain ⟨i0,hi,hz0,hz1,hz2⟩:=info_parts infoN
 have HT:=H_ hT
 obtain ⟨len,hlen⟩:∃len,len=L.length:=⟨_,rfl⟩
 have HP:Hid (∀e w',SLn b off cap L xi xn w e w'↔(fnd L xi=true∧e=.returned (.tuple #[.slice (some ⟨b,off,none⟩) len cap,.bool false])∧Below w.heap.size w w')∨(fnd L xi=false∧(∃v,e=.returned (.tuple #[v,.bool true])∧w'.ownsRow w.heap.size 209 2 v (put L ⟨xi,xn⟩).length (cellsAll N.cells (put L ⟨xi,xn⟩)))∧Below w.heap.size w w')):=H_ (fun e w'=>by rw [hlen];rfl)
 rw [←hlen] at hl hcap ⊢
 have HL:=H_ hlen
 have HEND:Hid ((∀j,j<L.length→lt (L.getD j N.zero).i xi=true)→put L ⟨xi,xn⟩=L ++ [⟨xi,xn⟩]∧fnd L xi=false):=H_ (fun h=>⟨ins_end (z:=N.zero) (r:=nlt) (f:=addN) L ⟨xi,xn⟩ h,fnd_end L xi h⟩)
 have HAT:Hid (∀q,q<L.length→(∀j,j<q→lt (L.getD j N.zero).i xi=true)→lt (L.getD q N.zero).i xi=false→(lt xi (L.getD q N.zero).i=true→put L ⟨xi,xn⟩=L.take q++⟨xi,xn⟩::L.drop q)∧fnd L xi=((L.getD q N.zero).i.toList==xi.toList)):=H_ (fun q h1 h2 h3=>⟨(ins_at (z:=N.zero) (r:=nlt) (f:=addN) L ⟨xi,xn⟩ q h1 h2 h3).1,fnd_at L xi q h1 h2 h3⟩)
 generalize SLn b off cap L xi xn w=PP at *
 generalize put L ⟨xi,xn⟩=R at *
 generalize fnd L xi=F at *
 unfold maxLen at hcm
 clear hT hlen
 have HX0:=H_ (BlkW.new w [.string xi,.int .i64 xn] 209)
 have HB0:=H_ (al w (.cells #[.string xi,.int .i64 xn] 209))
 go_enter Tryz.func191,Tryz.ntmps191
 go_wp2_with fail
 go_loopw [6] (fun zv wr=>∃q:Nat,q≤len∧zv=.int .i64 (q:Int)∧Hid (Below w.heap.size w wr)∧Hid (BlkW w.heap.size [.string xi,.int .i64 xn] wr)∧Hid (∀j,j<q→lt (L.getD j N.zero).i xi=true)) (fun zv _=>len-(intOf zv).toNat)
 case atStart=>exact ⟨0,by omega,rfl,HB0,HX0,H_ (fun j hj=>absurd hj (by omega))⟩
 case round =>
  clear HX0 HB0
  obtain ⟨q,hq,rfl,HB,HX,HQ⟩:=hrel
  have c0:=q_ HX.out.1.2 0
  have hwl:=HX.out.1.1
  by_cases hlt1:q<len
  ·have hlt2:(q:Int)<(len:Int):=by omega
   have hqs:q<L.length:=by have:=HL.out;omega
   have HTQ:Hid (∀W,Below w.heap.size w W→b<W.heap.size∧W.cell? ⟨b,off+q*2,none⟩=some (.string (L.getD q N.zero).i)∧W.cell? ⟨b,off+q*2+1,none⟩=some (.int .i64 (L.getD q N.zero).n)):=H_ (fun W hW=>lis_two (HT.out.below hW) q hqs)
   cases hc:lt (L.getD q N.zero).i xi
   ·have HA:=H_ (HAT.out q hqs HQ.out hc)
    have hc1:=hc
    unfold lt at hc1
    generalize L.getD q N.zero=Y at *
    obtain ⟨yi,yn⟩:=Y
    dsimp only at hc1 HA hc HTQ
    obtain ⟨hbl,d0,d1⟩:=HTQ.out wr HB.out
    go_wp2_with fail
    go_quiet (fail)
    obtain ⟨W1,hWn⟩:∃Wn,Wn=wr.drewN nq:=⟨_,rfl⟩
    rw [←hWn]
    have HDW:Hid (Below wr.heap.size wr W1):=H_ (by rw [hWn];exact bdn (Below.refl _ _) _)
    clear hWn
    have HBn:=H_ (HB.out.trans (HDW.out.mono HB.out.size))
    have HXn:=H_ (HX.out.below HDW.out)
    clear HB HX HDW c0 hwl
    have HB:=HBn
    have HX:=HXn
    clear HBn HXn
    have c0:=q_ HX.out.1.2 0
    have hwl:=HX.out.1.1
    clear hbl d0 d1
    obtain ⟨hbl,d0,d1⟩:=HTQ.out W1 HB.out
    by_cases he:yi=xi
    ·have he2:=he.symm
     subst he2
     have he3:(xi.toList==xi.toList)=true:=by simp
     have HF:Hid (F=true):=H_ (HA.out.2.trans he3)
     go_wp2_with fail
     go_quiet (fail)
     obtain ⟨W2,hWn⟩:∃Wn,Wn=W1.drewN nq:=⟨_,rfl⟩
     rw [←hWn]
     have HDW:Hid (Below W1.heap.size W1 W2):=H_ (by rw [hWn];exact bdn (Below.refl _ _) _)
     clear hWn
     have HBn:=H_ (HB.out.trans (HDW.out.mono HB.out.size))
     have HXn:=H_ (HX.out.below HDW.out)
     clear HB HX HDW c0 hwl
     have HB:=HBn
     have HX:=HXn
     clear HBn HXn
     have c0:=q_ HX.out.1.2 0
     have hwl:=HX.out.1.1
     go_wp2_with fail
     try go_ret2
     exact (HP.out _ _).2 (.inl ⟨HF.out,rfl,HB.out⟩)
    ·have hc2:lt xi yi=true:=by
      cases h:lt xi yi
      ·exact absurd (toList_inj (bl_total hc1 (by unfold lt at h;exact h))) he
      ·rfl
     have he3:(yi.toList==xi.toList)=false:=by simpa using fun e=>he (toList_inj e)
     have HF:Hid (F=false):=H_ (HA.out.2.trans he3)
     have HI:Hid (R=L.take q++(⟨xi,xn⟩:N)::L.drop q):=H_ (HA.out.1 hc2)
     clear hc hc2 HA
     go_wp2_with fail
     go_quiet (fail)
     obtain ⟨W2,hWn⟩:∃Wn,Wn=W1.drewN nq:=⟨_,rfl⟩
     rw [←hWn]
     have HDW:Hid (Below W1.heap.size W1 W2):=H_ (by rw [hWn];exact bdn (Below.refl _ _) _)
     clear hWn
     have HBn:=H_ (HB.out.trans (HDW.out.mono HB.out.size))
     have HXn:=H_ (HX.out.below HDW.out)
     clear HB HX HDW c0 hwl
     have HB:=HBn
     have HX:=HXn
     clear HBn HXn
     have c0:=q_ HX.out.1.2 0
     have hwl:=HX.out.1.1
     clear hbl d0 d1
     have HE0:=H_ (own_empty W2 w.heap.size 209 2 HB.out.size)
     have hqc:(q:Int)≤(cap:Int):=by omega
     have hql:(q:Int)≤(len:Int):=by omega
     have HT1:=H_ (HT.out.below (HB.out.trans ((al W2 (.cells #[] 209)).mono HB.out.size)))
     clear c0 hwl
     go_wp2_with (at_builtin;refine wpList_append_own _ rfl _ _ 120 rfl w.heap.size 209 i0 (.agg #[.string ⟨#[]⟩,.int .i64 0]) 2 24 Tryz.underlying120 hi hz0 hz1 hz2 rfl (by decide) _ _ _ rfl HE0.out ⟨b,off,none⟩ q cap (cellsAll N.cells (L.take q)) rfl ?l1 ?d1 ?d2 ?d3 ?d4 (by have:=HB.out.size;simp;omega) ?_)
     case l1=>rw [cellsAll_len N.len,List.length_take];have:=HL.out;omega
     case d1=>exact fun j u hj=>by have h:=rws_sub (i:=0) (n:=q) N.len HT1.out j u (by simpa using hj);first|exact h|(rw [Addr.add_lit,Nat.zero_mul,Nat.add_zero] at h;exact h)
     case d2=>exact lis_one _
     case d3=>unfold maxLen;omega
     case d4=>omega
     intro v1 w6 hown hgrow hne
     have HO6:Hid (w6.ownsRow w.heap.size 209 2 v1 q (cellsAll N.cells (L.take q))):=H_ (by first|exact hown|simpa using hown)
     have HB6:Hid (Below w.heap.size w w6):=H_ ((HB.out.trans ((al W2 (.cells #[] 209)).mono HB.out.size)).grown hgrow (by have:=HB.out.size;simp;omega) (fun c hc=>by have:=HX.out.1.1;simp [Value.ownBlock] at hc;omega))
     have HX6:Hid (BlkW w.heap.size [.string xi,.int .i64 xn] w6):=H_ (blkw_grown (HX.out.below (al W2 (.cells #[] 209))) hgrow (fun e=>by have:=HX.out.1.1;simp [Value.ownBlock] at e;omega))
     clear hown hgrow hne HE0 HT1 HX HB
     have c0:=q_ HX6.out.1.2 0
     have c1:=q_ HX6.out.1.2 1
     have hwl:=HX6.out.1.1
     go_wp2_with (at_builtin;refine wpList_append_own _ rfl _ _ 120 rfl w.heap.size 209 i0 (.agg #[.string ⟨#[]⟩,.int .i64 0]) 2 24 Tryz.underlying120 hi hz0 hz1 hz2 rfl (by decide) _ _ _ rfl (HO6.out.alloc _) ⟨w6.heap.size,0,none⟩ 1 1 (N.cells ⟨xi,xn⟩) rfl rfl (two_cells _ _ _ _) (two_one _) ?d3 ?d4 (by have:=HB6.out.size;simp;omega) ?_)
     case d3=>unfold maxLen;omega
     case d4=>omega
     intro v2 w7 hown hgrow hne
     have HO7:Hid (w7.ownsRow w.heap.size 209 2 v2 (q+1) (cellsAll N.cells (L.take q)++N.cells ⟨xi,xn⟩)):=H_ hown
     have HB7:Hid (Below w.heap.size w w7):=H_ ((HB6.out.trans ((al w6 _).mono HB6.out.size)).grown hgrow (by have:=HB6.out.size;simp;omega) (fun c hc=>(HO6.out.lt c hc).1))
     have HT7:=H_ (HT.out.below HB7.out)
     clear hown hgrow hne c0 c1 hwl
     by_cases hcq:cap=q
     ·obtain rfl:q=len:=by omega
      have hcq2:=hcq.symm
      subst hcq2
      go_wp2_with (at_builtin;refine wpList_append_own _ rfl _ _ 120 rfl w.heap.size 209 i0 (.agg #[.string ⟨#[]⟩,.int .i64 0]) 2 24 Tryz.underlying120 hi hz0 hz1 hz2 rfl (by decide) _ _ _ rfl HO7.out ⟨b,off,none⟩ 0 0 [] rfl rfl (fun _ _ h=>by simp at h) (fun _ h=>by simp at h) (by unfold maxLen;omega) (by omega) HB7.out.size ?_)
      intro v3 w8 hown hgrow hne
      have HO8:Hid (w8.ownsRow w.heap.size 209 2 v3 (L.take q++(⟨xi,xn⟩:N)::L.drop q).length (cellsAll N.cells (L.take q++(⟨xi,xn⟩:N)::L.drop q))):=H_ (by
       rw [ins_cells,ins_len2 _ _ _ (by have:=HL.out;omega),←HL.out]
       rw [List.drop_of_length_le (by have:=HL.out;omega)]
       first|exact hown|simpa [cellsAll] using hown)
      have HB8:Hid (Below w.heap.size w w8):=H_ (HB7.out.grown hgrow HB7.out.size (fun c hc=>(HO7.out.lt c hc).1))
      clear hown hgrow hne
      rw [←HI.out] at HO8
      go_wp2_with fail
      try go_ret2
      exact (HP.out _ _).2 (.inr ⟨HF.out,⟨_,rfl,HO8.out⟩,HB8.out⟩)
     ·go_wp2_with (at_builtin;refine wpList_append_own _ rfl _ _ 120 rfl w.heap.size 209 i0 (.agg #[.string ⟨#[]⟩,.int .i64 0]) 2 24 Tryz.underlying120 hi hz0 hz1 hz2 rfl (by decide) _ _ _ rfl HO7.out ⟨b,off+q*2,none⟩ (len-q) (cap-q) (cellsAll N.cells (L.drop q)) rfl ?l1 ?d5 ?d6 ?d7 ?d8 HB7.out.size ?_)
      case l1=>rw [cellsAll_len N.len,List.length_drop];have:=HL.out;omega
      case d5=>exact fun j u hj=>rws_sub (i:=q) (n:=L.length-q) N.len HT7.out j u (by rw [List.take_of_length_le (by simp)];exact hj)
      case d6=>exact lis_one _
      case d7=>unfold maxLen;omega
      case d8=>omega
      intro v3 w8 hown hgrow hne
      have HO8:Hid (w8.ownsRow w.heap.size 209 2 v3 (L.take q++(⟨xi,xn⟩:N)::L.drop q).length (cellsAll N.cells (L.take q++(⟨xi,xn⟩:N)::L.drop q))):=H_ (by
       rw [ins_cells,ins_len2 _ _ _ (by have:=HL.out;omega),←HL.out]
       rw [show len+1=q+1+(len-q) by omega,List.append_assoc]
       exact hown)
      have HB8:Hid (Below w.heap.size w w8):=H_ (HB7.out.grown hgrow HB7.out.size (fun c hc=>(HO7.out.lt c hc).1))
      clear hown hgrow hne
      rw [←HI.out] at HO8
      go_wp2_with fail
      try go_ret2
      exact (HP.out _ _).2 (.inr ⟨HF.out,⟨_,rfl,HO8.out⟩,HB8.out⟩)
   ·have HQ2:Hid (∀j,j<q+1→lt (L.getD j N.zero).i xi=true):=H_ (fun j hj=>by
     rcases Nat.lt_succ_iff_lt_or_eq.1 hj with h|rfl
     ·exact HQ.out j h
     ·exact hc)
    have hc1:=hc
    unfold lt at hc1
    generalize L.getD q N.zero=Y at *
    obtain ⟨yi,yn⟩:=Y
    dsimp only at hc1 hc HTQ
    obtain ⟨hbl,d0,d1⟩:=HTQ.out wr HB.out
    clear hc
    go_wp2_with fail
    go_quiet (fail)
    obtain ⟨W1,hWn⟩:∃Wn,Wn=wr.drewN nq:=⟨_,rfl⟩
    rw [←hWn]
    have HDW:Hid (Below wr.heap.size wr W1):=H_ (by rw [hWn];exact bdn (Below.refl _ _) _)
    clear hWn
    have HBn:=H_ (HB.out.trans (HDW.out.mono HB.out.size))
    have HXn:=H_ (HX.out.below HDW.out)
    clear HB HX HDW c0 hwl
    have HB:=HBn
    have HX:=HXn
    clear HBn HXn
    have c0:=q_ HX.out.1.2 0
    have hwl:=HX.out.1.1
    go_wp2_with fail
    go_roundw
    case rel=>exact ⟨q+1,by omega,by go_num,HB,HX,HQ2⟩
    case measure=>simp [intOf];omega
  ·have hlt2:¬(q:Int)<(len:Int):=by omega
   have he:q=L.length:=by have:=HL.out;omega
   have HI:Hid (R=L.take q++(⟨xi,xn⟩:N)::L.drop q):=H_ (by rw [(HEND.out (fun j hj=>HQ.out j (by omega))).1,he];simp)
   have HF:Hid (F=false):=H_ (HEND.out (fun j hj=>HQ.out j (by omega))).2
   clear he
   go_wp2_with fail
   go_quiet (fail)
   obtain ⟨W1,hWn⟩:∃Wn,Wn=wr.drewN nq:=⟨_,rfl⟩
   rw [←hWn]
   have HDW:Hid (Below wr.heap.size wr W1):=H_ (by rw [hWn];exact bdn (Below.refl _ _) _)
   clear hWn
   have HBn:=H_ (HB.out.trans (HDW.out.mono HB.out.size))
   have HXn:=H_ (HX.out.below HDW.out)
   clear HB HX HDW c0 hwl
   have HB:=HBn
   have HX:=HXn
   clear HBn HXn
   have c0:=q_ HX.out.1.2 0
   have hwl:=HX.out.1.1
   go_wp2_with fail
   go_quiet (fail)
   obtain ⟨W2,hWn⟩:∃Wn,Wn=W1.drewN nq:=⟨_,rfl⟩
   rw [←hWn]
   have HDW:Hid (Below W1.heap.size W1 W2):=H_ (by rw [hWn];exact bdn (Below.refl _ _) _)
   clear hWn
   have HBn:=H_ (HB.out.trans (HDW.out.mono HB.out.size))
   have HXn:=H_ (HX.out.below HDW.out)
   clear HB HX HDW c0 hwl
   have HB:=HBn
   have HX:=HXn
   clear HBn HXn
   have c0:=q_ HX.out.1.2 0
   have hwl:=HX.out.1.1
   have HE0:=H_ (own_empty W2 w.heap.size 209 2 HB.out.size)
   have hqc:(q:Int)≤(cap:Int):=by omega
   have hql:(q:Int)≤(len:Int):=by omega
   have HT1:=H_ (HT.out.below (HB.out.trans ((al W2 (.cells #[] 209)).mono HB.out.size)))
   clear c0 hwl
   go_wp2_with (at_builtin;refine wpList_append_own _ rfl _ _ 120 rfl w.heap.size 209 i0 (.agg #[.string ⟨#[]⟩,.int .i64 0]) 2 24 Tryz.underlying120 hi hz0 hz1 hz2 rfl (by decide) _ _ _ rfl HE0.out ⟨b,off,none⟩ q cap (cellsAll N.cells (L.take q)) rfl ?l1 ?d1 ?d2 ?d3 ?d4 (by have:=HB.out.size;simp;omega) ?_)
   case l1=>rw [cellsAll_len N.len,List.length_take];have:=HL.out;omega
   case d1=>exact fun j u hj=>by have h:=rws_sub (i:=0) (n:=q) N.len HT1.out j u (by simpa using hj);first|exact h|(rw [Addr.add_lit,Nat.zero_mul,Nat.add_zero] at h;exact h)
   case d2=>exact lis_one _
   case d3=>unfold maxLen;omega
   case d4=>omega
   intro v1 w6 hown hgrow hne
   have HO6:Hid (w6.ownsRow w.heap.size 209 2 v1 q (cellsAll N.cells (L.take q))):=H_ (by first|exact hown|simpa using hown)
   have HB6:Hid (Below w.heap.size w w6):=H_ ((HB.out.trans ((al W2 (.cells #[] 209)).mono HB.out.size)).grown hgrow (by have:=HB.out.size;simp;omega) (fun c hc=>by have:=HX.out.1.1;simp [Value.ownBlock] at hc;omega))
   have HX6:Hid (BlkW w.heap.size [.string xi,.int .i64 xn] w6):=H_ (blkw_grown (HX.out.below (al W2 (.cells #[] 209))) hgrow (fun e=>by have:=HX.out.1.1;simp [Value.ownBlock] at e;omega))
   clear hown hgrow hne HE0 HT1 HX HB
   have c0:=q_ HX6.out.1.2 0
   have c1:=q_ HX6.out.1.2 1
   have hwl:=HX6.out.1.1
   go_wp2_with (at_builtin;refine wpList_append_own _ rfl _ _ 120 rfl w.heap.size 209 i0 (.agg #[.string ⟨#[]⟩,.int .i64 0]) 2 24 Tryz.underlying120 hi hz0 hz1 hz2 rfl (by decide) _ _ _ rfl (HO6.out.alloc _) ⟨w6.heap.size,0,none⟩ 1 1 (N.cells ⟨xi,xn⟩) rfl rfl (two_cells _ _ _ _) (two_one _) ?d3 ?d4 (by have:=HB6.out.size;simp;omega) ?_)
   case d3=>unfold maxLen;omega
   case d4=>omega
   intro v2 w7 hown hgrow hne
   have HO7:Hid (w7.ownsRow w.heap.size 209 2 v2 (q+1) (cellsAll N.cells (L.take q)++N.cells ⟨xi,xn⟩)):=H_ hown
   have HB7:Hid (Below w.heap.size w w7):=H_ ((HB6.out.trans ((al w6 _).mono HB6.out.size)).grown hgrow (by have:=HB6.out.size;simp;omega) (fun c hc=>(HO6.out.lt c hc).1))
   have HT7:=H_ (HT.out.below HB7.out)
   clear hown hgrow hne c0 c1 hwl
   by_cases hcq:cap=q
   ·obtain rfl:q=len:=by omega
    have hcq2:=hcq.symm
    subst hcq2
    go_wp2_with (at_builtin;refine wpList_append_own _ rfl _ _ 120 rfl w.heap.size 209 i0 (.agg #[.string ⟨#[]⟩,.int .i64 0]) 2 24 Tryz.underlying120 hi hz0 hz1 hz2 rfl (by decide) _ _ _ rfl HO7.out ⟨b,off,none⟩ 0 0 [] rfl rfl (fun _ _ h=>by simp at h) (fun _ h=>by simp at h) (by unfold maxLen;omega) (by omega) HB7.out.size ?_)
    intro v3 w8 hown hgrow hne
    have HO8:Hid (w8.ownsRow w.heap.size 209 2 v3 (L.take q++(⟨xi,xn⟩:N)::L.drop q).length (cellsAll N.cells (L.take q++(⟨xi,xn⟩:N)::L.drop q))):=H_ (by
     rw [ins_cells,ins_len2 _ _ _ (by have:=HL.out;omega),←HL.out]
     rw [List.drop_of_length_le (by have:=HL.out;omega)]
     first|exact hown|simpa [cellsAll] using hown)
    have HB8:Hid (Below w.heap.size w w8):=H_ (HB7.out.grown hgrow HB7.out.size (fun c hc=>(HO7.out.lt c hc).1))
    clear hown hgrow hne
    rw [←HI.out] at HO8
    go_wp2_with fail
    try go_ret2
    exact (HP.out _ _).2 (.inr ⟨HF.out,⟨_,rfl,HO8.out⟩,HB8.out⟩)
   ·go_wp2_with (at_builtin;refine wpList_append_own _ rfl _ _ 120 rfl w.heap.size 209 i0 (.agg #[.string ⟨#[]⟩,.int .i64 0]) 2 24 Tryz.underlying120 hi hz0 hz1 hz2 rfl (by decide) _ _ _ rfl HO7.out ⟨b,off+q*2,none⟩ (len-q) (cap-q) (cellsAll N.cells (L.drop q)) rfl ?l1 ?d5 ?d6 ?d7 ?d8 HB7.out.size ?_)
    case l1=>rw [cellsAll_len N.len,List.length_drop];have:=HL.out;omega
    case d5=>exact fun j u hj=>rws_sub (i:=q) (n:=L.length-q) N.len HT7.out j u (by rw [List.take_of_length_le (by simp)];exact hj)
    case d6=>exact lis_one _
    case d7=>unfold maxLen;omega
    case d8=>omega
    intro v3 w8 hown hgrow hne
    have HO8:Hid (w8.ownsRow w.heap.size 209 2 v3 (L.take q++(⟨xi,xn⟩:N)::L.drop q).length (cellsAll N.cells (L.take q++(⟨xi,xn⟩:N)::L.drop q))):=H_ (by
     rw [ins_cells,ins_len2 _ _ _ (by have:=HL.out;omega),←HL.out]
     rw [show len+1=q+1+(len-q) by omega,List.append_assoc]
     exact hown)
    have HB8:Hid (Below w.heap.size w w8):=H_ (HB7.out.grown hgrow HB7.out.size (fun c hc=>(HO7.out.lt c hc).1))
    clear hown hgrow hne
    rw [←HI.out] at HO8
    go_wp2_with fail
    try go_ret2
    exact (HP.out _ _).2 (.inr ⟨HF.out,⟨_,rfl,HO8.out⟩,HB8.out⟩)
end NetR
namespace NetR
open LinR RowG LtR
theorem keyedS:Maps.Keyed Tryz.prog 9:=Maps.string_keyed Tryz.underlying9
theorem zeroI (w:World):(zeroValue 2).run Tryz.prog w=.ok (.int .i64 0) w:=by kernel_rfl
theorem wf_of {x:Int} (h:-9223372036854775808≤x∧x≤9223372036854775807):(Lit.int .i64 x).wf=true:=by
 have h1:IntKind.i64.min=-9223372036854775808:=by decide
 have h2:IntKind.i64.max=9223372036854775807:=by decide
 simp only [Lit.wf,h1,h2,Bool.and_eq_true,decide_eq_true_eq]
 exact h
theorem ri_of {x:Int} (h:-9223372036854775808≤x∧x≤9223372036854775807):(plainElem (H:=Value) Tryz.prog 2) (.int .i64 x)=some (.lit (.int .i64 x),[]):=plainElem_int Tryz.underlying2 (wf_of h)
theorem gtr {w w1 w2:World} {g:Option Nat} (h1:w.grownBy w1 g) (h2:w1.grownBy w2 g):w.grownBy w2 g :=
 ⟨h2.os.trans h1.os,h2.tape.trans h1.tape,h2.output.trans h1.output,Nat.le_trans h1.size h2.size,fun k hk hne=>(h2.block k (by have:=h1.size;omega) hne).trans (h1.block k hk hne)⟩
theorem grefl (w:World) (g:Option Nat):w.grownBy w g:=⟨rfl,rfl,rfl,Nat.le_refl _,fun _ _ _=>rfl⟩
theorem map_cell {P:Program} {k:TypeId} {R:Value→Option (DataW Value × List MemPlace)} {w:World} {b n:Nat} {D:DataW Value} (h:w.ownsMap P k R b n D) (o:Nat):w.cell? ⟨b,o,none⟩=none:=by
 obtain ⟨es,clock,hb,_⟩:=h
 simp [World.cell?,hb]
theorem lis_ne {P:Program} {k:TypeId} {R:Value→Option (DataW Value × List MemPlace)} {w:World} {b n:Nat} {D:DataW Value} (h:w.ownsMap P k R b n D) {ao:Option Addr} {es:List N} (hI:Lis ao es w):es.length=0∨∀b' off,ao=some ⟨b',off,none⟩→some b'≠some b:=by
 rcases Nat.eq_zero_or_pos es.length with h0|h0
 ·exact .inl h0
 ·refine .inr (fun b' off e1 e2=>?_)
  obtain ⟨b2,off2,e3,_,c0,_⟩:=hI.at 0 h0
  rw [e1] at e3
  simp only [Option.some.injEq,Addr.mk.injEq,and_true] at e3 e2
  obtain ⟨rfl,rfl⟩:=e3
  subst e2
  rw [map_cell h] at c0
  cases c0
theorem mul_w {s n:Int} (hs:s=1∨s=-1) (hn:-1000000000000000≤n∧n≤1000000000000000):wrap64 (s*n)=s*n∧-1000000000000000≤s*n∧s*n≤1000000000000000:=by
 rcases hs with rfl|rfl
 ·rw [Int.one_mul];exact ⟨by unfold wrap64;omega,hn⟩
 ·rw [Int.neg_mul,Int.one_mul];exact ⟨by unfold wrap64;omega,by omega,by omega⟩
theorem add_w {a b:Int} (ha:-4000000000000000000≤a∧a≤4000000000000000000) (hb:-1000000000000000≤b∧b≤1000000000000000):wrap64 (a+b)=a+b:=by unfold wrap64;omega
theorem val_bd {L:List N} {B:Int} (hB:0≤B) (h:∀y∈L,-B≤y.n∧y.n≤B) (n:ByteArray):-B≤val L n∧val L n≤B:=by
 induction L with
 | nil=>simp only [val];omega
 | cons y l ih =>
  simp only [val]
  split
  ·exact h y (by simp)
  ·exact ih (fun y hy=>h y (by simp [hy]))
theorem bring_any (ao:Option Addr) (cap:Nat) (es:List N) (s:Int) (b M:Nat) (D:DataW Value) (L:List N) (B:Int) (w:World) (hs:s=1∨s=-1) (hlen:es.length≤400) (hS:∀e∈es,e.i.size≤1048576) (hE:∀e∈es,-1000000000000000≤e.n∧e.n≤1000000000000000)
 (hO:w.ownsMap Tryz.prog 9 (plainElem (H:=Value) Tryz.prog 2) b M D) (hM:M≤1048576) (hN:NetM D L) (hB:0≤B∧B≤3000000000000000000) (hL:∀y∈L,-B≤y.n∧y.n≤B) (hI:Lis ao es w) :
 Calls Tryz.prog 169 #[.map (some b),.slice ao es.length cap,.int .i64 s] w fun e w'=>e=.returned (.tuple #[])∧(∃D',w'.ownsMap Tryz.prog 9 (plainElem (H:=Value) Tryz.prog 2) b (M+es.length) D'∧NetM D' (all L es s))∧(∀y∈all L es s,-(B+es.length*1000000000000000)≤y.n∧y.n≤B+es.length*1000000000000000)∧w.grownBy w' (some b):=by
 have HI:=H_ hI
 have HS:=H_ hS
 have HE:=H_ hE
 have HNE:=H_ (lis_ne hO hI)
 have HO:=H_ hO
 have HN:=H_ hN
 have HL:=H_ hL
 have HSS:=H_ hs
 have HB:=H_ hB
 obtain ⟨len,hl⟩:∃len,len=es.length:=⟨_,rfl⟩
 have HEND:Hid (all L (es.take len) s=all L es s):=H_ (by rw [hl,List.take_length])
 rw [←hl] at hlen ⊢
 have HLn:=H_ hl
 clear hI hS hE hO hN hL hl hs hB
 go_enter Tryz.func169,Tryz.ntmps169
 go_wp2_with fail
 go_loopw [10] (fun z wr=>∃k:Nat,k≤len∧z=.int .i64 k∧Hid (∃D',wr.ownsMap Tryz.prog 9 (plainElem (H:=Value) Tryz.prog 2) b (M+k) D'∧NetM D' (all L (es.take k) s))∧Hid (∀y∈all L (es.take k) s,-(B+k*1000000000000000)≤y.n∧y.n≤B+k*1000000000000000)∧Hid (w.grownBy wr (some b))) (fun z _=>len-(intOf z).toNat)
 case atStart=>exact ⟨0,by omega,rfl,H_ ⟨D,HO.out,by simpa [all] using HN.out⟩,H_ (by simpa [all] using HL.out),H_ (grefl _ _)⟩
 case round =>
  obtain ⟨k,hk,rfl,HD,HBD,HG⟩:=hrel
  by_cases hlt:k<len
  ·have hlt2:(k:Int)<(len:Int):=by omega
   have hkl:k<es.length:=by have:=HLn.out;omega
   obtain ⟨b0,off,rfl,hbl,c0,c1⟩:=Lis.at (Rws.grown HI.out HG.out HNE.out) k hkl
   have hsz:=HS.out _ (getD_mem (z:=N.zero) es k hkl)
   have hnb:=HE.out _ (getD_mem (z:=N.zero) es k hkl)
   have HM1:=H_ (all_more L es s k hkl)
   obtain ⟨D1,hO1,hN1⟩:=HD.out
   have HO1:=H_ hO1
   have HN1:=H_ hN1
   have HB1:Hid (0≤B+(k:Int)*1000000000000000∧B+(k:Int)*1000000000000000≤3500000000000000000):=H_ (by have:=HB.out;omega)
   generalize all L (es.take k) s=L1 at *
   generalize es.getD k N.zero=X at *
   obtain ⟨xi,xn⟩:=X
   dsimp only at c0 c1 hsz hnb HM1
   obtain ⟨hm1,hm2⟩:=mul_w HSS.out hnb
   have HK:=H_ (Go.WideMaps.keyOf_string_mk (P:=Tryz.prog) (k:=9) Tryz.underlying9 (s:=xi) (Nat.le_trans hsz (by unfold maxLen;omega)))
   have HKE:Hid (kS xi=.string xi.data.toList):=rfl
   have hvb:=val_bd HB1.out.1 HBD.out xi
   have HLK:=H_ (HN1.out.look xi)
   have HP:=H_ (HN1.out.put ⟨xi,s*xn⟩)
   have HPB:=H_ (put_bd (x:=⟨xi,s*xn⟩) HB1.out.1 HBD.out (C:=1000000000000000) (by omega) hm2)
   have hw2:=add_w (a:=val L1 xi) (b:=s*xn) (by have:=HB1.out;omega) hm2
   have HV:Hid ((plainElem (H:=Value) Tryz.prog 2) (.int .i64 (val L1 xi+s*xn))=some (.lit (.int .i64 (val L1 xi+s*xn)),[])):=H_ (ri_of (by have:=HB1.out;omega))
   have HOl:=H_ (fun o=>HO1.out.alloc o)
   have HGl:=H_ (fun o=>gtr HG.out (World.grownBy_alloc wr o (some b)))
   dsimp only at HP
   have HM2:Hid (all L (es.take (k+1)) s=put L1 ⟨xi,s*xn⟩):=HM1
   clear HM1 hO1 hN1 HD HBD hvb hm2 hnb
   generalize val L1 xi=V at *
   generalize put L1 ⟨xi,s*xn⟩=L2 at *
   obtain ⟨Y,hY⟩:∃Y,s*xn=Y:=⟨_,rfl⟩
   replace hm1:wrap64 (s*xn)=Y:=hm1.trans hY
   rw [hY] at HP hw2 HV
   replace HV:=H_ (show (plainElem (H:=Value) Tryz.prog 2) (.int .i64 (wrap64 (V+Y)))=some (.lit (.int .i64 (V+Y)),[]) by rw [hw2];exact HV.out)
   clear hY hw2
   rw [←HKE.out] at HK
   generalize kS xi=K0 at *
   clear HKE
   go_wp2_with (first|(at_lookup;go_loud (refine wpList_lookup_own_int _ rfl _ _ 233 rfl 9 2 .i64 keyedS Tryz.underlying233 Tryz.underlying2 (zeroI _) b (M+k) D1 rfl (HOl.out _) _ _ rfl HK.out ?_;intro c hat hwc;obtain rfl:V=c:=(by have h:=HLK.out.symm.trans hat;simpa using h);clear hat hwc))|(at_mapUpdate;go_loud (refine wpList_mapUpdate_own _ rfl _ _ _ 233 rfl 9 2 keyedS Tryz.underlying233 (plainElem (H:=Value) Tryz.prog 2) b (M+k) D1 rfl (HOl.out _) (by unfold maxLen;omega) _ _ _ rfl rfl HK.out (.lit (.int .i64 (V+Y))) [] HV.out ?_;intro w1 hown1 hgrow1)))
   have HO2:=H_ hown1
   have HG2:=H_ (gtr (HGl.out _) hgrow1)
   clear hown1 hgrow1
   go_wp2_with fail
   go_roundw
   case rel=>exact ⟨k+1,by omega,by go_num,H_ ⟨_,HO2.out,by rw [HM2.out];exact HP.out⟩,H_ (by rw [HM2.out];intro y hy;have:=HPB.out y hy;omega),HG2⟩
   case measure=>simp [intOf];omega
  ·have hlt2:¬(k:Int)<(len:Int):=by omega
   obtain rfl:k=len:=by omega
   rw [HEND.out] at HD HBD
   go_wp2_with fail
   go_end0
   exact ⟨rfl,HD.out,HBD.out,HG.out⟩
end NetR
namespace NetR
open LinR RowG LtR
open DocR (BlkW BlkW.new BlkW.below)
theorem own_row_set {w:World} {base e s g n cap j:Nat} {xs:List Value} {u:Value} (h:w.ownsRow base e s (.slice (some ⟨g,0,none⟩) n cap) n xs) (hj:j<xs.length):(w.setCell ⟨g,j,none⟩ u).ownsRow base e s (.slice (some ⟨g,0,none⟩) n cap) n (xs.set j u):=by
 rcases h.2 with ⟨h0,_⟩|⟨g',cap',cur,hv,hb,hh,r1,r2,r3,r4⟩
 ·cases h0
 ·simp only [Value.slice.injEq,Option.some.injEq,Addr.mk.injEq,and_true,true_and] at hv
  obtain ⟨rfl,rfl⟩:=hv
  refine ⟨by simpa using h.1,.inr ⟨g,cap,cur.setIfInBounds j u,rfl,hb,?_,r1,r2,by simpa using r3,?_⟩⟩
  ·simp [World.setCell,Array.getElem?_modify,hh]
  ·rw [Array.toList_setIfInBounds,List.take_set,r4]
theorem cells_set:∀(M:List N) (k:Nat) (m:Int),k<M.length→(cellsAll N.cells M).set (k*2+1) (.int .i64 m)=cellsAll N.cells (M.set k ⟨(M.getD k N.zero).i,m⟩)
 | [],k,m,h=>by simp at h
 | y::l,0,m,h=>by simp [cellsAll,N.cells]
 | y::l,k+1,m,h=>by
  have ih:=cells_set l k m (by simpa using h)
  simp only [cellsAll,List.flatMap_cons,N.cells,List.set_cons_succ,List.getD_cons_succ] at *
  rw [←ih,show (k+1)*2+1=k*2+1+1+1 by omega]
  rfl
def upd (x y:N):N:=if y.i=x.i then ⟨y.i,y.n+x.n⟩ else y
def mix (L:List N) (x:N) (k:Nat):List N:=(L.take k).map (upd x)++L.drop k
theorem mix_len (L:List N) (x:N) (k:Nat):(mix L x k).length=L.length:=by simp [mix];omega
theorem mix_at (L:List N) (x:N) (k:Nat) (h:k<L.length):(mix L x k).getD k N.zero=L.getD k N.zero:=by
 unfold mix
 have hl:((L.take k).map (upd x)).length=k:=by simp;omega
 rw [List.getD,List.getElem?_append_right (by omega),hl,Nat.sub_self,List.getElem?_drop,Nat.add_zero]
 rfl
theorem mix_more (L:List N) (x:N) (k:Nat) (h:k<L.length):mix L x (k+1)=(mix L x k).set k (upd x (L.getD k N.zero)):=by
 unfold mix
 have hl:((L.take k).map (upd x)).length=k:=by simp;omega
 have hd:L.drop k=L.getD k N.zero::L.drop (k+1):=by
  rw [List.drop_eq_getElem_cons h]
  simp [List.getD,h]
 rw [take_more (z:=N.zero) L k h,List.map_append,List.set_append_right _ _ (by omega),hl,Nat.sub_self,hd]
 simp
theorem set_self:∀(M:List N) (k:Nat),k<M.length→M.set k (M.getD k N.zero)=M
 | [],k,h=>by simp at h
 | y::l,0,h=>by simp
 | y::l,k+1,h=>by
  have:=set_self l k (by simpa using h)
  simp only [List.set_cons_succ,List.getD_cons_succ,this]
theorem upd_all:∀{l:List N} {x:N},(∀y∈l,y.i≠x.i)→l.map (upd x)=l
 | [],x,_=>rfl
 | y::l,x,h=>by
  rw [List.map_cons,upd_all (fun y hy=>h y (by simp [hy]))]
  unfold upd
  rw [if_neg (h y (by simp))]
theorem put_map:∀{L:List N} {x:N},Rise L→fnd L x.i=true→put L x=L.map (upd x)
 | [],x,_,h=>by cases h
 | a::l,x,hr,h=>by
  have h0:=List.pairwise_cons.1 hr
  rw [fnd] at h
  unfold put
  rw [ins]
  cases h1:lt a.i x.i
  ·rw [h1,cond_false] at h
   have e:a.i=x.i:=toList_inj (by simpa using h)
   have h2:nlt x a=false:=by unfold nlt;rw [e];exact lt_irrefl _
   rw [if_neg (by unfold nlt;rw [h1];simp),if_neg (by rw [h2];simp),List.map_cons,upd_all (fun y hy e2=>by
    have:=h0.1 y hy
    rw [e2,e,lt_irrefl] at this
    cases this)]
   unfold upd addN
   rw [if_pos e]
  ·rw [h1,cond_true] at h
   have ih:=put_map h0.2 h
   unfold put at ih
   rw [if_pos (show nlt a x=true from h1),ih,List.map_cons]
   unfold upd
   rw [if_neg (fun e=>by rw [e,lt_irrefl] at h1;cases h1)]
theorem mix_end {L:List N} {x:N} (hr:Rise L) (h:fnd L x.i=true):mix L x L.length=put L x:=by
 rw [put_map hr h,mix,List.take_length,List.drop_length,List.append_nil]
def LB (w:World) (b o:Nat) (xi:ByteArray) (xn:Int) (W:World):Prop:=Below w.heap.size w W∧b<W.heap.size∧W.cell? ⟨b,o,none⟩=some (.string xi)∧W.cell? ⟨b,o+1,none⟩=some (.int .i64 xn)
theorem LB.below {w:World} {b o:Nat} {xi:ByteArray} {xn:Int} {W W':World} (h:LB w b o xi xn W) (hb:Below W.heap.size W W'):LB w b o xi xn W':=by
 obtain ⟨h0,hl,p0,p1⟩:=h
 have f:=fun x=>hb.cell (p:=⟨b,x,none⟩) hl
 have hs:=hb.size
 exact ⟨h0.trans (hb.mono h0.size),by omega,(f _).trans p0,(f _).trans p1⟩
def OwnN (w:World) (base:Nat) (v:Value) (L:List N):Prop:=w.ownsRow base 209 2 v L.length (cellsAll N.cells L)∧v≠.slice none 0 0
theorem OwnN.open {w:World} {base:Nat} {v:Value} {L:List N} (h:OwnN w base v L):∃g cap,v=.slice (some ⟨g,0,none⟩) L.length cap∧L.length≤cap∧cap≤maxLen∧base≤g∧g<w.heap.size∧Lis (some ⟨g,0,none⟩) L w:=by
 obtain ⟨h,hn⟩:=h
 obtain ⟨ao,cp,e,hm⟩:=own_made (z:=N.zero) N.len h
 rcases h.2 with ⟨h0,h1⟩|⟨g,cap,cur,hv,hbb,hh,h1,h2,_⟩
 ·exact absurd h0 hn
 ·rw [hv] at e
  simp only [Value.slice.injEq] at e
  obtain ⟨rfl,_,rfl⟩:=e
  exact ⟨g,cap,hv,h1,h2,hbb,(Array.getElem?_eq_some_iff.1 hh).1,hm.rws⟩
theorem OwnN.below {w w':World} {base:Nat} {v:Value} {L:List N} (h:OwnN w base v L) (hb:Below w.heap.size w w'):OwnN w' base v L:=⟨own_below h.1 hb,h.2⟩
theorem lis_pt {w:World} {base g cap:Nat} {L:List N} (h:w.ownsRow base 209 2 (.slice (some ⟨g,0,none⟩) L.length cap) L.length (cellsAll N.cells L)):EvtR.Pt g (L.length*2) w:=by
 obtain ⟨ao,cp,e,hm⟩:=own_made (z:=N.zero) N.len h
 simp only [Value.slice.injEq] at e
 obtain ⟨rfl,_,rfl⟩:=e
 rcases hm.own with h0|⟨g',e,_,hp⟩
 ·rcases h.2 with ⟨h0',_⟩|⟨g2,cap2,cur,hv,_,hh,_⟩
  ·cases h0'
  ·simp only [Value.slice.injEq,Option.some.injEq,Addr.mk.injEq,and_true,true_and] at hv
   obtain ⟨rfl,rfl⟩:=hv
   exact ⟨(Array.getElem?_eq_some_iff.1 hh).1,fun o ho=>by omega,fun o ho=>by omega⟩
 ·simp only [Option.some.injEq,Addr.mk.injEq,and_true] at e
  obtain rfl:=e
  exact hp
end NetR
end Go.Proofs.YtnceeaccbcfopaaGreatDoor
