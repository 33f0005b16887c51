/-
  Lines put among others that rise by their Meters, the numbers of one Meter added; and a map of numbers by Meters, read as such a list. No condition.
  The model's way to put a line among others in its place. The conditions: at most 1048575 lines, in a list that has room for them.
  The program's nets: a map of numbers by Meters, to which lines are added, and of which is asked whether one runs beyond. The conditions: lines of at most 1048576, their Meters of at most 1048576 bytes, the numbers far from running over.
  The model's way to add lines to others. The conditions: at most 400 lines to add to at most 100000 that rise, the numbers far from running over.
  The model's way to add lines to others: spec.l09Add. The conditions: at most 400 lines to add to at most 100000 that rise, the numbers far from running over.
  Lines that are drawn: (*l01Src).l08Some; an account and month: (*l01Src).l09Who. No condition but the source.
-/
import Derived.Maps.OwnSet
import Derived.Sort.KeysCollected
import Derived.Deep.QuietTactic
import Derived.Maps.RangeWalk
import Derived.Maps.OwnOps
import Derived.Carry
import Derived.Deep.RegionHeld3
import Derived.Test.YtcilbmhkhllmjaaGreatDoorF22
namespace Go.Proofs.YtcilbmhkhllmjaaGreatDoor
open Go.ChangeShapes Go.WideShapes Go.ChangeAt Go.RowKit
set_option linter.unusedVariables false
namespace NetR
open LinR RowG LtR
section
variable {α:Type} (r:α→α→Bool) (f:α→α→α)
def ins:List α→α→List α
 | [],y=>[y]
 | x::xs,y=>if r x y then x::ins xs y else if r y x then y::x::xs else f x y::xs
end
section
variable {α:Type} {r:α→α→Bool} {f:α→α→α} {z:α}
theorem ins_end:∀(xs:List α) (y:α),(∀j,j<xs.length→r (xs.getD j z) y=true)→ins r f xs y=xs ++ [y]
 | [],y,_=>rfl
 | x::xs,y,h=>by
  have h0:r x y=true:=by simpa using h 0 (by simp)
  rw [ins,if_pos h0,ins_end xs y (fun j hj=>by simpa using h (j+1) (by simpa using hj))]
  rfl
theorem ins_at:∀(xs:List α) (y:α) (q:Nat),q<xs.length→(∀j,j<q→r (xs.getD j z) y=true)→r (xs.getD q z) y=false →
 (r y (xs.getD q z)=true→ins r f xs y=xs.take q++y::xs.drop q)∧(r y (xs.getD q z)=false→ins r f xs y=xs.take q++f (xs.getD q z) y::xs.drop (q+1))
 | [],y,q,hq,_,_=>by simp at hq
 | x::xs,y,0,hq,_,h1=>by
  have h2:r x y=false:=by simpa using h1
  constructor
  ·intro h3
   have h4:r y x=true:=by simpa using h3
   rw [ins,if_neg (by simp [h2]),if_pos h4]
   rfl
  ·intro h3
   have h4:r y x=false:=by simpa using h3
   rw [ins,if_neg (by simp [h2]),if_neg (by simp [h4])]
   simp
 | x::xs,y,q+1,hq,h0,h1=>by
  have h2:r x y=true:=by simpa using h0 0 (by omega)
  have ih:=ins_at xs y q (by simpa using hq) (fun j hj=>by simpa using h0 (j+1) (by omega)) (by simpa using h1)
  constructor
  ·intro h3
   rw [ins,if_pos h2,ih.1 (by simpa using h3)]
   simp
  ·intro h3
   rw [ins,if_pos h2,ih.2 (by simpa using h3)]
   simp
theorem ins_len:∀(xs:List α) (y:α),(ins r f xs y).length≤xs.length+1
 | [],y=>by simp [ins]
 | x::xs,y=>by
  have:=ins_len xs y
  rw [ins]
  split
  ·simp only [List.length_cons];omega
  ·split<;>simp
theorem ins_all (p:α→Prop) (hf:∀x y,p x→p y→p (f x y)):∀(xs:List α) (y:α),(∀x∈xs,p x)→p y→∀x∈ins r f xs y,p x
 | [],y,_,hy,x,hx=>by simp [ins] at hx;rw [hx];exact hy
 | a::xs,y,h,hy,x,hx=>by
  have h1:=h a (by simp)
  have h2:=ins_all p hf xs y (fun x hx=>h x (by simp [hx])) hy
  rw [ins] at hx
  split at hx
  ·rcases List.mem_cons.1 hx with rfl|hx
   ·exact h1
   ·exact h2 x hx
  ·split at hx
   ·rcases List.mem_cons.1 hx with rfl|hx
    ·exact hy
    ·exact h x hx
   ·rcases List.mem_cons.1 hx with rfl|hx
    ·exact hf _ _ h1 hy
    ·exact h x (by simp [hx])
end
def nlt (x y:N):Bool:=lt x.i y.i
def addN (x y:N):N:=⟨x.i,x.n+y.n⟩
def put (L:List N) (x:N):List N:=ins nlt addN L x
def Rise (L:List N):Prop:=L.Pairwise (fun x y=>lt x.i y.i=true)
def sg (s:Int) (x:N):N:=⟨x.i,s*x.n⟩
def all (L b:List N) (s:Int):List N:=b.foldl (fun l x=>put l (sg s x)) L
theorem neq_of {x y:N} (h1:nlt x y=false) (h2:nlt y x=false):x.i=y.i:=lt_total h1 h2
def val:List N→ByteArray→Int
 | [],_=>0
 | y::l,n=>if y.i=n then y.n else val l n
theorem val_none:∀{L:List N} {n:ByteArray},(∀y∈L,y.i≠n)→val L n=0
 | [],_,_=>rfl
 | y::l,n,h=>by
  rw [val,if_neg (h y (by simp))]
  exact val_none (fun y hy=>h y (by simp [hy]))
theorem val_mem:∀{L:List N},Rise L→∀y∈L,val L y.i=y.n
 | [],_,y,h=>by cases h
 | x::l,hr,y,h=>by
  rw [val]
  rcases List.mem_cons.1 h with rfl|h
  ·rw [if_pos rfl]
  ·have h1:=(List.pairwise_cons.1 hr).1 y h
   have h2:x.i≠y.i:=fun e=>by rw [e,lt_irrefl] at h1;cases h1
   rw [if_neg h2]
   exact val_mem (List.pairwise_cons.1 hr).2 y h
theorem mem_put:∀{L:List N} {x:N} {n:ByteArray},(∃y∈put L x,y.i=n)↔(n=x.i∨∃y∈L,y.i=n)
 | [],x,n=>by simp [put,ins];exact eq_comm
 | a::l,x,n=>by
  have ih:=mem_put (L:=l) (x:=x) (n:=n)
  unfold put at *
  rw [ins]
  split
  ·simp only [List.mem_cons,exists_eq_or_imp,ih]
   constructor
   ·rintro (h|h|h)
    ·exact .inr (.inl h)
    ·exact .inl h
    ·exact .inr (.inr h)
   ·rintro (h|h|h)
    ·exact .inr (.inl h)
    ·exact .inl h
    ·exact .inr (.inr h)
  ·rename_i h1
   split
   ·simp only [List.mem_cons,exists_eq_or_imp]
    constructor
    ·rintro (h|h|h)
     ·exact .inl h.symm
     ·exact .inr (.inl h)
     ·exact .inr (.inr h)
    ·rintro (h|h|h)
     ·exact .inl h.symm
     ·exact .inr (.inl h)
     ·exact .inr (.inr h)
   ·rename_i h2
    have e:=neq_of (by simpa using h1) (by simpa using h2)
    simp only [List.mem_cons,exists_eq_or_imp]
    constructor
    ·rintro (h|h)
     ·exact .inl (by rw [←e];exact h.symm)
     ·exact .inr (.inr h)
    ·rintro (h|h|h)
     ·exact .inl (by rw [h];exact e)
     ·exact .inl h
     ·exact .inr h
theorem rise_put:∀{L:List N} (x:N),Rise L→Rise (put L x)
 | [],x,_=>by simp [put,ins,Rise]
 | a::l,x,hr=>by
  have h0:=List.pairwise_cons.1 hr
  have ih:=rise_put x h0.2
  have hm:=fun n=>mem_put (L:=l) (x:=x) (n:=n)
  unfold put Rise at *
  rw [ins]
  split
  ·rename_i h1
   refine List.pairwise_cons.2 ⟨fun y hy=>?_,ih⟩
   rcases (hm y.i).1 ⟨y,hy,rfl⟩ with e|⟨z,hz,e⟩
   ·rw [e];exact h1
   ·rw [←e];exact h0.1 z hz
  ·rename_i h1
   split
   ·rename_i h2
    refine List.pairwise_cons.2 ⟨fun y hy=>?_,hr⟩
    rcases List.mem_cons.1 hy with rfl|hy
    ·exact h2
    ·exact lt_trans h2 (h0.1 y hy)
   ·exact List.pairwise_cons.2 ⟨fun y hy=>h0.1 y hy,h0.2⟩
theorem val_put:∀{L:List N} (x:N),Rise L→∀n,val (put L x) n=if n=x.i then val L n+x.n else val L n
 | [],x,_,n=>by
  simp only [put,ins,val]
  by_cases h:n=x.i
  ·rw [if_pos h,if_pos h.symm];omega
  ·rw [if_neg h,if_neg (fun e=>h e.symm)]
 | a::l,x,hr,n=>by
  have h0:=List.pairwise_cons.1 hr
  have ih:=val_put x h0.2 n
  unfold put at *
  rw [ins]
  split
  ·rename_i h1
   have hne:a.i≠x.i:=fun e=>by unfold nlt at h1;rw [e,lt_irrefl] at h1;cases h1
   simp only [val,ih]
   by_cases ha:a.i=n
   ·rw [if_pos ha,if_neg (fun e=>hne (ha.trans e)),if_pos ha]
   ·rw [if_neg ha,if_neg ha]
  ·rename_i h1
   split
   ·rename_i h2
    simp only [val]
    by_cases hx:n=x.i
    ·subst hx
     have hn:∀y∈a::l,y.i≠x.i:=by
      intro y hy e
      rcases List.mem_cons.1 hy with rfl|hy
      ·unfold nlt at h2;rw [e,lt_irrefl] at h2;cases h2
      ·have:=lt_trans h2 (h0.1 y hy)
       rw [e,lt_irrefl] at this;cases this
     have hv:=val_none hn
     simp only [val] at hv
     rw [if_pos rfl,if_pos rfl,hv];omega
    ·rw [if_neg (fun e=>hx e.symm),if_neg hx]
   ·rename_i h2
    have e:=neq_of (by simpa using h1) (by simpa using h2)
    show (if a.i=n then a.n+x.n else val l n)=if n=x.i then (if a.i=n then a.n else val l n)+x.n else (if a.i=n then a.n else val l n)
    by_cases ha:a.i=n
    ·rw [if_pos ha,if_pos ha,if_pos (ha.symm.trans e)]
    ·rw [if_neg ha,if_neg ha,if_neg (fun h=>ha (e.trans h.symm))]
theorem put_len (L:List N) (x:N):(put L x).length≤L.length+1:=ins_len L x
theorem all_i (p:ByteArray→Prop) {L:List N} (b:List N) (s:Int) (hL:∀y∈L,p y.i) (hb:∀y∈b,p y.i):∀y∈all L b s,p y.i:=by
 unfold all
 induction b generalizing L with
 | nil=>exact hL
 | cons x b ih =>
  have h1:∀y∈put L (sg s x),p y.i:=ins_all (r:=nlt) (f:=addN) (fun y:N=>p y.i) (fun _ _ h _=>h) L (sg s x) hL (hb x (by simp))
  exact ih h1 (fun y hy=>hb y (by simp [hy]))
def kS (n:ByteArray):Lit:=.string n.data.toList
theorem kS_inj {a b:ByteArray} (h:kS a=kS b):a=b:=by
 unfold kS at h
 simp only [Lit.string.injEq] at h
 exact ByteArray.ext (Array.ext' h)
theorem kS_key (n:ByteArray):WideAt.IsKeyLit (kS n):=by
 unfold kS
 first|trivial|exact rfl|(simp [WideAt.IsKeyLit])
structure NetM (D:DataW Value) (L:List N):Prop where
 is:Maps.IsMap D
 rise:Rise L
 has:∀n,Maps.has D (kS n)=true↔∃y∈L,y.i=n
 nat:∀y∈L,∀z,D.atKey (kS y.i) z=.lit (.int .i64 y.n)
theorem NetM.put {D:DataW Value} {L:List N} (h:NetM D L) (x:N):NetM (D.put (kS x.i) (.lit (.int .i64 (val L x.i+x.n)))) (put L x):=by
 refine ⟨h.is.put _ _,rise_put x h.rise,fun n=>?_,fun y hy z=>?_⟩
 ·rw [mem_put]
  by_cases e:n=x.i
  ·subst e
   rw [Maps.has_put_same h.is (kS_key _)]
   exact ⟨fun _=>.inl rfl,fun _=>rfl⟩
  ·rw [Maps.has_put_other (fun q=>e (kS_inj q)),h.has n]
   exact ⟨fun q=>.inr q,fun q=>q.resolve_left e⟩
 ·have hv:=val_put x h.rise y.i
  rw [val_mem (rise_put x h.rise) y hy] at hv
  by_cases e:y.i=x.i
  ·rw [if_pos e] at hv
   rw [e,Maps.atKey_put_same h.is (kS_key _),hv,e]
  ·rw [if_neg e] at hv
   rw [Maps.atKey_put_other (fun q=>e (kS_inj q))]
   rcases mem_put.1 ⟨y,hy,rfl⟩ with h1|⟨q,hq,h1⟩
   ·exact absurd h1 e
   ·rw [←h1,h.nat q hq,hv,←h1,val_mem h.rise q hq]
theorem NetM.key {D:DataW Value} {L:List N} (h:NetM D L) {kl:Lit} (hs:∃x,kl=.string x) (hh:Maps.has D kl=true):∃y∈L,kS y.i=kl:=by
 obtain ⟨x,rfl⟩:=hs
 have e:(Lit.string x)=kS ⟨x.toArray⟩:=by simp [kS]
 rw [e] at hh ⊢
 obtain ⟨y,hy,h1⟩:=(h.has _).1 hh
 exact ⟨y,hy,by rw [h1]⟩
end NetR
end Go.Proofs.YtcilbmhkhllmjaaGreatDoor
namespace Go.Proofs.YtcilbmhkhllmjaaGreatDoor
open Go.ChangeShapes Go.WideShapes Go.ChangeAt Go.RowKit
set_option linter.unusedVariables false
namespace NetR
open LinR RowG LtR
open DocR (BlkW BlkW.new BlkW.below)
theorem al (w:World) (o:Obj):Below w.heap.size w (w.alloc o):=(Below.refl _ _).alloc (Nat.le_refl _) _
theorem rws_sub {α:Type} {k:Nat} {cells:α→List Value} {z:α} {b off i n:Nat} {xs:List α} {w:World} (hk:∀x,(cells x).length=k) (h:Rws k cells z (some ⟨b,off,none⟩) xs w):∀j u,(cellsAll cells ((xs.drop i).take n))[j]? = some u→w.cell? ((⟨b,off+i*k,none⟩:Addr).add j)=some u:=by
 intro j u hj
 have hlt:=(List.getElem?_eq_some_iff.1 hj).1
 rw [cellsAll_len hk] at hlt
 have hk0:0<k:=by
  rcases Nat.eq_zero_or_pos k with e|e
  ·rw [e,Nat.mul_zero] at hlt;omega
  ·exact e
 obtain ⟨d,r,rfl,hr⟩:∃d r,j=d*k+r∧r<k:=⟨j / k,j % k,by rw [Nat.mul_comm];exact (Nat.div_add_mod j k).symm,Nat.mod_lt _ hk0⟩
 have hi:d<((xs.drop i).take n).length:=Nat.lt_of_mul_lt_mul_right (a:=k) (Nat.lt_of_le_of_lt (Nat.le_add_right _ _) hlt)
 have hi2:i+d<xs.length:=by simp at hi;omega
 have hn:d<n:=by simp at hi;omega
 have eg:((xs.drop i).take n).getD d z=xs.getD (i+d) z:=by simp [List.getD,hn]
 rw [cellsAll_get (z:=z) hk _ d r hi hr,eg] at hj
 rcases h with h0|⟨b',off',he,_,hc⟩
 ·omega
 ·simp only [Option.some.injEq,Addr.mk.injEq,and_true] at he
  obtain ⟨rfl,rfl⟩:=he
  have:=hc (i+d) hi2 r hr
  rw [Addr.add_lit,show off+i*k+(d*k+r)=off+(i+d)*k+r by rw [Nat.add_mul];omega,this]
  exact hj
theorem ins_cells {α:Type} {cells:α→List Value} (a:List α) (x:α) (b:List α):cellsAll cells (a++x::b)=cellsAll cells a++cells x++cellsAll cells b:=by simp [cellsAll]
theorem ins_len2 {α:Type} (ts:List α) (q:Nat) (t:α) (h:q≤ts.length):(ts.take q++t::ts.drop q).length=ts.length+1:=by simp;omega
theorem lis_one (L:List N):∀v∈cellsAll N.cells L,v.oneCell'=true:=by
 intro v hv
 simp only [cellsAll,List.mem_flatMap] at hv
 obtain ⟨x,_,h⟩:=hv
 exact two_one x v h
theorem bdn {B:Nat} {a w:World} (h:Below B a w) (n:Nat):Below B a (w.drewN n):=⟨h.os,h.tape,h.output,h.size,h.block⟩
theorem blkw_grown {b:Nat} {cs:List Value} {w w':World} {row:Option Nat} (h:BlkW b cs w) (hg:w.grownBy w' row) (hne:some b≠row):BlkW b cs w':=by
 have e:=hg.block b h.1.1 hne
 exact ⟨⟨by have:=hg.size;have:=h.1.1;omega,fun i hi=>(World.cell?_of_block (a:=⟨b,i,none⟩) e).trans (h.1.2 i hi)⟩,fun i hi=>(World.frozen?_of_block (a:=⟨b,i,none⟩) e).trans (h.2 i hi)⟩
theorem lis_two {b off:Nat} {L:List N} {w:World} (h:Lis (some ⟨b,off,none⟩) L w) (q:Nat) (hq:q<L.length):b<w.heap.size∧w.cell? ⟨b,off+q*2,none⟩=some (.string (L.getD q N.zero).i)∧w.cell? ⟨b,off+q*2+1,none⟩=some (.int .i64 (L.getD q N.zero).n):=by
 obtain ⟨b',off',e,hl,c0,c1⟩:=h.at q hq
 simp only [Option.some.injEq,Addr.mk.injEq,and_true] at e
 obtain ⟨rfl,rfl⟩:=e
 exact ⟨hl,c0,c1⟩
def fnd:List N→ByteArray→Bool
 | [],_=>false
 | y::l,x=>bif lt y.i x then fnd l x else y.i.toList==x.toList
theorem fnd_end:∀(L:List N) (x:ByteArray),(∀j,j<L.length→lt (L.getD j N.zero).i x=true)→fnd L x=false
 | [],x,_=>rfl
 | y::l,x,h=>by
  have h0:lt y.i x=true:=by simpa using h 0 (by simp)
  rw [fnd,h0,cond_true]
  exact fnd_end l x (fun j hj=>by simpa using h (j+1) (by simpa using hj))
theorem fnd_at:∀(L:List N) (x:ByteArray) (q:Nat),q<L.length→(∀j,j<q→lt (L.getD j N.zero).i x=true)→lt (L.getD q N.zero).i x=false→fnd L x=((L.getD q N.zero).i.toList==x.toList)
 | [],x,q,hq,_,_=>by simp at hq
 | y::l,x,0,hq,_,h1=>by
  have h2:lt y.i x=false:=by simpa using h1
  rw [fnd,h2,cond_false]
  rfl
 | y::l,x,q+1,hq,h0,h1=>by
  have h2:lt y.i x=true:=by simpa using h0 0 (by omega)
  rw [fnd,h2,cond_true]
  simpa using fnd_at l x q (by simpa using hq) (fun j hj=>by simpa using h0 (j+1) (by omega)) (by simpa using h1)
def SLn (b off cap:Nat) (L:List N) (xi:ByteArray) (xn:Int) (w:World) (e:Ending) (w':World):Prop :=
 (fnd L xi=true∧e=.returned (.tuple #[.slice (some ⟨b,off,none⟩) L.length cap,.bool false])∧Below w.heap.size w w') ∨
 (fnd L xi=false∧(∃v,e=.returned (.tuple #[v,.bool true])∧w'.ownsRow w.heap.size 58 2 v (put L ⟨xi,xn⟩).length (cellsAll N.cells (put L ⟨xi,xn⟩)))∧Below w.heap.size w w')
set_option maxRecDepth 100000 in
set_option maxHeartbeats 8000000 in
theorem sline (b off cap:Nat) (L:List N) (xi:ByteArray) (xn:Int) (w:World) (hl:L.length≤1048575) (hcap:L.length≤cap) (hcm:cap≤maxLen) (hT:Lis (some ⟨b,off,none⟩) L w) :
 Calls Tryz.prog 82 #[.slice (some ⟨b,off,none⟩) L.length cap,.agg #[.string xi,.int .i64 xn]] w (SLn b off cap L xi xn w):=by
 obtain ⟨i0,hi,hz0,hz1,hz2⟩:=info_parts infoN
 have HT:=H_ hT
 obtain ⟨len,hlen⟩:∃len,len=L.length:=⟨_,rfl⟩
 have HP:Hid (∀e w',SLn b off cap L xi xn w e w'↔(fnd L xi=true∧e=.returned (.tuple #[.slice (some ⟨b,off,none⟩) len cap,.bool false])∧Below w.heap.size w w')∨(fnd L xi=false∧(∃v,e=.returned (.tuple #[v,.bool true])∧w'.ownsRow w.heap.size 58 2 v (put L ⟨xi,xn⟩).length (cellsAll N.cells (put L ⟨xi,xn⟩)))∧Below w.heap.size w w')):=H_ (fun e w'=>by rw [hlen];rfl)
 rw [←hlen] at hl hcap ⊢
 have HL:=H_ hlen
 have HEND:Hid ((∀j,j<L.length→lt (L.getD j N.zero).i xi=true)→put L ⟨xi,xn⟩=L ++ [⟨xi,xn⟩]∧fnd L xi=false):=H_ (fun h=>⟨ins_end (z:=N.zero) (r:=nlt) (f:=addN) L ⟨xi,xn⟩ h,fnd_end L xi h⟩)
 have HAT:Hid (∀q,q<L.length→(∀j,j<q→lt (L.getD j N.zero).i xi=true)→lt (L.getD q N.zero).i xi=false→(lt xi (L.getD q N.zero).i=true→put L ⟨xi,xn⟩=L.take q++⟨xi,xn⟩::L.drop q)∧fnd L xi=((L.getD q N.zero).i.toList==xi.toList)):=H_ (fun q h1 h2 h3=>⟨(ins_at (z:=N.zero) (r:=nlt) (f:=addN) L ⟨xi,xn⟩ q h1 h2 h3).1,fnd_at L xi q h1 h2 h3⟩)
 generalize SLn b off cap L xi xn w=PP at *
 generalize put L ⟨xi,xn⟩=R at *
 generalize fnd L xi=F at *
 unfold maxLen at hcm
 clear hT hlen
 have HX0:=H_ (BlkW.new w [.string xi,.int .i64 xn] 58)
 have HB0:=H_ (al w (.cells #[.string xi,.int .i64 xn] 58))
 go_enter Tryz.func82,Tryz.ntmps82
 go_wp2_with fail
 go_loopw [6] (fun zv wr=>∃q:Nat,q≤len∧zv=.int .i64 (q:Int)∧Hid (Below w.heap.size w wr)∧Hid (BlkW w.heap.size [.string xi,.int .i64 xn] wr)∧Hid (∀j,j<q→lt (L.getD j N.zero).i xi=true)) (fun zv _=>len-(intOf zv).toNat)
 case atStart=>exact ⟨0,by omega,rfl,HB0,HX0,H_ (fun j hj=>absurd hj (by omega))⟩
 case round =>
  clear HX0 HB0
  obtain ⟨q,hq,rfl,HB,HX,HQ⟩:=hrel
  have c0:wr.cell? ⟨w.heap.size,0,none⟩=some (.string xi):=HX.out.1.2 0 (by simp)
  have hwl:=HX.out.1.1
  by_cases hlt1:q<len
  ·have hlt2:(q:Int)<(len:Int):=by omega
   have hqs:q<L.length:=by have:=HL.out;omega
   have HTQ:Hid (∀W,Below w.heap.size w W→b<W.heap.size∧W.cell? ⟨b,off+q*2,none⟩=some (.string (L.getD q N.zero).i)∧W.cell? ⟨b,off+q*2+1,none⟩=some (.int .i64 (L.getD q N.zero).n)):=H_ (fun W hW=>lis_two (HT.out.below hW) q hqs)
   cases hc:lt (L.getD q N.zero).i xi
   ·have HA:=H_ (HAT.out q hqs HQ.out hc)
    have hc1:=hc
    unfold lt at hc1
    generalize L.getD q N.zero=Y at *
    obtain ⟨yi,yn⟩:=Y
    dsimp only at hc1 HA hc HTQ
    obtain ⟨hbl,d0,d1⟩:=HTQ.out wr HB.out
    go_wp2_with fail
    go_quiet (fail)
    obtain ⟨W1,hWn⟩:∃Wn,Wn=wr.drewN nq:=⟨_,rfl⟩
    rw [←hWn]
    have HDW:Hid (Below wr.heap.size wr W1):=H_ (by rw [hWn];exact bdn (Below.refl _ _) _)
    clear hWn
    have HBn:=H_ (HB.out.trans (HDW.out.mono HB.out.size))
    have HXn:=H_ (HX.out.below HDW.out)
    clear HB HX HDW c0 hwl
    have HB:=HBn
    have HX:=HXn
    clear HBn HXn
    have c0:W1.cell? ⟨w.heap.size,0,none⟩=some (.string xi):=HX.out.1.2 0 (by simp)
    have hwl:=HX.out.1.1
    clear hbl d0 d1
    obtain ⟨hbl,d0,d1⟩:=HTQ.out W1 HB.out
    by_cases he:yi=xi
    ·have he2:=he.symm
     subst he2
     have he3:(xi.toList==xi.toList)=true:=by simp
     have HF:Hid (F=true):=H_ (HA.out.2.trans he3)
     go_wp2_with fail
     go_quiet (fail)
     obtain ⟨W2,hWn⟩:∃Wn,Wn=W1.drewN nq:=⟨_,rfl⟩
     rw [←hWn]
     have HDW:Hid (Below W1.heap.size W1 W2):=H_ (by rw [hWn];exact bdn (Below.refl _ _) _)
     clear hWn
     have HBn:=H_ (HB.out.trans (HDW.out.mono HB.out.size))
     have HXn:=H_ (HX.out.below HDW.out)
     clear HB HX HDW c0 hwl
     have HB:=HBn
     have HX:=HXn
     clear HBn HXn
     have c0:W2.cell? ⟨w.heap.size,0,none⟩=some (.string xi):=HX.out.1.2 0 (by simp)
     have hwl:=HX.out.1.1
     go_wp2_with fail
     try go_ret2
     exact (HP.out _ _).2 (.inl ⟨HF.out,rfl,HB.out⟩)
    ·have hc2:lt xi yi=true:=by
      cases h:lt xi yi
      ·exact absurd (toList_inj (bl_total hc1 (by unfold lt at h;exact h))) he
      ·rfl
     have he3:(yi.toList==xi.toList)=false:=by simpa using fun e=>he (toList_inj e)
     have HF:Hid (F=false):=H_ (HA.out.2.trans he3)
     have HI:Hid (R=L.take q++(⟨xi,xn⟩:N)::L.drop q):=H_ (HA.out.1 hc2)
     clear hc hc2 HA
     go_wp2_with fail
     go_quiet (fail)
     obtain ⟨W2,hWn⟩:∃Wn,Wn=W1.drewN nq:=⟨_,rfl⟩
     rw [←hWn]
     have HDW:Hid (Below W1.heap.size W1 W2):=H_ (by rw [hWn];exact bdn (Below.refl _ _) _)
     clear hWn
     have HBn:=H_ (HB.out.trans (HDW.out.mono HB.out.size))
     have HXn:=H_ (HX.out.below HDW.out)
     clear HB HX HDW c0 hwl
     have HB:=HBn
     have HX:=HXn
     clear HBn HXn
     have c0:W2.cell? ⟨w.heap.size,0,none⟩=some (.string xi):=HX.out.1.2 0 (by simp)
     have hwl:=HX.out.1.1
     clear hbl d0 d1
     have HE0:=H_ (own_empty W2 w.heap.size 58 2 HB.out.size)
     have hqc:(q:Int)≤(cap:Int):=by omega
     have hql:(q:Int)≤(len:Int):=by omega
     have HT1:=H_ (HT.out.below (HB.out.trans ((al W2 (.cells #[] 58)).mono HB.out.size)))
     clear c0 hwl
     go_wp2_with (at_builtin;refine wpList_append_own _ rfl _ _ 29 rfl w.heap.size 58 i0 (.agg #[.string ⟨#[]⟩,.int .i64 0]) 2 24 Tryz.underlying29 hi hz0 hz1 hz2 rfl (by decide) _ _ _ rfl HE0.out ⟨b,off,none⟩ q cap (cellsAll N.cells (L.take q)) rfl ?l1 ?d1 ?d2 ?d3 ?d4 (by have:=HB.out.size;simp;omega) ?_)
     case l1=>rw [cellsAll_len N.len,List.length_take];have:=HL.out;omega
     case d1=>exact fun j u hj=>by have h:=rws_sub (i:=0) (n:=q) N.len HT1.out j u (by simpa using hj);first|exact h|(rw [Addr.add_lit,Nat.zero_mul,Nat.add_zero] at h;exact h)
     case d2=>exact lis_one _
     case d3=>unfold maxLen;omega
     case d4=>omega
     intro v1 w6 hown hgrow hne
     have HO6:Hid (w6.ownsRow w.heap.size 58 2 v1 q (cellsAll N.cells (L.take q))):=H_ (by first|exact hown|simpa using hown)
     have HB6:Hid (Below w.heap.size w w6):=H_ ((HB.out.trans ((al W2 (.cells #[] 58)).mono HB.out.size)).grown hgrow (by have:=HB.out.size;simp;omega) (fun c hc=>by have:=HX.out.1.1;simp [Value.ownBlock] at hc;omega))
     have HX6:Hid (BlkW w.heap.size [.string xi,.int .i64 xn] w6):=H_ (blkw_grown (HX.out.below (al W2 (.cells #[] 58))) hgrow (fun e=>by have:=HX.out.1.1;simp [Value.ownBlock] at e;omega))
     clear hown hgrow hne HE0 HT1 HX HB
     have c0:w6.cell? ⟨w.heap.size,0,none⟩=some (.string xi):=HX6.out.1.2 0 (by simp)
     have c1:w6.cell? ⟨w.heap.size,1,none⟩=some (.int .i64 xn):=HX6.out.1.2 1 (by simp)
     have hwl:=HX6.out.1.1
     go_wp2_with (at_builtin;refine wpList_append_own _ rfl _ _ 29 rfl w.heap.size 58 i0 (.agg #[.string ⟨#[]⟩,.int .i64 0]) 2 24 Tryz.underlying29 hi hz0 hz1 hz2 rfl (by decide) _ _ _ rfl (HO6.out.alloc _) ⟨w6.heap.size,0,none⟩ 1 1 (N.cells ⟨xi,xn⟩) rfl rfl (two_cells _ _ _ _) (two_one _) ?d3 ?d4 (by have:=HB6.out.size;simp;omega) ?_)
     case d3=>unfold maxLen;omega
     case d4=>omega
     intro v2 w7 hown hgrow hne
     have HO7:Hid (w7.ownsRow w.heap.size 58 2 v2 (q+1) (cellsAll N.cells (L.take q)++N.cells ⟨xi,xn⟩)):=H_ hown
     have HB7:Hid (Below w.heap.size w w7):=H_ ((HB6.out.trans ((al w6 _).mono HB6.out.size)).grown hgrow (by have:=HB6.out.size;simp;omega) (fun c hc=>(HO6.out.lt c hc).1))
     have HT7:=H_ (HT.out.below HB7.out)
     clear hown hgrow hne c0 c1 hwl
     by_cases hcq:cap=q
     ·obtain rfl:q=len:=by omega
      have hcq2:=hcq.symm
      subst hcq2
      go_wp2_with (at_builtin;refine wpList_append_own _ rfl _ _ 29 rfl w.heap.size 58 i0 (.agg #[.string ⟨#[]⟩,.int .i64 0]) 2 24 Tryz.underlying29 hi hz0 hz1 hz2 rfl (by decide) _ _ _ rfl HO7.out ⟨b,off,none⟩ 0 0 [] rfl rfl (fun _ _ h=>by simp at h) (fun _ h=>by simp at h) (by unfold maxLen;omega) (by omega) HB7.out.size ?_)
      intro v3 w8 hown hgrow hne
      have HO8:Hid (w8.ownsRow w.heap.size 58 2 v3 (L.take q++(⟨xi,xn⟩:N)::L.drop q).length (cellsAll N.cells (L.take q++(⟨xi,xn⟩:N)::L.drop q))):=H_ (by
       rw [ins_cells,ins_len2 _ _ _ (by have:=HL.out;omega),←HL.out]
       rw [List.drop_of_length_le (by have:=HL.out;omega)]
       first|exact hown|simpa [cellsAll] using hown)
      have HB8:Hid (Below w.heap.size w w8):=H_ (HB7.out.grown hgrow HB7.out.size (fun c hc=>(HO7.out.lt c hc).1))
      clear hown hgrow hne
      rw [←HI.out] at HO8
      go_wp2_with fail
      try go_ret2
      exact (HP.out _ _).2 (.inr ⟨HF.out,⟨_,rfl,HO8.out⟩,HB8.out⟩)
     ·go_wp2_with (at_builtin;refine wpList_append_own _ rfl _ _ 29 rfl w.heap.size 58 i0 (.agg #[.string ⟨#[]⟩,.int .i64 0]) 2 24 Tryz.underlying29 hi hz0 hz1 hz2 rfl (by decide) _ _ _ rfl HO7.out ⟨b,off+q*2,none⟩ (len-q) (cap-q) (cellsAll N.cells (L.drop q)) rfl ?l1 ?d5 ?d6 ?d7 ?d8 HB7.out.size ?_)
      case l1=>rw [cellsAll_len N.len,List.length_drop];have:=HL.out;omega
      case d5=>exact fun j u hj=>rws_sub (i:=q) (n:=L.length-q) N.len HT7.out j u (by rw [List.take_of_length_le (by simp)];exact hj)
      case d6=>exact lis_one _
      case d7=>unfold maxLen;omega
      case d8=>omega
      intro v3 w8 hown hgrow hne
      have HO8:Hid (w8.ownsRow w.heap.size 58 2 v3 (L.take q++(⟨xi,xn⟩:N)::L.drop q).length (cellsAll N.cells (L.take q++(⟨xi,xn⟩:N)::L.drop q))):=H_ (by
       rw [ins_cells,ins_len2 _ _ _ (by have:=HL.out;omega),←HL.out]
       rw [show len+1=q+1+(len-q) by omega,List.append_assoc]
       exact hown)
      have HB8:Hid (Below w.heap.size w w8):=H_ (HB7.out.grown hgrow HB7.out.size (fun c hc=>(HO7.out.lt c hc).1))
      clear hown hgrow hne
      rw [←HI.out] at HO8
      go_wp2_with fail
      try go_ret2
      exact (HP.out _ _).2 (.inr ⟨HF.out,⟨_,rfl,HO8.out⟩,HB8.out⟩)
   ·have HQ2:Hid (∀j,j<q+1→lt (L.getD j N.zero).i xi=true):=H_ (fun j hj=>by
     rcases Nat.lt_succ_iff_lt_or_eq.1 hj with h|rfl
     ·exact HQ.out j h
     ·exact hc)
    have hc1:=hc
    unfold lt at hc1
    generalize L.getD q N.zero=Y at *
    obtain ⟨yi,yn⟩:=Y
    dsimp only at hc1 hc HTQ
    obtain ⟨hbl,d0,d1⟩:=HTQ.out wr HB.out
    clear hc
    go_wp2_with fail
    go_quiet (fail)
    obtain ⟨W1,hWn⟩:∃Wn,Wn=wr.drewN nq:=⟨_,rfl⟩
    rw [←hWn]
    have HDW:Hid (Below wr.heap.size wr W1):=H_ (by rw [hWn];exact bdn (Below.refl _ _) _)
    clear hWn
    have HBn:=H_ (HB.out.trans (HDW.out.mono HB.out.size))
    have HXn:=H_ (HX.out.below HDW.out)
    clear HB HX HDW c0 hwl
    have HB:=HBn
    have HX:=HXn
    clear HBn HXn
    have c0:W1.cell? ⟨w.heap.size,0,none⟩=some (.string xi):=HX.out.1.2 0 (by simp)
    have hwl:=HX.out.1.1
    go_wp2_with fail
    go_roundw
    case rel=>exact ⟨q+1,by omega,by go_num,HB,HX,HQ2⟩
    case measure=>simp [intOf];omega
  ·have hlt2:¬(q:Int)<(len:Int):=by omega
   have he:q=L.length:=by have:=HL.out;omega
   have HI:Hid (R=L.take q++(⟨xi,xn⟩:N)::L.drop q):=H_ (by rw [(HEND.out (fun j hj=>HQ.out j (by omega))).1,he];simp)
   have HF:Hid (F=false):=H_ (HEND.out (fun j hj=>HQ.out j (by omega))).2
   clear he
   go_wp2_with fail
   go_quiet (fail)
   obtain ⟨W1,hWn⟩:∃Wn,Wn=wr.drewN nq:=⟨_,rfl⟩
   rw [←hWn]
   have HDW:Hid (Below wr.heap.size wr W1):=H_ (by rw [hWn];exact bdn (Below.refl _ _) _)
   clear hWn
   have HBn:=H_ (HB.out.trans (HDW.out.mono HB.out.size))
   have HXn:=H_ (HX.out.below HDW.out)
   clear HB HX HDW c0 hwl
   have HB:=HBn
   have HX:=HXn
   clear HBn HXn
   have c0:W1.cell? ⟨w.heap.size,0,none⟩=some (.string xi):=HX.out.1.2 0 (by simp)
   have hwl:=HX.out.1.1
   go_wp2_with fail
   go_quiet (fail)
   obtain ⟨W2,hWn⟩:∃Wn,Wn=W1.drewN nq:=⟨_,rfl⟩
   rw [←hWn]
   have HDW:Hid (Below W1.heap.size W1 W2):=H_ (by rw [hWn];exact bdn (Below.refl _ _) _)
   clear hWn
   have HBn:=H_ (HB.out.trans (HDW.out.mono HB.out.size))
   have HXn:=H_ (HX.out.below HDW.out)
   clear HB HX HDW c0 hwl
   have HB:=HBn
   have HX:=HXn
   clear HBn HXn
   have c0:W2.cell? ⟨w.heap.size,0,none⟩=some (.string xi):=HX.out.1.2 0 (by simp)
   have hwl:=HX.out.1.1
   have HE0:=H_ (own_empty W2 w.heap.size 58 2 HB.out.size)
   have hqc:(q:Int)≤(cap:Int):=by omega
   have hql:(q:Int)≤(len:Int):=by omega
   have HT1:=H_ (HT.out.below (HB.out.trans ((al W2 (.cells #[] 58)).mono HB.out.size)))
   clear c0 hwl
   go_wp2_with (at_builtin;refine wpList_append_own _ rfl _ _ 29 rfl w.heap.size 58 i0 (.agg #[.string ⟨#[]⟩,.int .i64 0]) 2 24 Tryz.underlying29 hi hz0 hz1 hz2 rfl (by decide) _ _ _ rfl HE0.out ⟨b,off,none⟩ q cap (cellsAll N.cells (L.take q)) rfl ?l1 ?d1 ?d2 ?d3 ?d4 (by have:=HB.out.size;simp;omega) ?_)
   case l1=>rw [cellsAll_len N.len,List.length_take];have:=HL.out;omega
   case d1=>exact fun j u hj=>by have h:=rws_sub (i:=0) (n:=q) N.len HT1.out j u (by simpa using hj);first|exact h|(rw [Addr.add_lit,Nat.zero_mul,Nat.add_zero] at h;exact h)
   case d2=>exact lis_one _
   case d3=>unfold maxLen;omega
   case d4=>omega
   intro v1 w6 hown hgrow hne
   have HO6:Hid (w6.ownsRow w.heap.size 58 2 v1 q (cellsAll N.cells (L.take q))):=H_ (by first|exact hown|simpa using hown)
   have HB6:Hid (Below w.heap.size w w6):=H_ ((HB.out.trans ((al W2 (.cells #[] 58)).mono HB.out.size)).grown hgrow (by have:=HB.out.size;simp;omega) (fun c hc=>by have:=HX.out.1.1;simp [Value.ownBlock] at hc;omega))
   have HX6:Hid (BlkW w.heap.size [.string xi,.int .i64 xn] w6):=H_ (blkw_grown (HX.out.below (al W2 (.cells #[] 58))) hgrow (fun e=>by have:=HX.out.1.1;simp [Value.ownBlock] at e;omega))
   clear hown hgrow hne HE0 HT1 HX HB
   have c0:w6.cell? ⟨w.heap.size,0,none⟩=some (.string xi):=HX6.out.1.2 0 (by simp)
   have c1:w6.cell? ⟨w.heap.size,1,none⟩=some (.int .i64 xn):=HX6.out.1.2 1 (by simp)
   have hwl:=HX6.out.1.1
   go_wp2_with (at_builtin;refine wpList_append_own _ rfl _ _ 29 rfl w.heap.size 58 i0 (.agg #[.string ⟨#[]⟩,.int .i64 0]) 2 24 Tryz.underlying29 hi hz0 hz1 hz2 rfl (by decide) _ _ _ rfl (HO6.out.alloc _) ⟨w6.heap.size,0,none⟩ 1 1 (N.cells ⟨xi,xn⟩) rfl rfl (two_cells _ _ _ _) (two_one _) ?d3 ?d4 (by have:=HB6.out.size;simp;omega) ?_)
   case d3=>unfold maxLen;omega
   case d4=>omega
   intro v2 w7 hown hgrow hne
   have HO7:Hid (w7.ownsRow w.heap.size 58 2 v2 (q+1) (cellsAll N.cells (L.take q)++N.cells ⟨xi,xn⟩)):=H_ hown
   have HB7:Hid (Below w.heap.size w w7):=H_ ((HB6.out.trans ((al w6 _).mono HB6.out.size)).grown hgrow (by have:=HB6.out.size;simp;omega) (fun c hc=>(HO6.out.lt c hc).1))
   have HT7:=H_ (HT.out.below HB7.out)
   clear hown hgrow hne c0 c1 hwl
   by_cases hcq:cap=q
   ·obtain rfl:q=len:=by omega
    have hcq2:=hcq.symm
    subst hcq2
    go_wp2_with (at_builtin;refine wpList_append_own _ rfl _ _ 29 rfl w.heap.size 58 i0 (.agg #[.string ⟨#[]⟩,.int .i64 0]) 2 24 Tryz.underlying29 hi hz0 hz1 hz2 rfl (by decide) _ _ _ rfl HO7.out ⟨b,off,none⟩ 0 0 [] rfl rfl (fun _ _ h=>by simp at h) (fun _ h=>by simp at h) (by unfold maxLen;omega) (by omega) HB7.out.size ?_)
    intro v3 w8 hown hgrow hne
    have HO8:Hid (w8.ownsRow w.heap.size 58 2 v3 (L.take q++(⟨xi,xn⟩:N)::L.drop q).length (cellsAll N.cells (L.take q++(⟨xi,xn⟩:N)::L.drop q))):=H_ (by
     rw [ins_cells,ins_len2 _ _ _ (by have:=HL.out;omega),←HL.out]
     rw [List.drop_of_length_le (by have:=HL.out;omega)]
     first|exact hown|simpa [cellsAll] using hown)
    have HB8:Hid (Below w.heap.size w w8):=H_ (HB7.out.grown hgrow HB7.out.size (fun c hc=>(HO7.out.lt c hc).1))
    clear hown hgrow hne
    rw [←HI.out] at HO8
    go_wp2_with fail
    try go_ret2
    exact (HP.out _ _).2 (.inr ⟨HF.out,⟨_,rfl,HO8.out⟩,HB8.out⟩)
   ·go_wp2_with (at_builtin;refine wpList_append_own _ rfl _ _ 29 rfl w.heap.size 58 i0 (.agg #[.string ⟨#[]⟩,.int .i64 0]) 2 24 Tryz.underlying29 hi hz0 hz1 hz2 rfl (by decide) _ _ _ rfl HO7.out ⟨b,off+q*2,none⟩ (len-q) (cap-q) (cellsAll N.cells (L.drop q)) rfl ?l1 ?d5 ?d6 ?d7 ?d8 HB7.out.size ?_)
    case l1=>rw [cellsAll_len N.len,List.length_drop];have:=HL.out;omega
    case d5=>exact fun j u hj=>rws_sub (i:=q) (n:=L.length-q) N.len HT7.out j u (by rw [List.take_of_length_le (by simp)];exact hj)
    case d6=>exact lis_one _
    case d7=>unfold maxLen;omega
    case d8=>omega
    intro v3 w8 hown hgrow hne
    have HO8:Hid (w8.ownsRow w.heap.size 58 2 v3 (L.take q++(⟨xi,xn⟩:N)::L.drop q).length (cellsAll N.cells (L.take q++(⟨xi,xn⟩:N)::L.drop q))):=H_ (by
     rw [ins_cells,ins_len2 _ _ _ (by have:=HL.out;omega),←HL.out]
     rw [show len+1=q+1+(len-q) by omega,List.append_assoc]
     exact hown)
    have HB8:Hid (Below w.heap.size w w8):=H_ (HB7.out.grown hgrow HB7.out.size (fun c hc=>(HO7.out.lt c hc).1))
    clear hown hgrow hne
    rw [←HI.out] at HO8
    go_wp2_with fail
    try go_ret2
    exact (HP.out _ _).2 (.inr ⟨HF.out,⟨_,rfl,HO8.out⟩,HB8.out⟩)
end NetR
namespace NetR
open LinR RowG LtR
theorem keyedS:Maps.Keyed Tryz.prog 9:=Maps.string_keyed Tryz.underlying9
theorem gtr {w w1 w2:World} {g:Option Nat} (h1:w.grownBy w1 g) (h2:w1.grownBy w2 g):w.grownBy w2 g :=
 ⟨h2.os.trans h1.os,h2.tape.trans h1.tape,h2.output.trans h1.output,Nat.le_trans h1.size h2.size,fun k hk hne=>(h2.block k (by have:=h1.size;omega) hne).trans (h1.block k hk hne)⟩
end NetR
namespace NetR
open LinR RowG LtR
open DocR (BlkW BlkW.new BlkW.below)
def upd (x y:N):N:=if y.i=x.i then ⟨y.i,y.n+x.n⟩ else y
def mix (L:List N) (x:N) (k:Nat):List N:=(L.take k).map (upd x)++L.drop k
def LB (w:World) (b o:Nat) (xi:ByteArray) (xn:Int) (W:World):Prop:=Below w.heap.size w W∧b<W.heap.size∧W.cell? ⟨b,o,none⟩=some (.string xi)∧W.cell? ⟨b,o+1,none⟩=some (.int .i64 xn)
theorem LB.below {w:World} {b o:Nat} {xi:ByteArray} {xn:Int} {W W':World} (h:LB w b o xi xn W) (hb:Below W.heap.size W W'):LB w b o xi xn W':=by
 obtain ⟨h0,hl,p0,p1⟩:=h
 have f:=fun x=>hb.cell (p:=⟨b,x,none⟩) hl
 have hs:=hb.size
 exact ⟨h0.trans (hb.mono h0.size),by omega,(f _).trans p0,(f _).trans p1⟩
def OwnN (w:World) (base:Nat) (v:Value) (L:List N):Prop:=w.ownsRow base 58 2 v L.length (cellsAll N.cells L)∧v≠.slice none 0 0
theorem OwnN.open {w:World} {base:Nat} {v:Value} {L:List N} (h:OwnN w base v L):∃g cap,v=.slice (some ⟨g,0,none⟩) L.length cap∧L.length≤cap∧cap≤maxLen∧base≤g∧g<w.heap.size∧Lis (some ⟨g,0,none⟩) L w:=by
 obtain ⟨h,hn⟩:=h
 obtain ⟨ao,cp,e,hm⟩:=own_made (z:=N.zero) N.len h
 rcases h.2 with ⟨h0,h1⟩|⟨g,cap,cur,hv,hbb,hh,h1,h2,_⟩
 ·exact absurd h0 hn
 ·rw [hv] at e
  simp only [Value.slice.injEq] at e
  obtain ⟨rfl,_,rfl⟩:=e
  exact ⟨g,cap,hv,h1,h2,hbb,(Array.getElem?_eq_some_iff.1 hh).1,hm.rws⟩
theorem OwnN.below {w w':World} {base:Nat} {v:Value} {L:List N} (h:OwnN w base v L) (hb:Below w.heap.size w w'):OwnN w' base v L:=⟨own_below h.1 hb,h.2⟩
end NetR
namespace NetR
open LinR RowG LtR
open DocR (BlkW BlkW.new BlkW.below)
theorem own_nonnil {w:World} {base:Nat} {v:Value} {L:List N} (h:w.ownsRow base 58 2 v L.length (cellsAll N.cells L)) (hn:L.length≠0):OwnN w base v L:=⟨h,fun e=>by
 rcases h.2 with ⟨_,h1⟩|⟨g,cap,cur,hv,_⟩
 ·exact hn h1
 ·rw [hv] at e;cases e⟩
theorem put_pos (L:List N) (x:N):(put L x).length≠0:=by
 unfold put
 cases L with
 | nil=>simp [ins]
 | cons a l=>rw [ins];split<;>(try split)<;>simp
end NetR
end Go.Proofs.YtcilbmhkhllmjaaGreatDoor
namespace Go.Proofs.YtcilbmhkhllmjaaGreatDoor
open Go.ChangeShapes Go.WideShapes Go.ChangeAt Go.RowKit
set_option linter.unusedVariables false
set_option linter.unusedSimpArgs false
namespace DrawR
open LinR RowG NetR
open EvtR (Pt)
open DocR (BlkW)
def StrsP (P:ByteArray→Prop) (b n:Nat) (w:World):Prop:=b<w.heap.size∧∀j,j<n→∃T:ByteArray,w.cell? ⟨b,j,none⟩=some (.string T)∧P T
theorem StrsP.grown {P:ByteArray→Prop} {b n:Nat} {w w':World} {row:Option Nat} (h:StrsP P b n w) (hg:w.grownBy w' row) (hne:some b≠row):StrsP P b n w' :=
 ⟨by have:=hg.size;have:=h.1;omega,fun j hj=>by obtain ⟨T,h1,h2⟩:=h.2 j hj;exact ⟨T,hg.cell (a:=⟨b,j,none⟩) h1 hne,h2⟩⟩
set_option maxRecDepth 100000 in
set_option maxHeartbeats 4000000 in
theorem pick_P (P:ByteArray→Prop) (ao:Option Addr) (len cap g b n:Nat) (w:World) (hn:2≤n) (hn2:n≤100) (hbg:b≠g) (hS:Src ao len cap g w) (hT:StrsP P b n w) :
 Calls Tryz.prog 61 #[.pointer (some ⟨g,0,none⟩),.slice (some ⟨b,0,none⟩) n n] w fun e w'=>(∃T:ByteArray,e=.returned (.string T)∧P T)∧Src ao len cap g w'∧w.grownBy w' (some g):=by
 have HS:=H_ hS
 have HT:=H_ hT
 have hgl:=hS.lt
 have hn3:(2:Int)≤(n:Int):=by omega
 have hn4:(n:Int)≤100:=by omega
 clear hS hT
 go_enter Tryz.func61,Tryz.ntmps61
 go_wp2_with fail
 refine (n_any ao len cap g n _ (by omega) HS.out).mono ?_
 rintro e w1 ⟨v,rfl,v0,_,v2,hS,hg⟩
 have v3:v<n:=v2 (by omega)
 obtain ⟨j,rfl⟩:∃j:Nat,v=j:=⟨v.toNat,by omega⟩
 obtain ⟨T,hc,hK⟩:=(HT.out.grown hg (by simp;exact hbg)).2 j (by omega)
 have hbl:=HT.out.1
 have hs1:=hg.size
 have HS1:=H_ hS
 have HG1:=H_ hg
 have HK:=H_ hK
 clear hS hg v2 hK
 go_wp2
 go_ret
 exact ⟨⟨T,rfl,HK.out⟩,HS1.out,HG1.out⟩
def kn:List ByteArray:=[⟨#[99,112,117]⟩,⟨#[100,105,115,107]⟩,⟨#[110,101,116]⟩,⟨#[117,115,101,114,115]⟩,⟨#[122,122]⟩,⟨#[65]⟩]
def Kn (T:ByteArray):Prop:=T∈kn
theorem Kn.size {T:ByteArray} (h:Kn T):T.size≤20:=by
 unfold Kn kn at h
 simp only [List.mem_cons,List.not_mem_nil,or_false] at h
 rcases h with rfl|rfl|rfl|rfl|rfl|rfl<;>decide
structure LnD (ao:Option Addr) (len cap g:Nat) (w:World) (v:Value) (L:List N) (W:World):Prop where
 src:Src ao len cap g W
 grew:w.grownBy W (some g)
 own:OwnN W w.heap.size v L
 nm:∀e∈L,Kn e.i
section
variable {ao:Option Addr} {len cap g:Nat} {w:World} {v:Value} {L:List N} {W W':World}
theorem LnD.step (h:LnD ao len cap g w v L W) (hgl:g<w.heap.size) (hS:Src ao len cap g W') (hg:W.grownBy W' (some g)):LnD ao len cap g w v L W' :=
 ⟨hS,Lib.grownBy_trans h.grew hg,⟨OwG.own_keepG h.own.1 hg hgl,h.own.2⟩,h.nm⟩
theorem LnD.below (h:LnD ao len cap g w v L W) (hb:Below W.heap.size W W'):LnD ao len cap g w v L W' :=
 ⟨h.src.kept (row:=none) (OwG.rgrownO hb none) (fun k e=>by cases e),h.grew.andThen (OwG.rgrownO hb none) (fun k e=>by cases e),h.own.below hb,h.nm⟩
theorem LnD.row {x:Nat} (h:LnD ao len cap g w v L W) (hgl:g<w.heap.size) (hg:W.grownBy W' (some x)) (hx:w.heap.size≤x) (hne:∀b,v.ownBlock=some b→b≠x):LnD ao len cap g w v L W' :=
 ⟨h.src.kept hg (fun k e=>by cases e;omega),h.grew.andThen hg (fun k e=>by cases e;exact .inl hx),⟨OwG.own_keepO h.own.1 hg (fun b hb e=>hne b hb (by cases e;rfl)),h.own.2⟩,h.nm⟩
theorem LnD.new {v':Value} {L':List N} (h:LnD ao len cap g w v L W) (hb:Below W.heap.size W W') (ho:OwnN W' W.heap.size v' L') (hn:∀e∈L',Kn e.i):LnD ao len cap g w v' L' W' :=
 ⟨(h.below hb).src,(h.below hb).grew,⟨OwG.own_low ho.1 h.grew.size,ho.2⟩,hn⟩
end
theorem put_nm {L:List N} {x:N} (h:∀e∈L,Kn e.i) (hx:Kn x.i):∀e∈put L x,Kn e.i:=by
 have:=all_i Kn [x] 1 h (by intro y hy;simp only [List.mem_singleton] at hy;subst hy;exact hx)
 simpa [all,sg] using this
def LnOut (ao:Option Addr) (len cap g:Nat) (w:World) (e:Ending) (w':World):Prop:=∃v L,e=.returned v∧LnD ao len cap g w v L w'∧L.length≤4
set_option maxRecDepth 100000 in
set_option maxHeartbeats 8000000 in
theorem some_any (ao:Option Addr) (len cap g:Nat) (w:World) (hS:Src ao len cap g w) :
 Calls Tryz.prog 63 #[.pointer (some ⟨g,0,none⟩)] w fun e w'=>LnOut ao len cap g w e w':=by
 have hgl:=hS.lt
 obtain ⟨i0,hi,hz0,hz1,hz2⟩:=info_parts infoN
 have gz2:(2:Nat)≠0:=by decide
 have HN:=H_ (fun most W hm h=>n_any ao len cap g most W hm h)
 have HON:=H_ (fun W h=>one_any ao len cap g 15 W (by omega) h)
 have HE:=H_ (own_empty w w.heap.size 58 2 (Nat.le_refl _))
 have HSL:=H_ (fun b off cp L xi xn W h1 h2 h3 h4=>sline b off cp L xi xn W h1 h2 h3 h4)
 have HL0:Hid (LnD ao len cap g w (.slice (some ⟨w.heap.size,0,none⟩) 0 0) [] (w.alloc (.cells #[] 58))):=H_ ⟨hS.alloc _,World.grownBy_alloc w _ _,⟨HE.out,fun e=>by cases e⟩,fun e h=>absurd h (by simp)⟩
 clear hS HE
 go_enter Tryz.func63,Tryz.ntmps63
 go_wp2_with fail
 refine (HN.out 4 _ (by omega) HL0.out.src).mono ?_
 rintro e w1 ⟨v0,rfl,lo0,-,hi0,hS1,hg1⟩
 have ht0:v0<4:=hi0 (by omega)
 obtain ⟨k0,rfl⟩:∃j:Nat,v0=(j:Int):=⟨v0.toNat,by omega⟩
 have HL1:=H_ (HL0.out.step hgl hS1 hg1)
 clear hS1 hg1 hi0 HL0
 go_wp2_with fail
 go_loopw [3,4] (fun v z wr=>∃(k:Nat) (L:List N),z=.int .i64 k∧k≤3∧L.length+k≤3∧Hid (LnD ao len cap g w v L wr)) (fun v z _=>(intOf z).toNat)
 case atStart=>exact ⟨k0,[],rfl,by omega,by simp;omega,HL1⟩
 case round =>
  clear HL1
  obtain ⟨k,L,rfl,hk3,hLk,HL⟩:=hrel
  obtain ⟨gb,cp,rfl,hcp1,hcp2,hgb1,hgb2,hLi⟩:=HL.out.own.open
  obtain ⟨ln,hln⟩:∃ln,ln=L.length:=⟨_,rfl⟩
  rw [←hln] at hcp1 hLk HL ⊢
  have HLN:=H_ hln
  have HCP:=H_ hcp2
  have HCQ:=H_ hcp1
  clear hln hLi hcp2 hcp1
  by_cases hk:k=0
  ·subst hk
   go_wp2_with fail
   refine (HON.out _ HL.out.src).mono ?_
   rintro e w2 ⟨⟨b,rfl⟩,hS2,hg2⟩
   have HL2:=H_ (HL.out.step hgl hS2 hg2)
   clear hS2 hg2 HL
   cases b
   ·go_wp2_with fail
    go_ret
    exact ⟨_,L,rfl,HL2.out,by have:=HLN.out;omega⟩
   ·go_wp2_with fail
    obtain ⟨k1,hk1e⟩:∃z,z=w2.alloc (Obj.cells #[.string ⟨#[122,122]⟩,.string ⟨#[65]⟩,.string ⟨#[99,112,117]⟩] 9):=⟨_,rfl⟩
    obtain ⟨sb,hsbe⟩:∃z,z=w2.heap.size:=⟨_,rfl⟩
    have hB1:=BlkW.new w2 [.string ⟨#[122,122]⟩,.string ⟨#[65]⟩,.string ⟨#[99,112,117]⟩] 9
    have hL1:=HL2.out.below ((Below.refl w2.heap.size w2).alloc (Nat.le_refl _) (Obj.cells #[.string ⟨#[122,122]⟩,.string ⟨#[65]⟩,.string ⟨#[99,112,117]⟩] 9))
    have hgs:g<sb:=by rw [hsbe];exact HL2.out.src.lt
    rw [←hk1e,←hsbe] at hB1 ⊢
    rw [←hk1e] at hL1
    clear hk1e hsbe HL2
    have hstr:StrsP Kn sb 3 k1:=⟨hB1.1.1,fun j hj=>by
     match j,hj with
     | 0,_=>exact ⟨_,hB1.1.2 0 (by simp),by simp [Kn,kn]⟩
     | 1,_=>exact ⟨_,hB1.1.2 1 (by simp),by simp [Kn,kn]⟩
     | 2,_=>exact ⟨_,hB1.1.2 2 (by simp),by simp [Kn,kn]⟩⟩
    refine (pick_P Kn ao len cap g sb 3 _ (by omega) (by omega) (by omega) hL1.src hstr).mono ?_
    rintro e q2 ⟨⟨T,rfl,hT⟩,hS2,hg2⟩
    have HL2:=H_ (hL1.step hgl hS2 hg2)
    have HTn:=H_ hT
    clear hS2 hg2 hstr hB1 hL1 hT
    go_wp2_with fail
    obtain ⟨k3,hk3e⟩:∃z,z=q2.alloc (Obj.cells #[.int .i64 0,.int .i64 1000000000000000,.int .i64 (-1000000000000000),.int .i64 1000000000000001] 2):=⟨_,rfl⟩
    obtain ⟨ib,hibe⟩:∃z,z=q2.heap.size:=⟨_,rfl⟩
    have hB3:=BlkW.new q2 [.int .i64 0,.int .i64 1000000000000000,.int .i64 (-1000000000000000),.int .i64 1000000000000001] 2
    have hL3:=HL2.out.below ((Below.refl q2.heap.size q2).alloc (Nat.le_refl _) (Obj.cells #[.int .i64 0,.int .i64 1000000000000000,.int .i64 (-1000000000000000),.int .i64 1000000000000001] 2))
    have hgi:g<ib:=by rw [hibe];exact HL2.out.src.lt
    rw [←hk3e,←hibe] at hB3 ⊢
    rw [←hk3e] at hL3
    clear hk3e hibe HL2
    refine (HN.out 4 _ (by omega) hL3.src).mono ?_
    rintro e q4 ⟨v4,rfl,lo4,-,hi4,hS4,hg4⟩
    have ht4:v4<4:=hi4 (by omega)
    obtain ⟨tt,rfl⟩:∃j:Nat,v4=(j:Int):=⟨v4.toNat,by omega⟩
    have htt:tt<4:=by omega
    have hB4:=OwG.blkW_grown hB3 hg4 (by simp only [ne_eq,Option.some.injEq];omega)
    have HL4:=H_ (hL3.step hgl hS4 hg4)
    obtain ⟨Y,hY⟩:∃Y:Int,q4.cell? ⟨ib,tt,none⟩=some (.int .i64 Y):=by
     rcases (show tt=0∨tt=1∨tt=2∨tt=3 by omega) with rfl|rfl|rfl|rfl
     ·exact ⟨_,hB4.1.2 0 (by simp)⟩
     ·exact ⟨_,hB4.1.2 1 (by simp)⟩
     ·exact ⟨_,hB4.1.2 2 (by simp)⟩
     ·exact ⟨_,hB4.1.2 3 (by simp)⟩
    have hil:=hB4.1.1
    clear hS4 hg4 hi4 hB3 hL3 hB4 lo4
    have HO4:=H_ HL4.out.own.1
    rw [←HLN.out] at HO4
    have HOB:Hid (w.heap.size≤(q4.alloc (Obj.cells #[.string T,.int .i64 Y] 58)).heap.size):=H_ (by have:=HL4.out.grew.size;simp;omega)
    go_wp2_with (at_builtin;refine wpList_append_own _ rfl _ _ 29 rfl w.heap.size 58 i0 (.agg #[.string ⟨#[]⟩,.int .i64 0]) 2 24 Tryz.underlying29 hi hz0 hz1 hz2 rfl (by decide) _ _ _ rfl (HO4.out.alloc _) ⟨_,0,none⟩ 1 1 (N.cells ⟨T,Y⟩) rfl rfl (two_cells _ _ _ _) (two_one _) ?d3 ?d4 ?d5 ?_)
    case d3=>unfold maxLen;omega
    case d4=>omega
    case d5=>exact HOB.out
    intro v' w5 hown hgrow hne
    have hbw:=(HL4.out.below ((Below.refl q4.heap.size q4).alloc (Nat.le_refl _) (Obj.cells #[.string T,.int .i64 Y] 58)))
    have HL5:Hid (LnD ao len cap g w v' (L ++ [(⟨T,Y⟩:N)]) w5):=H_ ⟨hbw.src.kept hgrow (fun b e=>by cases e;show g<gb;omega),hbw.grew.andThen hgrow (fun b e=>by cases e;exact .inl (show w.heap.size≤gb by omega)),own_nonnil (by rw [cellsAll_app,List.length_append,←HLN.out];exact hown) (by simp),fun y hy=>by
     rcases List.mem_append.1 hy with h|h
     ·exact HL4.out.nm y h
     ·simp only [List.mem_singleton] at h
      subst h
      exact HTn.out⟩
    clear hown hgrow hne hbw
    go_wp2_with fail
    go_ret
    exact ⟨_,_,rfl,HL5.out,by simp;have:=HLN.out;omega⟩
  ·obtain ⟨k',rfl⟩:∃k',k=k'+1:=⟨k-1,by omega⟩
   have hkp:(0:Int)<((k'+1:Nat):Int):=by omega
   go_wp2_with fail
   obtain ⟨k1,hk1e⟩:∃z,z=wr.alloc (Obj.cells #[.string ⟨#[99,112,117]⟩,.string ⟨#[100,105,115,107]⟩,.string ⟨#[110,101,116]⟩,.string ⟨#[117,115,101,114,115]⟩] 9):=⟨_,rfl⟩
   obtain ⟨sb,hsbe⟩:∃z,z=wr.heap.size:=⟨_,rfl⟩
   have hB1:=BlkW.new wr [.string ⟨#[99,112,117]⟩,.string ⟨#[100,105,115,107]⟩,.string ⟨#[110,101,116]⟩,.string ⟨#[117,115,101,114,115]⟩] 9
   have hL1:=HL.out.below ((Below.refl wr.heap.size wr).alloc (Nat.le_refl _) (Obj.cells #[.string ⟨#[99,112,117]⟩,.string ⟨#[100,105,115,107]⟩,.string ⟨#[110,101,116]⟩,.string ⟨#[117,115,101,114,115]⟩] 9))
   have hgs:g<sb:=by rw [hsbe];exact HL.out.src.lt
   rw [←hk1e,←hsbe] at hB1 ⊢
   rw [←hk1e] at hL1
   clear hk1e hsbe HL
   have hstr:StrsP Kn sb 4 k1:=⟨hB1.1.1,fun j hj=>by
    match j,hj with
    | 0,_=>exact ⟨_,hB1.1.2 0 (by simp),by simp [Kn,kn]⟩
    | 1,_=>exact ⟨_,hB1.1.2 1 (by simp),by simp [Kn,kn]⟩
    | 2,_=>exact ⟨_,hB1.1.2 2 (by simp),by simp [Kn,kn]⟩
    | 3,_=>exact ⟨_,hB1.1.2 3 (by simp),by simp [Kn,kn]⟩⟩
   refine (pick_P Kn ao len cap g sb 4 _ (by omega) (by omega) (by omega) hL1.src hstr).mono ?_
   rintro e q2 ⟨⟨T,rfl,hT⟩,hS2,hg2⟩
   have HL2:=H_ (hL1.step hgl hS2 hg2)
   have HTn:=H_ hT
   clear hS2 hg2 hstr hB1 hL1 hT
   go_wp2_with fail
   refine (HN.out 9000 _ (by omega) HL2.out.src).mono ?_
   rintro e q3 ⟨v3,rfl,lo3,-,hi3,hS3,hg3⟩
   have ht3:v3<9000:=hi3 (by omega)
   have HL3:=H_ (HL2.out.step hgl hS3 hg3)
   have HL4:=H_ (HL3.out.below ((Below.refl q3.heap.size q3).alloc (Nat.le_refl _) (Obj.cells #[.string T,.int .i64 (v3-2000)] 58)))
   clear hS3 hg3 hi3 HL2 HL3
   go_wp2_with fail
   obtain ⟨g9,c9,e9,u1,u2,u3,u4,hLi⟩:=HL4.out.own.open
   cases e9
   rw [HLN.out]
   refine (HSL.out gb 0 cp L T (v3-2000) _ (by have:=HLN.out;omega) (by rw [←HLN.out];exact HCQ.out) HCP.out hLi).mono ?_
   rintro e w7 (⟨hf,rfl,hb7⟩|⟨hf,⟨v7,rfl,ho7⟩,hb7⟩)
   ·have HL7:=H_ (HL4.out.below hb7)
    rw [←HLN.out]
    clear hb7 hf hLi u1 u2 u3 u4
    go_wp2_with fail
    go_roundw
    case rel=>exact ⟨k',L,by go_num,by omega,by have:=HLN.out;omega,HL7⟩
    case measure=>simp [intOf]
   ·have HL7:=H_ (HL4.out.new hb7 (own_nonnil ho7 (put_pos _ _)) (put_nm (x:=⟨T,v3-2000⟩) HL4.out.nm HTn.out))
    have hpl:=put_len L ⟨T,v3-2000⟩
    clear hb7 hf hLi ho7 u1 u2 u3 u4
    go_wp2_with fail
    go_roundw
    case rel=>exact ⟨k',_,by go_num,by omega,by have:=HLN.out;omega,HL7⟩
    case measure=>simp [intOf]
end DrawR
end Go.Proofs.YtcilbmhkhllmjaaGreatDoor
