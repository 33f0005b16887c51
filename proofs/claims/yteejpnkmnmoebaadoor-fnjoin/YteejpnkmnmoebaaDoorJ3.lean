/-
  Blocks that may be written, and rows beside them. No condition.
  Cells of a block written one behind another. No condition.
  Memory of one's own that is kept while other memory grows or is written. No condition.
  Arithmetic alone: the first day of a month that is counted from January 1970, and which month a right date lies in. No condition.
  The order of texts. No condition.
  Windows: their tags and hours as rows of cells, and what is right of them, in numbers. No condition.
  Two lists that rise, laid into one: two at a time, or one by one; the same list. The conditions are named: what is smaller is so of what comes behind, too.
  The program's rising lists: whether tags, hours rise. The condition: at most 1048576 of them.
  Windows that the law is given: how many letters, the law's own copies, and windows held against each other. The condition: at most 1048576 of each.
  Windows that the law is given: the law's own copies, and windows held against each other. The condition: at most 1048576 of each.
  Windows that the law is given: the law's own copies, and windows held against each other. The condition: at most 1048576 of each.
  The program's rising lists: whether hours rise. The condition: at most 1048576 of them.
  A day's date, the program's side. The condition: the program's table stands in its variable.
-/
import Derived.Deep.RegionHeld3
import Derived.BigQuiet
import Derived.Deep.QuietTactic
import Derived.Deep.RegionWith
import Derived.Test.YteejpnkmnmoebaaDoorJ2
namespace Go.Proofs.YteejpnkmnmoebaaDoor
open Go.ChangeShapes Go.WideShapes Go.ChangeAt Go.RowKit
set_option linter.unusedVariables false
namespace DocR
open RowG
open EvtR (Pt)
open CatR (Blk Blk.new)
def BlkW (b:Nat) (cs:List Value) (w:World):Prop:=Blk b cs w∧∀i,i<cs.length→w.frozen? ⟨b,i,none⟩=false
theorem BlkW.below {b:Nat} {cs:List Value} {w w':World} (h:BlkW b cs w) (hb:Below w.heap.size w w'):BlkW b cs w' :=
 ⟨h.1.below hb,fun i hi=>(hb.frozen (p:=⟨b,i,none⟩) h.1.1).trans (h.2 i hi)⟩
theorem BlkW.new (w:World) (cs:List Value) (T:TypeId):BlkW w.heap.size cs (w.alloc (.cells cs.toArray T)) :=
 ⟨Blk.new w cs T,fun i hi=>by simp [go_sem]⟩
theorem BlkW.set {b:Nat} {cs:List Value} {w:World} (h:BlkW b cs w) (o:Nat) (v:Value) (ho:o<cs.length):BlkW b (cs.set o v) (w.setCell ⟨b,o,none⟩ v):=by
 obtain ⟨⟨hl,hc⟩,hf⟩:=h
 refine ⟨⟨by simpa using hl,fun i hi=>?_⟩,fun i hi=>?_⟩
 ·rw [List.length_set] at hi
  by_cases e:o=i
  ·subst e
   have:=hc o hi
   rw [List.getElem?_eq_getElem hi] at this
   rw [List.getElem?_set_self ho]
   simp [go_sem,this]
  ·rw [List.getElem?_set_ne e,←hc i hi]
   simp [go_sem]
 ·rw [List.length_set] at hi
  have:=hf i hi
  simp [go_sem,this]
theorem BlkW.other {b:Nat} {cs:List Value} {w:World} (h:BlkW b cs w) (g o:Nat) (v:Value) (hg:g≠b):BlkW b cs (w.setCell ⟨g,o,none⟩ v):=by
 have e:=(grown_set w g o v).block b h.1.1 (by simp;exact fun q=>hg q.symm)
 exact ⟨⟨by simpa using h.1.1,fun i hi=>(World.cell?_of_block (a:=⟨b,i,none⟩) e).trans (h.1.2 i hi)⟩,fun i hi=>(World.frozen?_of_block (a:=⟨b,i,none⟩) e).trans (h.2 i hi)⟩
theorem Rws.put {α:Type} {k:Nat} {cells:α→List Value} {z:α} {ao:Option Addr} {xs:List α} {w:World} (h:Rws k cells z ao xs w) (g o:Nat) (v:Value) (hne:xs.length=0∨∀b off,ao=some ⟨b,off,none⟩→b≠g):Rws k cells z ao xs (w.setCell ⟨g,o,none⟩ v) :=
 h.grown (grown_set w g o v) (hne.imp id (fun hn b off e q=>hn b off e (by simpa using q)))
theorem MadeG.put {α:Type} {k:Nat} {cells:α→List Value} {z:α} {base:Nat} {ao:Option Addr} {xs:List α} {w:World} (h:MadeG k cells z base ao xs w) (g o:Nat) (v:Value) (hne:xs.length=0∨∀b off,ao=some ⟨b,off,none⟩→b≠g):MadeG k cells z base ao xs (w.setCell ⟨g,o,none⟩ v):=by
 refine ⟨Rws.put h.rws g o v hne,?_⟩
 rcases h.own with h0|⟨b,e1,e2,e3⟩
 ·exact .inl h0
 ·rcases hne with h0|hn
  ·exact .inl h0
  have e:=(grown_set w g o v).block b e3.lt (by simp;exact fun q=>hn b 0 e1 q)
  exact .inr ⟨b,e1,e2,by simpa using e3.lt,fun x hx=>by obtain ⟨u,hu⟩:=e3.has x hx;exact ⟨u,(World.cell?_of_block (a:=⟨b,x,none⟩) e).trans hu⟩,fun x hx=>(World.frozen?_of_block (a:=⟨b,x,none⟩) e).trans (e3.free x hx)⟩
end DocR
namespace StR
open EvtR (Pt cell_put cell_far)
open CatR (Blk)
def stL (W:World) (p:Nat):Nat→List Value→World
 | _,[]=>W
 | o,v::vs=>stL (W.setCell ⟨p,o,none⟩ v) p (o+1) vs
theorem gtr {w w1 w2:World} {g:Option Nat} (h1:w.grownBy w1 g) (h2:w1.grownBy w2 g):w.grownBy w2 g :=
 ⟨h2.os.trans h1.os,h2.tape.trans h1.tape,h2.output.trans h1.output,Nat.le_trans h1.size h2.size,fun k hk hne=>(h2.block k (by have:=h1.size;omega) hne).trans (h1.block k hk hne)⟩
theorem stL_grown (p:Nat):∀(vs:List Value) (o:Nat) (W:World),W.grownBy (stL W p o vs) (some p)
 | [],_,W=>⟨rfl,rfl,rfl,Nat.le_refl _,fun _ _ _=>rfl⟩
 | v::vs,o,W=>gtr (RowG.grown_set W p o v) (stL_grown p vs (o+1) _)
theorem stL_pt {p n:Nat}:∀(vs:List Value) (o:Nat) (W:World),Pt p n W→Pt p n (stL W p o vs)
 | [],_,_,h=>h
 | v::vs,o,W,h=>stL_pt vs (o+1) _ (h.set o v)
theorem stL_old {p:Nat}:∀(vs:List Value) (o:Nat) (W:World) (j:Nat),j<o→(stL W p o vs).cell? ⟨p,j,none⟩=W.cell? ⟨p,j,none⟩
 | [],_,_,_,_=>rfl
 | v::vs,o,W,j,hj=>(stL_old vs (o+1) _ j (by omega)).trans (cell_far o j (by omega) v)
theorem stL_cells {p n:Nat}:∀(vs:List Value) (o:Nat) (W:World),Pt p n W→o+vs.length≤n→∀i,i<vs.length→(stL W p o vs).cell? ⟨p,o+i,none⟩=vs[i]?
 | [],_,_,_,_,i,hi=>absurd hi (by simp)
 | v::vs,o,W,hp,hn,i,hi=>by
  simp only [List.length_cons] at hn hi
  cases i with
  | zero =>
   rw [Nat.add_zero]
   exact (stL_old vs (o+1) _ o (by omega)).trans ((cell_put hp o (by omega) v).trans rfl)
  | succ i =>
   have:=stL_cells vs (o+1) (W.setCell ⟨p,o,none⟩ v) (hp.set o v) (by omega) i (by omega)
   rw [show o+1+i=o+(i+1) by omega] at this
   exact this.trans rfl
theorem stL_blk {p n:Nat} {vs:List Value} {W:World} (hp:Pt p n W) (hn:vs.length≤n):Blk p vs (stL W p 0 vs) :=
 ⟨(stL_pt vs 0 W hp).lt,fun i hi=>by have:=stL_cells vs 0 W hp (by omega) i hi;rw [Nat.zero_add] at this;exact this⟩
theorem pt_far {p q n:Nat} {W W':World} (h:Pt p n W) (hg:W.grownBy W' (some q)) (hne:p≠q):Pt p n W':=by
 have e:=hg.block p h.lt (by simpa using hne)
 exact ⟨by have:=hg.size;have:=h.lt;omega,fun o ho=>by obtain ⟨v,hv⟩:=h.has o ho;exact ⟨v,(World.cell?_of_block (a:=⟨p,o,none⟩) e).trans hv⟩,fun o ho=>(World.frozen?_of_block (a:=⟨p,o,none⟩) e).trans (h.free o ho)⟩
theorem blk_far {p q:Nat} {cs:List Value} {W W':World} (h:Blk p cs W) (hg:W.grownBy W' (some q)) (hne:p≠q):Blk p cs W':=by
 have e:=hg.block p h.1 (by simpa using hne)
 exact ⟨by have:=hg.size;have:=h.1;omega,fun i hi=>(World.cell?_of_block (a:=⟨p,i,none⟩) e).trans (h.2 i hi)⟩
theorem pt_new (w:World) (cs:List Value) (T:TypeId):Pt w.heap.size cs.length (w.alloc (.cells cs.toArray T)) :=
 ⟨by simp,fun o ho=>⟨cs[o],by simp [go_sem,ho]⟩,fun o ho=>by simp [go_sem]⟩
end StR
namespace OwG
open RowG (MadeG Rws cellsAll)
open EvtR (Pt)
open CatR (Blk Blk.new)
open DocR (BlkW)
end OwG
end Go.Proofs.YteejpnkmnmoebaaDoor
namespace Go.Proofs.YteejpnkmnmoebaaDoor
namespace DateM
def fd (k:Nat):Int:=ys (k / 12)+ms (1970+((k / 12:Nat):Int)) (k % 12)
theorem fd_succ (k:Nat):fd (k+1)=fd k+md (1970+((k / 12:Nat):Int)) (((k % 12:Nat):Int)+1):=by
 unfold fd
 by_cases h:k % 12=11
 ·rw [show (k+1) / 12=k / 12+1 by omega,show (k+1) % 12=0 by omega,ys_succ,←ms_all,h,ms_succ]
  simp only [ms]
  omega
 ·rw [show (k+1) / 12=k / 12 by omega,show (k+1) % 12=k % 12+1 by omega,ms_succ]
  omega
theorem fd_step (k:Nat):fd k+28≤fd (k+1)∧fd (k+1)≤fd k+31:=by
 rw [fd_succ]
 have:=md_bd (1970+((k / 12:Nat):Int)) (((k % 12:Nat):Int)+1)
 omega
theorem fd_mono {j k:Nat} (h:j≤k):fd j+28*((k:Int)-j)≤fd k:=by
 induction k with
 | zero =>
  obtain rfl:j=0:=by omega
  simp
 | succ k ih =>
  by_cases e:j=k+1
  ·subst e;simp
  ·have:=ih (by omega)
   have:=fd_step k
   omega
theorem fd_one {d:Int} {j k:Nat} (h1:fd j≤d) (h2:d<fd (k+1)):j≤k:=by
 apply Nat.le_of_not_lt
 intro h
 have:=fd_mono (show k+1≤j from h)
 omega
theorem num_fd (y m d:Int) (h:rightB y m d=true):∃k:Nat,k≤2771∧12*(y-1970)+(m-1)=(k:Int)∧fd k≤num y m d∧num y m d<fd (k+1):=by
 obtain ⟨y1,y2,m1,m2,d1,d2⟩:=(right_iff y m d).1 h
 refine ⟨(12*(y-1970)+(m-1)).toNat,by omega,by omega,?_⟩
 have e1:(12*(y-1970)+(m-1)).toNat / 12=(y-1970).toNat:=by omega
 have e2:(12*(y-1970)+(m-1)).toNat % 12=(m-1).toNat:=by omega
 rw [fd_succ]
 unfold fd num
 rw [e1,e2,show 1970+(((y-1970).toNat:Nat):Int)=y by omega,show (((m-1).toNat:Nat):Int)+1=m by omega]
 omega
theorem ys_nat:∀k:Nat,k≤231→ys k=((List.range k).foldl (fun (a:Int) (j:Nat)=>a+yd (1970+(j:Int))) 0):=by
 intro k _
 induction k with
 | zero=>rfl
 | succ k ih=>rw [List.range_succ,List.foldl_append,←ih (by omega)];rfl
theorem ys_231:84028≤ys 231:=by rw [ys_nat 231 (by omega)];decide +kernel
theorem fd_2760:fd 2760=84006:=by
 unfold fd
 show ys 230+ms _ 0=_
 rw [ys_nat 230 (by omega)]
 decide +kernel
end DateM
end Go.Proofs.YteejpnkmnmoebaaDoor
namespace Go.Proofs.YteejpnkmnmoebaaDoor
open Go.RowKit
namespace LtR
open Op (bytesLess)
theorem bl_irrefl:∀x:List UInt8,bytesLess x x=false
 | []=>rfl
 | a::x=>by
  rw [bytesLess,bl_irrefl x]
  simp
theorem bl_trans:∀{x y z:List UInt8},bytesLess x y=true→bytesLess y z=true→bytesLess x z=true
 | _,[],_,h,_=>by simp [bytesLess] at h
 | _,_::_,[],_,h=>by simp [bytesLess] at h
 | [],_::_,_::_,_,_=>rfl
 | a::x,b::y,c::z,h1,h2=>by
  rw [bytesLess] at *
  simp only [Bool.or_eq_true,Bool.and_eq_true,decide_eq_true_eq,beq_iff_eq] at *
  rcases h1 with h1|⟨rfl,h1⟩
  ·rcases h2 with h2|⟨rfl,h2⟩
   ·exact .inl (UInt8.lt_trans h1 h2)
   ·exact .inl h1
  ·rcases h2 with h2|⟨rfl,h2⟩
   ·exact .inl h2
   ·exact .inr ⟨rfl,bl_trans h1 h2⟩
theorem bl_total:∀{x y:List UInt8},bytesLess x y=false→bytesLess y x=false→x=y
 | [],[],_,_=>rfl
 | [],_::_,h,_=>by simp [bytesLess] at h
 | _::_,[],_,h=>by simp [bytesLess] at h
 | a::x,b::y,h1,h2=>by
  rw [bytesLess] at *
  simp only [Bool.or_eq_false_iff,Bool.and_eq_false_iff,decide_eq_false_iff_not,beq_eq_false_iff_ne] at *
  have e:a=b:=by
   have p1:=h1.1
   have p2:=h2.1
   rw [UInt8.lt_iff_toNat_lt] at p1 p2
   exact UInt8.toNat.inj (by omega)
  subst e
  rw [bl_total (h1.2.resolve_left (fun h=>h rfl)) (h2.2.resolve_left (fun h=>h rfl))]
def lt (a b:ByteArray):Bool:=bytesLess a.toList b.toList
theorem toList_inj {a b:ByteArray} (h:a.toList=b.toList):a=b:=by
 rw [ByteArray.toList_eq,ByteArray.toList_eq] at h
 exact ByteArray.ext (Array.ext' h)
theorem lt_irrefl (a:ByteArray):lt a a=false:=bl_irrefl _
theorem lt_trans {a b c:ByteArray} (h1:lt a b=true) (h2:lt b c=true):lt a c=true:=bl_trans h1 h2
theorem lt_total {a b:ByteArray} (h1:lt a b=false) (h2:lt b a=false):a=b:=toList_inj (bl_total h1 h2)
theorem lt_asymm {a b:ByteArray} (h:lt a b=true):lt b a=false:=by
 cases h2:lt b a
 ·rfl
 ·have:=lt_trans h h2
  rw [lt_irrefl] at this
  cases this
end LtR
end Go.Proofs.YteejpnkmnmoebaaDoor
namespace Go.Proofs.YteejpnkmnmoebaaDoor
open Go.ChangeShapes Go.WideShapes Go.ChangeAt Go.RowKit
set_option linter.unusedVariables false
namespace WinR
open RowG LtR DateM
theorem H_ {p:Prop} (h:p):Hid p:=h
structure H where
 h:Int
 s:Int
structure Wd where
 a:ByteArray
 m:ByteArray
 mo:Int
 ev:Int
 su:Int
 mx:Int
 ts:List ByteArray
 hs:List H
def H.zero:H:=⟨0,0⟩
def H.cells (x:H):List Value:=[.int .i64 x.h,.int .i64 x.s]
def tz:ByteArray:=⟨#[]⟩
def tcells (t:ByteArray):List Value:=[.string t]
theorem H.len (x:H):x.cells.length=2:=rfl
theorem t_len (t:ByteArray):(tcells t).length=1:=rfl
def Tgs (ao:Option Addr) (ts:List ByteArray) (w:World):Prop:=Rws 1 tcells tz ao ts w
def Hrs (ao:Option Addr) (hs:List H) (w:World):Prop:=Rws 2 H.cells H.zero ao hs w
theorem Tgs.below {ao:Option Addr} {ts:List ByteArray} {w w':World} (h:Tgs ao ts w) (hb:Below w.heap.size w w'):Tgs ao ts w':=Rws.below h hb
theorem Hrs.below {ao:Option Addr} {hs:List H} {w w':World} (h:Hrs ao hs w) (hb:Below w.heap.size w w'):Hrs ao hs w':=Rws.below h hb
theorem Tgs.at {ao:Option Addr} {ts:List ByteArray} {w:World} (h:Tgs ao ts w) (j:Nat) (hj:j<ts.length):∃b off,ao=some ⟨b,off,none⟩∧b<w.heap.size∧w.cell? ⟨b,off+j,none⟩=some (.string (ts.getD j tz)):=by
 obtain ⟨b,off,h1,h2,h3⟩:=Rws.at h j hj
 have:=h3 0 (by omega)
 rw [Nat.mul_one] at this
 exact ⟨b,off,h1,h2,this⟩
theorem Hrs.at {ao:Option Addr} {hs:List H} {w:World} (h:Hrs ao hs w) (j:Nat) (hj:j<hs.length):∃b off,ao=some ⟨b,off,none⟩∧b<w.heap.size∧w.cell? ⟨b,off+j*2,none⟩=some (.int .i64 (hs.getD j H.zero).h)∧w.cell? ⟨b,off+j*2+1,none⟩=some (.int .i64 (hs.getD j H.zero).s):=by
 obtain ⟨b,off,h1,h2,h3⟩:=Rws.at h j hj
 exact ⟨b,off,h1,h2,h3 0 (by omega),h3 1 (by omega)⟩
def wcells (x:Wd) (ta:Option Addr) (tc:Nat) (ha:Option Addr) (hc:Nat):Array Value:=#[.string x.a,.string x.m,.int .i64 x.mo,.int .i64 x.ev,.int .i64 x.su,.int .i64 x.mx,.slice ta x.ts.length tc,.slice ha x.hs.length hc]
def IsWd (v:Value) (x:Wd) (w:World):Prop:=∃ta tc ha hc,v=.agg (wcells x ta tc ha hc)∧Tgs ta x.ts w∧Hrs ha x.hs w
theorem IsWd.below {v:Value} {x:Wd} {w w':World} (h:IsWd v x w) (hb:Below w.heap.size w w'):IsWd v x w':=by
 obtain ⟨ta,tc,ha,hc,hv,h1,h2⟩:=h
 exact ⟨ta,tc,ha,hc,hv,h1.below hb,h2.below hb⟩
def RiseTo {α:Type} (r:α→α→Bool) (z:α) (xs:List α) (k:Nat):Prop:=∀i,i<k→0<i→r (xs.getD (i-1) z) (xs.getD i z)=true
def RiseDec {α:Type} (r:α→α→Bool) (z:α) (xs:List α) (k:Nat):Decidable (RiseTo r z xs k):=inferInstanceAs (Decidable (∀i,i<k→0<i→r (xs.getD (i-1) z) (xs.getD i z)=true))
def riseB {α:Type} (r:α→α→Bool) (z:α) (xs:List α):Bool:=@decide (RiseTo r z xs xs.length) (RiseDec r z xs xs.length)
section
variable {α:Type} {r:α→α→Bool} {z:α} {xs:List α}
theorem rise_yes (h:RiseTo r z xs xs.length):riseB r z xs=true:=by unfold riseB;exact @decide_eq_true _ (RiseDec r z xs xs.length) h
theorem rise_iff:riseB r z xs=true↔RiseTo r z xs xs.length:=by unfold riseB;exact @decide_eq_true_iff _ (RiseDec r z xs xs.length)
theorem rise_no {k:Nat} (hk:k<xs.length) (h0:0<k) (h:r (xs.getD (k-1) z) (xs.getD k z)=false):riseB r z xs=false:=by
 unfold riseB
 exact @decide_eq_false _ (RiseDec r z xs xs.length) (fun hr=>by rw [hr k hk h0] at h;cases h)
theorem rise_one (k:Nat) (hk:k≤1):RiseTo r z xs k:=fun i h1 h2=>absurd h1 (by omega)
theorem RiseTo.more {k:Nat} (h:RiseTo r z xs k) (h1:0<k→r (xs.getD (k-1) z) (xs.getD k z)=true):RiseTo r z xs (k+1):=by
 intro i hi h0
 by_cases e:i=k
 ·subst e;exact h1 h0
 ·exact h i (by omega) h0
theorem all_take (p:α→Bool) (k:Nat) (h:k<xs.length):(xs.take (k+1)).all p=((xs.take k).all p&&p (xs.getD k z)):=by
 rw [take_more (z:=z) xs k h,List.all_append]
 simp
theorem all_no (p:α→Bool) {k:Nat} (h:k<xs.length) (hp:p (xs.getD k z)=false):xs.all p=false:=by
 rw [List.all_eq_false]
 exact ⟨_,getD_mem xs k h,by rw [hp];simp⟩
theorem all_get (p:α→Bool) (h:xs.all p=true) {k:Nat} (hk:k<xs.length):p (xs.getD k z)=true:=List.all_eq_true.1 h _ (getD_mem xs k hk)
end
def tagOk (t:ByteArray):Bool:=decide (1≤t.size)&&EvtR.tagB t
def tagsB (ts:List ByteArray):Bool:=decide (ts.length≤12)&&(riseB lt tz ts&&ts.all tagOk)
def hourIn (h mo:Int):Bool:=decide (0≤h∧h≤2016666∧0≤mo∧fd mo.toNat≤60*h / 1440∧60*h / 1440<fd (mo.toNat+1))
def hlt (x y:H):Bool:=decide (x.h<y.h)
def hOk (mo su:Int) (x:H):Bool:=hourIn x.h mo&&decide (0≤x.s∧x.s≤su)
def hsum (hs:List H):Int:=(hs.map H.s).sum
def hoursB (hs:List H) (mo su:Int):Bool:=riseB hlt H.zero hs&&(hs.all (hOk mo su)&&decide (hsum hs=su))
def timedB (hs:List H) (mo su:Int):Bool:=decide (1≤hs.length∧hs.length≤12)&&hoursB hs mo su
def namedB (a m:ByteArray) (mo:Int):Bool:=NameR.nameB a&&(NameR.nameB m&&decide (0≤mo∧mo≤2760))
def countedB (ev su mx:Int):Bool:=decide (1≤ev∧ev≤1000)&&(decide (0≤su∧su≤1000000000000)&&decide (0≤mx∧mx≤su))
def wB (x:Wd):Bool:=namedB x.a x.m x.mo&&(countedB x.ev x.su x.mx&&(tagsB x.ts&&timedB x.hs x.mo x.su))
theorem hsum_take (hs:List H) (k:Nat) (h:k<hs.length):hsum (hs.take (k+1))=hsum (hs.take k)+(hs.getD k H.zero).s:=by
 unfold hsum
 rw [take_more (z:=H.zero) hs k h,List.map_append,List.sum_append]
 simp
theorem hsum_nn {hs:List H} {mo su:Int} (h:hs.all (hOk mo su)=true):0≤hsum hs:=by
 unfold hsum
 induction hs with
 | nil=>simp
 | cons x l ih =>
  simp only [List.all_cons,Bool.and_eq_true] at h
  have:=ih h.2
  have h1:=h.1
  unfold hOk at h1
  simp only [Bool.and_eq_true,decide_eq_true_eq] at h1
  simp only [List.map_cons,List.sum_cons]
  omega
theorem hsum_le {hs:List H} {mo su:Int} (h:hs.all (hOk mo su)=true) (k:Nat):hsum (hs.take k)≤hsum hs:=by
 have h2:(hs.drop k).all (hOk mo su)=true:=by
  rw [List.all_eq_true] at *
  exact fun x hx=>h x (List.mem_of_mem_drop hx)
 have:=hsum_nn h2
 have e:hsum hs=hsum (hs.take k)+hsum (hs.drop k):=by
  unfold hsum
  rw [←List.sum_append,←List.map_append,List.take_append_drop]
 omega
def HUp (hs:List H) (mo su:Int) (k:Nat):Prop:=∀i,i<k→hourIn (hs.getD i H.zero).h mo=true∧0≤(hs.getD i H.zero).s∧(hs.getD i H.zero).s≤su-hsum (hs.take i)
theorem HUp.zero (hs:List H) (mo su:Int):HUp hs mo su 0:=fun i h=>absurd h (by omega)
theorem HUp.more {hs:List H} {mo su:Int} {k:Nat} (h:HUp hs mo su k) (h1:hourIn (hs.getD k H.zero).h mo=true) (h2:0≤(hs.getD k H.zero).s) (h3:(hs.getD k H.zero).s≤su-hsum (hs.take k)):HUp hs mo su (k+1):=by
 intro i hi
 by_cases e:i=k
 ·subst e;exact ⟨h1,h2,h3⟩
 ·exact h i (by omega)
theorem HUp.nn {hs:List H} {mo su:Int} {k:Nat} (h:HUp hs mo su k) (hk:k≤hs.length):0≤hsum (hs.take k):=by
 induction k with
 | zero=>simp [hsum]
 | succ k ih =>
  have h1:=h k (by omega)
  have:=ih (fun i hi=>h i (by omega)) (by omega)
  rw [hsum_take hs k (by omega)]
  omega
theorem HUp.all {hs:List H} {mo su:Int} (h:HUp hs mo su hs.length):hs.all (hOk mo su)=true:=by
 rw [List.all_eq_true]
 intro x hx
 obtain ⟨k,hk,rfl⟩:=List.getElem_of_mem hx
 have h1:=h k hk
 have h2:=HUp.nn (k:=k) (fun i hi=>h i (by omega)) (by omega)
 have e:hs.getD k H.zero=hs[k]:=by simp [List.getD,hk]
 rw [e] at h1
 unfold hOk
 simp only [Bool.and_eq_true,decide_eq_true_eq]
 exact ⟨h1.1,h1.2.1,by omega⟩
theorem hours_rise {hs:List H} {mo su:Int} (h:riseB hlt H.zero hs=false):hoursB hs mo su=false:=by unfold hoursB;rw [h,Bool.false_and]
theorem hours_end {hs:List H} {mo su:Int} (hr:riseB hlt H.zero hs=true) (h:HUp hs mo su hs.length):hoursB hs mo su=decide (su-hsum hs=0):=by
 unfold hoursB
 rw [hr,h.all,Bool.true_and,Bool.true_and]
 exact decide_eq_decide.2 ⟨fun e=>by omega,fun e=>by omega⟩
theorem hours_no {hs:List H} {mo su:Int} {k:Nat} (hk:k<hs.length) (h:¬(hourIn (hs.getD k H.zero).h mo=true∧0≤(hs.getD k H.zero).s∧(hs.getD k H.zero).s≤su-hsum (hs.take k))):hoursB hs mo su=false:=by
 cases hb:hoursB hs mo su
 ·rfl
 ·exfalso
  unfold hoursB at hb
  simp only [Bool.and_eq_true,decide_eq_true_eq] at hb
  obtain ⟨_,h1,h2⟩:=hb
  have h3:=all_get (z:=H.zero) _ h1 hk
  have h4:=hsum_le h1 (k+1)
  rw [hsum_take hs k hk] at h4
  unfold hOk at h3
  simp only [Bool.and_eq_true,decide_eq_true_eq] at h3
  exact h ⟨h3.1,h3.2.1,by omega⟩
def SUp (hs:List H) (mo su:Int) (k:Nat):Prop:=RiseTo hlt H.zero hs k∧(hs.take k).all (hOk mo su)=true
theorem SUp.zero (hs:List H) (mo su:Int):SUp hs mo su 0:=⟨rise_one 0 (by omega),by simp⟩
theorem SUp.more {hs:List H} {mo su:Int} {k:Nat} (h:SUp hs mo su k) (hk:k<hs.length) (h1:hOk mo su (hs.getD k H.zero)=true) (h2:0<k→hlt (hs.getD (k-1) H.zero) (hs.getD k H.zero)=true):SUp hs mo su (k+1) :=
 ⟨h.1.more h2,by rw [all_take (z:=H.zero) _ k hk,h.2,h1];rfl⟩
theorem SUp.sum {hs:List H} {mo su:Int} {k:Nat} (h:SUp hs mo su k) (hsu:0≤su) (hk:k≤hs.length):0≤hsum (hs.take k)∧hsum (hs.take k)≤su*k:=by
 have hn:=hsum_nn h.2
 refine ⟨hn,?_⟩
 have h2:=h.2
 clear h hn
 induction k with
 | zero=>simp [hsum]
 | succ k ih =>
  rw [all_take (z:=H.zero) _ k (by omega),Bool.and_eq_true] at h2
  have:=ih (by omega) h2.1
  have h3:=h2.2
  unfold hOk at h3
  simp only [Bool.and_eq_true,decide_eq_true_eq] at h3
  rw [hsum_take hs k (by omega)]
  have e:su*((k+1:Nat):Int)=su*k+su:=by rw [Int.natCast_add,Int.mul_add];simp
  omega
theorem hours_bad {hs:List H} {mo su:Int} {k:Nat} (hk:k<hs.length) (h:hOk mo su (hs.getD k H.zero)=false∨(0<k∧hlt (hs.getD (k-1) H.zero) (hs.getD k H.zero)=false)):hoursB hs mo su=false:=by
 unfold hoursB
 rcases h with h|⟨h0,h⟩
 ·rw [all_no _ hk h];simp
 ·rw [rise_no hk h0 h];simp
theorem hours_done {hs:List H} {mo su:Int} (h:SUp hs mo su hs.length):hoursB hs mo su=decide (hsum hs=su):=by
 unfold hoursB
 have h2:=h.2
 rw [List.take_length] at h2
 rw [rise_yes h.1,h2,Bool.true_and,Bool.true_and]
def TUp (ts:List ByteArray) (k:Nat):Prop:=RiseTo lt tz ts k∧(ts.take k).all tagOk=true
theorem TUp.zero (ts:List ByteArray):TUp ts 0:=⟨rise_one 0 (by omega),by simp⟩
theorem TUp.more {ts:List ByteArray} {k:Nat} (h:TUp ts k) (hk:k<ts.length) (h1:tagOk (ts.getD k tz)=true) (h2:0<k→lt (ts.getD (k-1) tz) (ts.getD k tz)=true):TUp ts (k+1) :=
 ⟨h.1.more h2,by rw [all_take (z:=tz) _ k hk,h.2,h1];rfl⟩
theorem tags_bad {ts:List ByteArray} {k:Nat} (hk:k<ts.length) (h:tagOk (ts.getD k tz)=false∨(0<k∧lt (ts.getD (k-1) tz) (ts.getD k tz)=false)):tagsB ts=false:=by
 unfold tagsB
 rcases h with h|⟨h0,h⟩
 ·rw [all_no _ hk h];simp
 ·rw [rise_no hk h0 h];simp
theorem tags_done {ts:List ByteArray} (h:TUp ts ts.length):tagsB ts=decide (ts.length≤12):=by
 unfold tagsB
 have h2:=h.2
 rw [List.take_length] at h2
 rw [rise_yes h.1,h2,Bool.true_and,Bool.and_true]
theorem tags_long {ts:List ByteArray} (h:12<ts.length):tagsB ts=false:=by
 unfold tagsB
 rw [decide_eq_false (by omega),Bool.false_and]
theorem tags_rise {ts:List ByteArray} (h:riseB lt tz ts=false):tagsB ts=false:=by
 unfold tagsB
 rw [h];simp
theorem tags_end {ts:List ByteArray} (h12:ts.length≤12) (hr:riseB lt tz ts=true):tagsB ts=ts.all tagOk:=by
 unfold tagsB
 rw [hr,decide_eq_true h12,Bool.true_and,Bool.true_and]
theorem hour_month {h mo v:Int} (h1:0≤h) (h2:h≤2016666) (k:Nat) (hv:v=(k:Int)) (f1:fd k≤60*h / 1440) (f2:60*h / 1440<fd (k+1)):hourIn h mo=decide (v=mo):=by
 unfold hourIn
 subst hv
 apply decide_eq_decide.2
 constructor
 ·rintro ⟨_,_,c,d,e⟩
  have g1:=fd_one f1 e
  have g2:=fd_one d f2
  omega
 ·rintro rfl
  exact ⟨h1,h2,by omega,by simpa using f1,by simpa using f2⟩
theorem hour_far {h mo:Int} (hx:¬(0≤h∧h≤2016666)):hourIn h mo=false:=by
 unfold hourIn
 exact decide_eq_false (fun q=>hx ⟨q.1,q.2.1⟩)
end WinR
namespace WinR
section
variable {α:Type} (lt:α→α→Bool) (f:α→α→α)
def mrg:List α→List α→List α
 | [],ys=>ys
 | x::xs,[]=>x::xs
 | x::xs,y::ys=>if lt x y then x::mrg xs (y::ys) else if lt y x then y::mrg (x::xs) ys else f x y::mrg xs ys
termination_by a b=>a.length+b.length
def ins:List α→α→List α
 | [],y=>[y]
 | x::xs,y=>if lt x y then x::ins xs y else if lt y x then y::x::xs else f x y::xs
def Rs:List α→Prop
 | []=>True
 | [_]=>True
 | x::y::l=>lt x y=true∧Rs (y::l)
theorem mrg_nil (a:List α):mrg lt f a []=a:=by cases a<;>simp [mrg]
theorem mrg_head (x:α) (xs ys:List α) (h:∀y∈ys.head?,lt x y=true):mrg lt f (x::xs) ys=x::mrg lt f xs ys:=by
 cases ys with
 | nil=>simp [mrg_nil]
 | cons y l =>
  have:=h y (by simp)
  rw [mrg,if_pos this]
variable (tr:∀x y z,lt x y=true→lt y z=true→lt x z=true) (te:∀x y z,lt x y=false→lt y x=false→lt y z=true→lt (f x y) z=true)
include tr te
theorem mrg_ins (a:List α) (y:α) (ys:List α) (h:∀z∈ys.head?,lt y z=true):mrg lt f a (y::ys)=mrg lt f (ins lt f a y) ys:=by
 induction a with
 | nil=>rw [mrg,ins,mrg_head lt f y [] ys h,mrg]
 | cons x xs ih =>
  rw [mrg,ins]
  by_cases h1:lt x y=true
  ·rw [if_pos h1,if_pos h1,ih,mrg_head lt f x _ ys (fun z hz=>tr _ _ _ h1 (h z hz))]
  ·rw [if_neg h1,if_neg h1]
   by_cases h2:lt y x=true
   ·rw [if_pos h2,if_pos h2,mrg_head lt f y _ ys h]
   ·rw [if_neg h2,if_neg h2,mrg_head lt f (f x y) xs ys (fun z hz=>te _ _ _ (by simpa using h1) (by simpa using h2) (h z hz))]
theorem mrg_fold (a b:List α) (h:Rs lt b):mrg lt f a b=b.foldl (ins lt f) a:=by
 induction b generalizing a with
 | nil=>rw [mrg_nil];rfl
 | cons y ys ih =>
  have hy:∀z∈ys.head?,lt y z=true:=by
   intro z hz
   cases ys with
   | nil=>simp at hz
   | cons z' l=>simp at hz;subst hz;exact h.1
  have hr:Rs lt ys:=by
   cases ys with
   | nil=>trivial
   | cons z' l=>exact h.2
  rw [mrg_ins lt f tr te a y ys hy,ih _ hr]
  rfl
end
end WinR
namespace WinR
open RowG LtR
open CatR (Blk Blk.new)
theorem bdN {B:Nat} {a w:World} (h:Below B a w) (n:Nat):Below B a (w.drewN n):=⟨h.os,h.tape,h.output,h.size,h.block⟩
theorem leq_yes {a p:ByteArray} (h:(Op.bytesLess a.toList p.toList||(a.toList==p.toList))=true):lt p a=false:=by
 rw [Bool.or_eq_true] at h
 rcases h with h|h
 ·exact lt_asymm h
 ·rw [toList_inj (beq_iff_eq.1 h)];exact lt_irrefl _
theorem leq_no {a p:ByteArray} (h:(Op.bytesLess a.toList p.toList||(a.toList==p.toList))=false):lt p a=true:=by
 rw [Bool.or_eq_false_iff] at h
 cases h2:lt p a
 ·have:=lt_total h2 h.1
  rw [this] at h
  simp at h
 ·rfl
theorem tkey (t:ByteArray) (w:World):Calls Tryd.prog 60 #[.string t] w fun e w'=>e=.returned (.string t)∧w'=w:=by
 go_enter Tryd.func60,Tryd.ntmps60
 go_wp2
 go_ret
 exact ⟨rfl,rfl⟩
theorem hkey (h s:Int) (w:World):Calls Tryd.prog 62 #[.agg #[.int .i64 h,.int .i64 s]] w fun e w'=>e=.returned (.int .i64 h)∧Below w.heap.size w w':=by
 go_enter Tryd.func62,Tryd.ntmps62
 go_wp2
 go_ret
 exact ⟨rfl,(Below.refl _ _).alloc (Nat.le_refl _) _⟩
set_option maxRecDepth 100000 in
set_option maxHeartbeats 4000000 in
theorem tags_rises (ao:Option Addr) (cap:Nat) (ts:List ByteArray) (w:World) (hlen:ts.length≤1048576) (hI:Tgs ao ts w) :
 Calls Tryd.prog 67 #[.agg #[.slice ao ts.length cap,.func (.func 60) #[] #[],.func (.func 61) #[] #[]]] w fun e w'=>e=.returned (.bool (riseB lt tz ts))∧Below w.heap.size w w':=by
 have HI:=H_ hI
 have HNO:=H_ (fun k=>rise_no (r:=lt) (z:=tz) (xs:=ts) (k:=k))
 have HYES:Hid (RiseTo lt tz ts ts.length→riseB lt tz ts=true):=H_ rise_yes
 generalize riseB lt tz ts=R at *
 obtain ⟨len,hl⟩:∃len,len=ts.length:=⟨_,rfl⟩
 rw [←hl] at hlen HYES ⊢
 have HL:=H_ hl
 have HK:=H_ tkey
 clear hI hl
 have HB0:Hid (Below w.heap.size w (w.alloc (.cells #[.slice ao len cap,.func (.func 60) #[] #[],.func (.func 61) #[] #[]] 48))):=H_ ((Below.refl _ _).alloc (Nat.le_refl _) _)
 have HX0:Hid (Blk w.heap.size [.slice ao len cap,.func (.func 60) #[] #[],.func (.func 61) #[] #[]] (w.alloc (.cells #[.slice ao len cap,.func (.func 60) #[] #[],.func (.func 61) #[] #[]] 48))):=H_ (Blk.new w _ _)
 go_enter Tryd.func67,Tryd.ntmps67
 go_wp2_with fail
 go_loopw [3] (fun z wr=>∃j:Nat,(j=0∨j+1≤len)∧z=.int .i64 ((j:Int)+1)∧Hid (RiseTo lt tz ts (j+1))∧Hid (Below w.heap.size w wr)∧Hid (Blk w.heap.size [.slice ao len cap,.func (.func 60) #[] #[],.func (.func 61) #[] #[]] wr)) (fun z _=>len-(intOf z).toNat)
 case atStart=>exact ⟨0,by omega,rfl,H_ (rise_one _ (by omega)),HB0,HX0⟩
 case round =>
  obtain ⟨j,hj,rfl,HR,HB,HX⟩:=hrel
  obtain ⟨xl,xc⟩:=HX.out
  have x0:wr.cell? ⟨w.heap.size,0,none⟩=some (.slice ao len cap):=xc 0 (by simp)
  have x1:wr.cell? ⟨w.heap.size,1,none⟩=some (.func (.func 60) #[] #[]):=xc 1 (by simp)
  clear xc
  by_cases hlt:j+1<len
  ·have hlt2:(j:Int)+1<(len:Int):=by omega
   obtain ⟨b,off,rfl,hbl,c1⟩:=(HI.out.below HB.out).at (j+1) (by have:=HL.out;omega)
   obtain ⟨b',off',he,_,c0⟩:=(HI.out.below HB.out).at j (by have:=HL.out;omega)
   obtain ⟨rfl,rfl⟩:b=b'∧off=off':=by simpa using he
   have HN:=H_ (HNO.out (j+1) (by have:=HL.out;omega) (by omega))
   have HM:=H_ (fun h=>HR.out.more (k:=j+1) h)
   rw [Nat.add_sub_cancel] at HN HM
   generalize ts.getD (j+1) tz=X at *
   generalize ts.getD j tz=Y at *
   cases hle:(Op.bytesLess X.toList Y.toList||(X.toList==Y.toList))
   ·have HM2:=H_ (HM.out (fun _=>leq_no hle))
    go_wp2_with fail
    go_quiet ((go_at_call 60;exact Calls.quiet_of_same (HK.out _ _)))
    go_wp2_with fail
    go_roundw
    case rel=>exact ⟨j+1,by omega,by go_num,HM2,H_ (bdN HB.out _),H_ (HX.out.drewN _)⟩
    case measure=>simp [intOf];omega
   ·have HF:Hid (R=false):=H_ (HN.out (leq_yes hle))
    go_wp2_with fail
    go_quiet ((go_at_call 60;exact Calls.quiet_of_same (HK.out _ _)))
    go_wp2_with fail
    go_ret
    exact ⟨ret_bool HF.out.symm,bdN HB.out _⟩
  ·have hlt2:¬(j:Int)+1<(len:Int):=by omega
   have HF:Hid (R=true):=H_ (HYES.out (fun i h1 h2=>HR.out i (by omega) h2))
   go_wp2_with fail
   go_ret
   exact ⟨ret_bool HF.out.symm,HB.out⟩
end WinR
namespace WinR
open RowG
open EvtR (Pt)
def Wd.Small (x:Wd):Prop:=x.a.size≤1048576∧x.m.size≤1048576∧x.ts.length≤1048576∧(∀t∈x.ts,t.size≤1048576)∧x.hs.length≤1048576
end WinR
namespace WinR
open RowG
open EvtR (Pt)
theorem infoT:(Tryd.prog.info? 9).map (fun i=>(i.zero,i.size,i.bytes))=some (some (.string ⟨#[]⟩),1,16):=by kernel_rfl
theorem infoH:(Tryd.prog.info? 87).map (fun i=>(i.zero,i.size,i.bytes))=some (some (.agg #[.int .i64 0,.int .i64 0]),2,16):=by kernel_rfl
end WinR
namespace WinR
open RowG
open EvtR (Pt)
open CatR (Blk Blk.new)
def BlkW (b:Nat) (cs:List Value) (w:World):Prop:=Blk b cs w∧∀i,i<cs.length→w.frozen? ⟨b,i,none⟩=false
theorem BlkW.below {b:Nat} {cs:List Value} {w w':World} (h:BlkW b cs w) (hb:Below w.heap.size w w'):BlkW b cs w' :=
 ⟨h.1.below hb,fun i hi=>(hb.frozen (p:=⟨b,i,none⟩) h.1.1).trans (h.2 i hi)⟩
theorem BlkW.new (w:World) (cs:List Value) (T:TypeId):BlkW w.heap.size cs (w.alloc (.cells cs.toArray T)) :=
 ⟨Blk.new w cs T,fun i hi=>by simp [go_sem]⟩
theorem BlkW.set {b:Nat} {cs:List Value} {w:World} (h:BlkW b cs w) (o:Nat) (v:Value) (ho:o<cs.length):BlkW b (cs.set o v) (w.setCell ⟨b,o,none⟩ v):=by
 obtain ⟨⟨hl,hc⟩,hf⟩:=h
 refine ⟨⟨by simpa using hl,fun i hi=>?_⟩,fun i hi=>?_⟩
 ·rw [List.length_set] at hi
  by_cases e:o=i
  ·subst e
   have:=hc o hi
   rw [List.getElem?_eq_getElem hi] at this
   rw [List.getElem?_set_self ho]
   simp [go_sem,this]
  ·rw [List.getElem?_set_ne e,←hc i hi]
   simp [go_sem]
 ·rw [List.length_set] at hi
  have:=hf i hi
  simp [go_sem,this]
theorem BlkW.other {b:Nat} {cs:List Value} {w:World} (h:BlkW b cs w) (g o:Nat) (v:Value) (hg:g≠b):BlkW b cs (w.setCell ⟨g,o,none⟩ v):=by
 have e:=(grown_set w g o v).block b h.1.1 (by simp;exact fun q=>hg q.symm)
 exact ⟨⟨by simpa using h.1.1,fun i hi=>(World.cell?_of_block (a:=⟨b,i,none⟩) e).trans (h.1.2 i hi)⟩,fun i hi=>(World.frozen?_of_block (a:=⟨b,i,none⟩) e).trans (h.2 i hi)⟩
theorem Rws.put {α:Type} {k:Nat} {cells:α→List Value} {z:α} {ao:Option Addr} {xs:List α} {w:World} (h:Rws k cells z ao xs w) (g o:Nat) (v:Value) (hne:xs.length=0∨∀b off,ao=some ⟨b,off,none⟩→b≠g):Rws k cells z ao xs (w.setCell ⟨g,o,none⟩ v) :=
 h.grown (grown_set w g o v) (hne.imp id (fun hn b off e q=>hn b off e (by simpa using q)))
theorem MadeG.put {α:Type} {k:Nat} {cells:α→List Value} {z:α} {base:Nat} {ao:Option Addr} {xs:List α} {w:World} (h:MadeG k cells z base ao xs w) (g o:Nat) (v:Value) (hne:xs.length=0∨∀b off,ao=some ⟨b,off,none⟩→b≠g):MadeG k cells z base ao xs (w.setCell ⟨g,o,none⟩ v):=by
 refine ⟨Rws.put h.rws g o v hne,?_⟩
 rcases h.own with h0|⟨b,e1,e2,e3⟩
 ·exact .inl h0
 ·rcases hne with h0|hn
  ·exact .inl h0
  have e:=(grown_set w g o v).block b e3.lt (by simp;exact fun q=>hn b 0 e1 q)
  exact .inr ⟨b,e1,e2,by simpa using e3.lt,fun x hx=>by obtain ⟨u,hu⟩:=e3.has x hx;exact ⟨u,(World.cell?_of_block (a:=⟨b,x,none⟩) e).trans hu⟩,fun x hx=>(World.frozen?_of_block (a:=⟨b,x,none⟩) e).trans (e3.free x hx)⟩
def Apart (ta ha:Option Addr) (tl hl:Nat):Prop:=tl=0∨hl=0∨∀b o b' o',ta=some ⟨b,o,none⟩→ha=some ⟨b',o',none⟩→b≠b'
def MadeW (base:Nat) (x:Wd) (v:Value) (w:World):Prop:=∃ta tc ha hc,v=.agg (wcells x ta tc ha hc)∧MadeG 1 tcells tz base ta x.ts w∧MadeG 2 H.cells H.zero base ha x.hs w∧Apart ta ha x.ts.length x.hs.length
theorem MadeW.below {base:Nat} {x:Wd} {v:Value} {w w':World} (h:MadeW base x v w) (hb:Below w.heap.size w w'):MadeW base x v w':=by
 obtain ⟨ta,tc,ha,hc,hv,h1,h2,h3⟩:=h
 exact ⟨ta,tc,ha,hc,hv,h1.below hb,h2.below hb,h3⟩
theorem MadeW.low {base base':Nat} {x:Wd} {v:Value} {w:World} (h:MadeW base x v w) (hb:base'≤base):MadeW base' x v w:=by
 obtain ⟨ta,tc,ha,hc,hv,h1,h2,h3⟩:=h
 exact ⟨ta,tc,ha,hc,hv,h1.low hb,h2.low hb,h3⟩
end WinR
namespace WinR
open RowG LtR
open CatR (Blk Blk.new)
def HSt (w:World) (ao:Option Addr) (len cap:Nat) (b o1 o2:Nat) (x y:H) (W:World):Prop:=Below w.heap.size w W∧w.heap.size<W.heap.size∧b<W.heap.size∧W.cell? ⟨w.heap.size,0,none⟩=some (.slice ao len cap)∧W.cell? ⟨w.heap.size,1,none⟩=some (.func (.func 62) #[] #[])∧W.cell? ⟨w.heap.size,2,none⟩=some (.func (.func 63) #[] #[])∧W.cell? ⟨b,o1,none⟩=some (.int .i64 x.h)∧W.cell? ⟨b,o1+1,none⟩=some (.int .i64 x.s)∧W.cell? ⟨b,o2,none⟩=some (.int .i64 y.h)∧W.cell? ⟨b,o2+1,none⟩=some (.int .i64 y.s)
theorem HSt.below {w:World} {ao:Option Addr} {len cap b o1 o2:Nat} {x y:H} {W W':World} (h:HSt w ao len cap b o1 o2 x y W) (hb:Below W.heap.size W W'):HSt w ao len cap b o1 o2 x y W':=by
 obtain ⟨h0,h1,h2,c0,c1,c2,d0,d1,d2,d3⟩:=h
 have c:=fun o=>hb.cell (p:=⟨w.heap.size,o,none⟩) h1
 have d:=fun o=>hb.cell (p:=⟨b,o,none⟩) h2
 have:=hb.size
 exact ⟨h0.trans (hb.mono h0.size),by omega,by omega,(c 0).trans c0,(c 1).trans c1,(c 2).trans c2,(d _).trans d0,(d _).trans d1,(d _).trans d2,(d _).trans d3⟩
set_option maxRecDepth 100000 in
set_option maxHeartbeats 4000000 in
theorem hours_rises (ao:Option Addr) (cap:Nat) (hs:List H) (w:World) (hlen:hs.length≤1048576) (hI:Hrs ao hs w) :
 Calls Tryd.prog 70 #[.agg #[.slice ao hs.length cap,.func (.func 62) #[] #[],.func (.func 63) #[] #[]]] w fun e w'=>e=.returned (.bool (riseB hlt H.zero hs))∧Below w.heap.size w w':=by
 have HI:=H_ hI
 have HNO:=H_ (fun k=>rise_no (r:=hlt) (z:=H.zero) (xs:=hs) (k:=k))
 have HYES:Hid (RiseTo hlt H.zero hs hs.length→riseB hlt H.zero hs=true):=H_ rise_yes
 generalize riseB hlt H.zero hs=R at *
 obtain ⟨len,hl⟩:∃len,len=hs.length:=⟨_,rfl⟩
 rw [←hl] at hlen HYES ⊢
 have HL:=H_ hl
 clear hI hl
 have HB0:Hid (Below w.heap.size w (w.alloc (.cells #[.slice ao len cap,.func (.func 62) #[] #[],.func (.func 63) #[] #[]] 52))):=H_ ((Below.refl _ _).alloc (Nat.le_refl _) _)
 have HX0:Hid (Blk w.heap.size [.slice ao len cap,.func (.func 62) #[] #[],.func (.func 63) #[] #[]] (w.alloc (.cells #[.slice ao len cap,.func (.func 62) #[] #[],.func (.func 63) #[] #[]] 52))):=H_ (Blk.new w _ _)
 go_enter Tryd.func70,Tryd.ntmps70
 go_wp2_with fail
 go_loopw [3] (fun z wr=>∃k:Nat,1≤k∧(k=1∨k≤len)∧z=.int .i64 (k:Int)∧Hid (RiseTo hlt H.zero hs k)∧Hid (Below w.heap.size w wr)∧Hid (Blk w.heap.size [.slice ao len cap,.func (.func 62) #[] #[],.func (.func 63) #[] #[]] wr)) (fun z _=>len-(intOf z).toNat)
 case atStart=>exact ⟨1,by omega,by omega,rfl,H_ (rise_one _ (by omega)),HB0,HX0⟩
 case round =>
  obtain ⟨k,hk1,hk2,rfl,HR,HB,HX⟩:=hrel
  obtain ⟨xl,xc⟩:=HX.out
  have x0:wr.cell? ⟨w.heap.size,0,none⟩=some (.slice ao len cap):=xc 0 (by simp)
  have x1:wr.cell? ⟨w.heap.size,1,none⟩=some (.func (.func 62) #[] #[]):=xc 1 (by simp)
  have x2:wr.cell? ⟨w.heap.size,2,none⟩=some (.func (.func 63) #[] #[]):=xc 2 (by simp)
  clear xc
  by_cases hlt1:k<len
  ·have hlt2:(k:Int)<(len:Int):=by omega
   have hk0:(0:Int)≤(k:Int):=by omega
   obtain ⟨j,hj⟩:∃j,j=k-1:=⟨_,rfl⟩
   have hj0:(0:Int)≤(j:Int):=by omega
   have hj1:(j:Int)<(len:Int):=by omega
   have hwr:IntKind.i64.wrap ((k:Int)-1)=(j:Int):=by rw [IntKind.wrap_i64];omega
   obtain ⟨b,off,rfl,hbl,c1,c2⟩:=(HI.out.below HB.out).at k (by have:=HL.out;omega)
   obtain ⟨b',off',he,_,d1,d2⟩:=(HI.out.below HB.out).at j (by have:=HL.out;omega)
   obtain ⟨rfl,rfl⟩:b=b'∧off=off':=by simpa using he
   have HN:=H_ (HNO.out k (by have:=HL.out;omega) (by omega))
   have HM:=H_ (fun h=>HR.out.more (k:=k) h)
   rw [←hj] at HN HM
   generalize hs.getD k H.zero=X at *
   generalize hs.getD j H.zero=Y at *
   have HS0:Hid (HSt w (some ⟨b,off,none⟩) len cap b (off+k*2) (off+j*2) X Y wr.drew):=H_ (HSt.below ⟨HB.out,xl,hbl,x0,x1,x2,c1,c2,d1,d2⟩ (Below.refl _ _).drew)
   obtain ⟨xh,xs⟩:=X
   obtain ⟨yh,ys⟩:=Y
   dsimp only at c1 c2 d1 d2
   clear hj
   by_cases hle:xh≤yh
   ·have HF:Hid (R=false):=H_ (HN.out (by unfold hlt;exact decide_eq_false (by show ¬yh<xh;omega)))
    go_wp2_with fail
    go_region_held3 (fun W=>Below w.heap.size w W∧w.heap.size<W.heap.size∧b<W.heap.size∧W.cell? ⟨w.heap.size,0,none⟩=some (.slice (some ⟨b,off,none⟩) len cap)∧W.cell? ⟨w.heap.size,1,none⟩=some (.func (.func 62) #[] #[])∧W.cell? ⟨w.heap.size,2,none⟩=some (.func (.func 63) #[] #[])∧W.cell? ⟨b,off+k*2,none⟩=some (.int .i64 xh)∧W.cell? ⟨b,off+k*2+1,none⟩=some (.int .i64 xs)∧W.cell? ⟨b,off+j*2,none⟩=some (.int .i64 yh)∧W.cell? ⟨b,off+j*2+1,none⟩=some (.int .i64 ys)) (first|assumption|(exact HS0.out)|(exact HSt.below (x:=⟨xh,xs⟩) (y:=⟨yh,ys⟩) (by assumption) hb))
     (first|(go_at_call 62;refine (hkey _ _ _).mono ?_;rintro e w' ⟨rfl,hb⟩))
    rename_i hSz
    have HSz:=H_ hSz.1
    clear hSz
    go_wp2_with fail
    go_ret
    exact ⟨ret_bool HF.out.symm,HSz.out⟩
   ·have hle2:yh<xh:=by omega
    have HM2:=H_ (HM.out (fun _=>by unfold hlt;exact decide_eq_true (by show yh<xh;omega)))
    go_wp2_with fail
    go_region_held3 (fun W=>Below w.heap.size w W∧w.heap.size<W.heap.size∧b<W.heap.size∧W.cell? ⟨w.heap.size,0,none⟩=some (.slice (some ⟨b,off,none⟩) len cap)∧W.cell? ⟨w.heap.size,1,none⟩=some (.func (.func 62) #[] #[])∧W.cell? ⟨w.heap.size,2,none⟩=some (.func (.func 63) #[] #[])∧W.cell? ⟨b,off+k*2,none⟩=some (.int .i64 xh)∧W.cell? ⟨b,off+k*2+1,none⟩=some (.int .i64 xs)∧W.cell? ⟨b,off+j*2,none⟩=some (.int .i64 yh)∧W.cell? ⟨b,off+j*2+1,none⟩=some (.int .i64 ys)) (first|assumption|(exact HS0.out)|(exact HSt.below (x:=⟨xh,xs⟩) (y:=⟨yh,ys⟩) (by assumption) hb))
     (first|(go_at_call 62;refine (hkey _ _ _).mono ?_;rintro e w' ⟨rfl,hb⟩))
    rename_i hSz
    have HSz:=H_ hSz.1
    have HSy:Hid (Blk w.heap.size [.slice (some ⟨b,off,none⟩) len cap,.func (.func 62) #[] #[],.func (.func 63) #[] #[]] w'):=H_ ⟨hSz.2.1,fun i hi=>by
     match i,hi with
     | 0,_=>exact hSz.2.2.2.1
     | 1,_=>exact hSz.2.2.2.2.1
     | 2,_=>exact hSz.2.2.2.2.2.1⟩
    clear hSz
    go_wp2_with fail
    go_roundw
    case rel=>exact ⟨k+1,by omega,by omega,by go_num,HM2,HSz,HSy⟩
    case measure=>simp [intOf];omega
  ·have hlt2:¬(k:Int)<(len:Int):=by omega
   have HF:Hid (R=true):=H_ (HYES.out (fun i h1 h2=>HR.out i (by omega) h2))
   go_wp2_with fail
   go_ret
   exact ⟨ret_bool HF.out.symm,HB.out⟩
end WinR
namespace DateR
open DateM
theorem less_month (y left:Int) (j J:Nat) (h1:ms y J≤left) (h2:left<ms y (J+1)) (hj:j≤J) (hJ:J<12) (y1:1970≤y) (y2:y≤2200) :
 ∃L X:Int,L=left-ms y j∧X=mdays y ((j:Int)+1)∧0≤L∧L≤400∧28≤X∧X≤31∧(j<J→¬L<X)∧(j=J→L<X)∧L-X=left-ms y (j+1):=by
 have a:=ms_mono y hj
 have b:=ms_bd y (J+1)
 have b2:=ms_bd y j
 have c:mdays y ((j:Int)+1)=md y ((j:Int)+1):=if_pos (by omega)
 have d:=md_bd y ((j:Int)+1)
 have e:=ms_succ y j
 refine ⟨_,_,rfl,rfl,by omega,by omega,by omega,by omega,fun h=>?_,fun h=>?_,by omega⟩
 ·have:=ms_mono y (show j+1≤J from h)
  omega
 ·subst h;omega
set_option maxRecDepth 100000 in
set_option maxHeartbeats 4000000 in
theorem iny (y left:Int) (J:Nat) (h1:ms y J≤left) (h2:left<ms y (J+1)) (hJ:J<12) (y1:1970≤y) (y2:y≤2200) (w:World) (hL:Laid w) :
 Calls Tryd.prog 93 #[.int .i64 y,.int .i64 left] w fun e w'=>e=.returned (date y ((J:Int)+1) (left-ms y J+1))∧Below w.heap.size w w':=by
 have HB0:=H_ ((Below.refl w.heap.size w).alloc (Nat.le_refl _) (Obj.cells #[.int .i64 0,.int .i64 0,.int .i64 0] 101))
 have HL:=H_ (hL.below HB0.out)
 have H:=fun j hj=>less_month y left j J h1 h2 hj hJ y1 y2
 have HH:=H_ H
 clear H hL h1 h2
 go_enter Tryd.func93,Tryd.ntmps93
 go_wp2_with fail
 go_loop [1,7] (fun x z=>∃j:Nat,j≤J∧z=.int .i64 j∧x=.int .i64 (left-ms y j)) (fun _ z=>J+1-(intOf z).toNat)
 case atStart=>exact ⟨0,by omega,rfl,by simp [ms]⟩
 case round =>
  obtain ⟨j,hj,rfl,rfl⟩:=hrel
  obtain ⟨L,X,hLe,hX,l0,l1,x0,x1,f1,f2,f3⟩:=HH.out j hj
  have HI:=H_ (impl_md y ((j:Int)+1) _ HL.out)
  rw [←hX] at HI
  rw [←hLe]
  have HF:=H_ f3
  have j2:(j:Int)<12:=by omega
  have HLe:=H_ hLe
  clear hLe hX f3
  by_cases hlt:j<J
  ·have hn:=f1 hlt
   clear f1 f2
   go_wp2_with (go_at_call 95;refine HI.out.mono ?_;rintro e w' ⟨rfl,rfl⟩)
   go_round
   case rel=>exact ⟨j+1,by omega,by go_num,by rw [HF.out]⟩
   case measure=>simp [intOf];omega
  ·obtain rfl:j=J:=by omega
   have hn:=f2 rfl
   clear f1 f2
   go_wp2_with (go_at_call 95;refine HI.out.mono ?_;rintro e w' ⟨rfl,rfl⟩)
   rw [←HLe.out]
   refine bodyPost_ret (v:=date y ((j:Int)+1) (L+1)) (by simp [date,results,Tryd.results93,go_sem]) rfl ⟨rfl,?_⟩
   repeat' first|exact HB0.out|apply Below.setCell
   all_goals first|exact Nat.le_refl _|exact (Below.refl _ _).alloc (Nat.le_refl _) _
theorem less_year (day:Int) (j K:Nat) (h1:ys K≤day) (h2:day<ys (K+1)) (hj:j≤K) (hd:day≤100000) :
 ∃L X:Int,L=day-ys j∧X=yd (1970+(j:Int))∧0≤L∧L≤100000∧365≤X∧X≤366∧(j<K→¬L<X)∧(j=K→L<X)∧L-X=day-ys (j+1):=by
 have a:=ys_mono hj
 have b2:=ys_bd j
 have d:=yd_bd (1970+(j:Int))
 have e:=ys_succ j
 refine ⟨_,_,rfl,rfl,by omega,by omega,by omega,by omega,fun h=>?_,fun h=>?_,by omega⟩
 ·have:=ys_mono (show j+1≤K from h)
  omega
 ·subst h;omega
set_option maxRecDepth 100000 in
set_option maxHeartbeats 4000000 in
theorem impl_dateof_in (day:Int) (K J:Nat) (d0:0≤day) (d1:day≤100000) (h1:ys K≤day) (h2:day<ys (K+1)) (hK:K≤230) (m1:ms (1970+(K:Int)) J≤day-ys K) (m2:day-ys K<ms (1970+(K:Int)) (J+1)) (hJ:J<12) (w:World) (hL:Laid w) :
 Calls Tryd.prog 89 #[.int .i64 day] w fun e w'=>e=.returned (date (1970+(K:Int)) ((J:Int)+1) (day-ys K-ms (1970+(K:Int)) J+1))∧Below w.heap.size w w':=by
 have HB0:=H_ ((Below.refl w.heap.size w).alloc (Nat.le_refl _) (Obj.cells #[.int .i64 0,.int .i64 0,.int .i64 0] 101))
 have HL:=H_ (hL.below HB0.out)
 have HH:=H_ (fun j hj=>less_year day j K h1 h2 hj d1)
 have HY:=H_ (fun w hL=>iny (1970+(K:Int)) (day-ys K) J m1 m2 hJ (by omega) (by omega) w hL)
 clear hL h1 h2 m1 m2
 go_enter Tryd.func89,Tryd.ntmps89
 go_wp2_with (first|(go_at_call 91;go_in)|(go_at_call 66;go_in))
 go_loop [3,11] (fun x z=>∃j:Nat,j≤K∧z=.int .i64 j∧x=.int .i64 (day-ys j)) (fun _ z=>K+1-(intOf z).toNat)
 case atStart=>exact ⟨0,by omega,rfl,by simp [ys]⟩
 case round =>
  obtain ⟨j,hj,rfl,rfl⟩:=hrel
  obtain ⟨L,X,hLe,hX,l0,l1,x0,x1,f1,f2,f3⟩:=HH.out j hj
  have HI:=H_ (fun w=>impl_yd (1970+(j:Int)) w)
  rw [←hX] at HI
  rw [←hLe]
  have HF:=H_ f3
  have j2:(j:Int)<231:=by omega
  have HLe:=H_ hLe
  clear hLe hX f3
  by_cases hlt:j<K
  ·have hn:=f1 hlt
   clear f1 f2
   go_wp2_with (go_at_call 92;refine (HI.out _).mono ?_;rintro e w' ⟨rfl,rfl⟩)
   go_round
   case rel=>exact ⟨j+1,by omega,by go_num,by rw [HF.out]⟩
   case measure=>simp [intOf];omega
  ·obtain rfl:j=K:=by omega
   have hn:=f2 rfl
   rw [←HLe.out] at HY
   obtain ⟨D,hD⟩:∃D,D=L-ms (1970+(j:Int)) J+1:=⟨_,rfl⟩
   rw [←hD] at HY
   have HD:=H_ hD
   clear f1 f2 hD HH
   unfold date at *
   go_wp2_with (first|(go_at_call 92;refine (HI.out _).mono ?_;rintro e w' ⟨rfl,rfl⟩)|(go_at_call 93;refine (HY.out _ HL.out).mono ?_;rintro e w2 ⟨rfl,hb⟩;obtain ⟨hc,hz⟩:=bcell hb))
   refine bodyPost_ret (v:=date (1970+(j:Int)) ((J:Int)+1) D) (by simp [date,results,Tryd.results89,go_sem,hc]) rfl ⟨by rw [HD.out,HLe.out],?_⟩
   exact (((bel_alloc hb).setCell (by simp) _).setCell (by simp) _).setCell (by simp) _
theorem past_year (day:Int) (j K:Nat) (h1:ys K≤day) (hK:231≤K) (hj:j≤231) (hd:day≤100000) (d0:0≤day) :
 ∃L X:Int,L=day-ys j∧X=yd (1970+(j:Int))∧0≤L∧L≤100000∧365≤X∧X≤366∧(j<231→¬L<X)∧L-X=day-ys (j+1):=by
 have a:=ys_mono (show j≤K by omega)
 have b2:=ys_bd j
 have d:=yd_bd (1970+(j:Int))
 have e:=ys_succ j
 refine ⟨_,_,rfl,rfl,by omega,by omega,by omega,by omega,fun h=>?_,by omega⟩
 have:=ys_mono (show j+1≤K by omega)
 omega
set_option maxRecDepth 100000 in
set_option maxHeartbeats 4000000 in
theorem impl_dateof_past (day:Int) (K:Nat) (d0:0≤day) (d1:day≤100000) (h1:ys K≤day) (hK:231≤K) (w:World) :
 Calls Tryd.prog 89 #[.int .i64 day] w fun e w'=>e=.returned (date 0 0 0)∧Below w.heap.size w w':=by
 have HB0:=H_ ((Below.refl w.heap.size w).alloc (Nat.le_refl _) (Obj.cells #[.int .i64 0,.int .i64 0,.int .i64 0] 101))
 have HH:=H_ (fun j hj=>past_year day j K h1 hK hj d1 d0)
 clear h1 hK
 go_enter Tryd.func89,Tryd.ntmps89
 go_wp2_with (first|(go_at_call 91;go_in)|(go_at_call 66;go_in))
 go_loop [3,11] (fun x z=>∃j:Nat,j≤231∧z=.int .i64 j∧x=.int .i64 (day-ys j)) (fun _ z=>232-(intOf z).toNat)
 case atStart=>exact ⟨0,by omega,rfl,by simp [ys]⟩
 case round =>
  obtain ⟨j,hj,rfl,rfl⟩:=hrel
  obtain ⟨L,X,hLe,hX,l0,l1,x0,x1,f1,f3⟩:=HH.out j hj
  have HI:=H_ (fun w=>impl_yd (1970+(j:Int)) w)
  rw [←hX] at HI
  rw [←hLe]
  have HF:=H_ f3
  clear hLe hX f3
  by_cases hlt:j<231
  ·have hn:=f1 hlt
   have j2:(j:Int)<231:=by omega
   clear f1
   go_wp2_with (go_at_call 92;refine (HI.out _).mono ?_;rintro e w' ⟨rfl,rfl⟩)
   go_round
   case rel=>exact ⟨j+1,by omega,by go_num,by rw [HF.out]⟩
   case measure=>simp [intOf];omega
  ·have j2:¬(j:Int)<231:=by omega
   clear f1
   go_wp2_with fail
   refine bodyPost_ret (v:=date 0 0 0) (by simp [date,results,Tryd.results89,go_sem]) rfl ⟨rfl,?_⟩
   repeat' first|exact HB0.out|apply Below.setCell
   all_goals first|exact Nat.le_refl _|exact (Below.refl _ _).alloc (Nat.le_refl _) _
theorem impl_dateof_none (day:Int) (h:day<0∨100000<day) (w:World) :
 Calls Tryd.prog 89 #[.int .i64 day] w fun e w'=>e=.returned (date 0 0 0)∧Below w.heap.size w w':=by
 have key:(¬0≤day)∨(0≤day∧¬day≤100000):=by omega
 clear h
 rcases key with h1|⟨h1,h2⟩
 all_goals
  go_enter Tryd.func89,Tryd.ntmps89
  go_wp2
  refine bodyPost_ret (v:=date 0 0 0) (by simp [date,results,Tryd.results89,go_sem]) rfl ⟨rfl,?_⟩
  repeat' first|exact Below.refl _ _|apply Below.setCell|apply Below.alloc
  all_goals first|omega|(simp;done)|(simp;omega)
end DateR
end Go.Proofs.YteejpnkmnmoebaaDoor
