/-
  Windows: their tags and hours as rows of cells, and what is right of them, in numbers. No condition.
-/
import Derived.Test.YtnceeaccbcfopaaGreatDoorT27
namespace Go.Proofs.YtnceeaccbcfopaaGreatDoor
open Go.ChangeShapes Go.WideShapes Go.ChangeAt Go.RowKit
set_option linter.unusedVariables false
namespace WinR
open RowG LtR DateM
theorem H_ {p:Prop} (h:p):Hid p:=h
structure H where
 h:Int
 s:Int
structure Wd where
 a:ByteArray
 m:ByteArray
 mo:Int
 ev:Int
 su:Int
 mx:Int
 ts:List ByteArray
 hs:List H
def H.zero:H:=⟨0,0⟩
def H.cells (x:H):List Value:=[.int .i64 x.h,.int .i64 x.s]
def tz:ByteArray:=⟨#[]⟩
def tcells (t:ByteArray):List Value:=[.string t]
theorem H.len (x:H):x.cells.length=2:=rfl
theorem t_len (t:ByteArray):(tcells t).length=1:=rfl
def Tgs (ao:Option Addr) (ts:List ByteArray) (w:World):Prop:=Rws 1 tcells tz ao ts w
def Hrs (ao:Option Addr) (hs:List H) (w:World):Prop:=Rws 2 H.cells H.zero ao hs w
theorem Tgs.below {ao:Option Addr} {ts:List ByteArray} {w w':World} (h:Tgs ao ts w) (hb:Below w.heap.size w w'):Tgs ao ts w':=Rws.below h hb
theorem Hrs.below {ao:Option Addr} {hs:List H} {w w':World} (h:Hrs ao hs w) (hb:Below w.heap.size w w'):Hrs ao hs w':=Rws.below h hb
theorem Tgs.at {ao:Option Addr} {ts:List ByteArray} {w:World} (h:Tgs ao ts w) (j:Nat) (hj:j<ts.length):∃b off,ao=some ⟨b,off,none⟩∧b<w.heap.size∧w.cell? ⟨b,off+j,none⟩=some (.string (ts.getD j tz)):=by
 obtain ⟨b,off,h1,h2,h3⟩:=Rws.at h j hj
 have:=h3 0 (by omega)
 rw [Nat.mul_one] at this
 exact ⟨b,off,h1,h2,this⟩
theorem Hrs.at {ao:Option Addr} {hs:List H} {w:World} (h:Hrs ao hs w) (j:Nat) (hj:j<hs.length):∃b off,ao=some ⟨b,off,none⟩∧b<w.heap.size∧w.cell? ⟨b,off+j*2,none⟩=some (.int .i64 (hs.getD j H.zero).h)∧w.cell? ⟨b,off+j*2+1,none⟩=some (.int .i64 (hs.getD j H.zero).s):=by
 obtain ⟨b,off,h1,h2,h3⟩:=Rws.at h j hj
 exact ⟨b,off,h1,h2,h3 0 (by omega),h3 1 (by omega)⟩
def wcells (x:Wd) (ta:Option Addr) (tc:Nat) (ha:Option Addr) (hc:Nat):Array Value:=#[.string x.a,.string x.m,.int .i64 x.mo,.int .i64 x.ev,.int .i64 x.su,.int .i64 x.mx,.slice ta x.ts.length tc,.slice ha x.hs.length hc]
def IsWd (v:Value) (x:Wd) (w:World):Prop:=∃ta tc ha hc,v=.agg (wcells x ta tc ha hc)∧Tgs ta x.ts w∧Hrs ha x.hs w
theorem IsWd.below {v:Value} {x:Wd} {w w':World} (h:IsWd v x w) (hb:Below w.heap.size w w'):IsWd v x w':=by
 obtain ⟨ta,tc,ha,hc,hv,h1,h2⟩:=h
 exact ⟨ta,tc,ha,hc,hv,h1.below hb,h2.below hb⟩
def RiseTo {α:Type} (r:α→α→Bool) (z:α) (xs:List α) (k:Nat):Prop:=∀i,i<k→0<i→r (xs.getD (i-1) z) (xs.getD i z)=true
def RiseDec {α:Type} (r:α→α→Bool) (z:α) (xs:List α) (k:Nat):Decidable (RiseTo r z xs k):=inferInstanceAs (Decidable (∀i,i<k→0<i→r (xs.getD (i-1) z) (xs.getD i z)=true))
def riseB {α:Type} (r:α→α→Bool) (z:α) (xs:List α):Bool:=@decide (RiseTo r z xs xs.length) (RiseDec r z xs xs.length)
section
variable {α:Type} {r:α→α→Bool} {z:α} {xs:List α}
theorem rise_yes (h:RiseTo r z xs xs.length):riseB r z xs=true:=by unfold riseB;exact @decide_eq_true _ (RiseDec r z xs xs.length) h
theorem rise_no {k:Nat} (hk:k<xs.length) (h0:0<k) (h:r (xs.getD (k-1) z) (xs.getD k z)=false):riseB r z xs=false:=by
 unfold riseB
 exact @decide_eq_false _ (RiseDec r z xs xs.length) (fun hr=>by rw [hr k hk h0] at h;cases h)
theorem rise_one (k:Nat) (hk:k≤1):RiseTo r z xs k:=fun i h1 h2=>absurd h1 (by omega)
theorem RiseTo.more {k:Nat} (h:RiseTo r z xs k) (h1:0<k→r (xs.getD (k-1) z) (xs.getD k z)=true):RiseTo r z xs (k+1):=by
 intro i hi h0
 by_cases e:i=k
 ·subst e;exact h1 h0
 ·exact h i (by omega) h0
theorem all_take (p:α→Bool) (k:Nat) (h:k<xs.length):(xs.take (k+1)).all p=((xs.take k).all p&&p (xs.getD k z)):=by
 rw [take_more (z:=z) xs k h,List.all_append]
 simp
theorem all_no (p:α→Bool) {k:Nat} (h:k<xs.length) (hp:p (xs.getD k z)=false):xs.all p=false:=by
 rw [List.all_eq_false]
 exact ⟨_,getD_mem xs k h,by rw [hp];simp⟩
theorem all_get (p:α→Bool) (h:xs.all p=true) {k:Nat} (hk:k<xs.length):p (xs.getD k z)=true:=List.all_eq_true.1 h _ (getD_mem xs k hk)
end
def tagOk (t:ByteArray):Bool:=decide (1≤t.size)&&EvtR.tagB t
def tagsB (ts:List ByteArray):Bool:=decide (ts.length≤12)&&(riseB lt tz ts&&ts.all tagOk)
def hourIn (h mo:Int):Bool:=decide (0≤h∧h≤2016666∧0≤mo∧fd mo.toNat≤60*h / 1440∧60*h / 1440<fd (mo.toNat+1))
def hlt (x y:H):Bool:=decide (x.h<y.h)
def hOk (mo su:Int) (x:H):Bool:=hourIn x.h mo&&decide (0≤x.s∧x.s≤su)
def hsum (hs:List H):Int:=(hs.map H.s).sum
def hoursB (hs:List H) (mo su:Int):Bool:=riseB hlt H.zero hs&&(hs.all (hOk mo su)&&decide (hsum hs=su))
def timedB (hs:List H) (mo su:Int):Bool:=decide (1≤hs.length∧hs.length≤12)&&hoursB hs mo su
def namedB (a m:ByteArray) (mo:Int):Bool:=NameR.nameB a&&(NameR.nameB m&&decide (0≤mo∧mo≤2760))
def countedB (ev su mx:Int):Bool:=decide (1≤ev∧ev≤1000)&&(decide (0≤su∧su≤1000000000000)&&decide (0≤mx∧mx≤su))
def wB (x:Wd):Bool:=namedB x.a x.m x.mo&&(countedB x.ev x.su x.mx&&(tagsB x.ts&&timedB x.hs x.mo x.su))
theorem hsum_take (hs:List H) (k:Nat) (h:k<hs.length):hsum (hs.take (k+1))=hsum (hs.take k)+(hs.getD k H.zero).s:=by
 unfold hsum
 rw [take_more (z:=H.zero) hs k h,List.map_append,List.sum_append]
 simp
theorem hsum_nn {hs:List H} {mo su:Int} (h:hs.all (hOk mo su)=true):0≤hsum hs:=by
 unfold hsum
 induction hs with
 | nil=>simp
 | cons x l ih =>
  simp only [List.all_cons,Bool.and_eq_true] at h
  have:=ih h.2
  have h1:=h.1
  unfold hOk at h1
  simp only [Bool.and_eq_true,decide_eq_true_eq] at h1
  simp only [List.map_cons,List.sum_cons]
  omega
theorem hsum_le {hs:List H} {mo su:Int} (h:hs.all (hOk mo su)=true) (k:Nat):hsum (hs.take k)≤hsum hs:=by
 have h2:(hs.drop k).all (hOk mo su)=true:=by
  rw [List.all_eq_true] at *
  exact fun x hx=>h x (List.mem_of_mem_drop hx)
 have:=hsum_nn h2
 have e:hsum hs=hsum (hs.take k)+hsum (hs.drop k):=by
  unfold hsum
  rw [←List.sum_append,←List.map_append,List.take_append_drop]
 omega
def HUp (hs:List H) (mo su:Int) (k:Nat):Prop:=∀i,i<k→hourIn (hs.getD i H.zero).h mo=true∧0≤(hs.getD i H.zero).s∧(hs.getD i H.zero).s≤su-hsum (hs.take i)
theorem HUp.zero (hs:List H) (mo su:Int):HUp hs mo su 0:=fun i h=>absurd h (by omega)
theorem HUp.more {hs:List H} {mo su:Int} {k:Nat} (h:HUp hs mo su k) (h1:hourIn (hs.getD k H.zero).h mo=true) (h2:0≤(hs.getD k H.zero).s) (h3:(hs.getD k H.zero).s≤su-hsum (hs.take k)):HUp hs mo su (k+1):=by
 intro i hi
 by_cases e:i=k
 ·subst e;exact ⟨h1,h2,h3⟩
 ·exact h i (by omega)
theorem HUp.nn {hs:List H} {mo su:Int} {k:Nat} (h:HUp hs mo su k) (hk:k≤hs.length):0≤hsum (hs.take k):=by
 induction k with
 | zero=>simp [hsum]
 | succ k ih =>
  have h1:=h k (by omega)
  have:=ih (fun i hi=>h i (by omega)) (by omega)
  rw [hsum_take hs k (by omega)]
  omega
theorem HUp.all {hs:List H} {mo su:Int} (h:HUp hs mo su hs.length):hs.all (hOk mo su)=true:=by
 rw [List.all_eq_true]
 intro x hx
 obtain ⟨k,hk,rfl⟩:=List.getElem_of_mem hx
 have h1:=h k hk
 have h2:=HUp.nn (k:=k) (fun i hi=>h i (by omega)) (by omega)
 have e:hs.getD k H.zero=hs[k]:=by simp [List.getD,hk]
 rw [e] at h1
 unfold hOk
 simp only [Bool.and_eq_true,decide_eq_true_eq]
 exact ⟨h1.1,h1.2.1,by omega⟩
theorem hours_rise {hs:List H} {mo su:Int} (h:riseB hlt H.zero hs=false):hoursB hs mo su=false:=by unfold hoursB;rw [h,Bool.false_and]
theorem hours_end {hs:List H} {mo su:Int} (hr:riseB hlt H.zero hs=true) (h:HUp hs mo su hs.length):hoursB hs mo su=decide (su-hsum hs=0):=by
 unfold hoursB
 rw [hr,h.all,Bool.true_and,Bool.true_and]
 exact decide_eq_decide.2 ⟨fun e=>by omega,fun e=>by omega⟩
theorem hours_no {hs:List H} {mo su:Int} {k:Nat} (hk:k<hs.length) (h:¬(hourIn (hs.getD k H.zero).h mo=true∧0≤(hs.getD k H.zero).s∧(hs.getD k H.zero).s≤su-hsum (hs.take k))):hoursB hs mo su=false:=by
 cases hb:hoursB hs mo su
 ·rfl
 ·exfalso
  unfold hoursB at hb
  simp only [Bool.and_eq_true,decide_eq_true_eq] at hb
  obtain ⟨_,h1,h2⟩:=hb
  have h3:=all_get (z:=H.zero) _ h1 hk
  have h4:=hsum_le h1 (k+1)
  rw [hsum_take hs k hk] at h4
  unfold hOk at h3
  simp only [Bool.and_eq_true,decide_eq_true_eq] at h3
  exact h ⟨h3.1,h3.2.1,by omega⟩
def SUp (hs:List H) (mo su:Int) (k:Nat):Prop:=RiseTo hlt H.zero hs k∧(hs.take k).all (hOk mo su)=true
theorem SUp.zero (hs:List H) (mo su:Int):SUp hs mo su 0:=⟨rise_one 0 (by omega),by simp⟩
theorem SUp.more {hs:List H} {mo su:Int} {k:Nat} (h:SUp hs mo su k) (hk:k<hs.length) (h1:hOk mo su (hs.getD k H.zero)=true) (h2:0<k→hlt (hs.getD (k-1) H.zero) (hs.getD k H.zero)=true):SUp hs mo su (k+1) :=
 ⟨h.1.more h2,by rw [all_take (z:=H.zero) _ k hk,h.2,h1];rfl⟩
theorem SUp.sum {hs:List H} {mo su:Int} {k:Nat} (h:SUp hs mo su k) (hsu:0≤su) (hk:k≤hs.length):0≤hsum (hs.take k)∧hsum (hs.take k)≤su*k:=by
 have hn:=hsum_nn h.2
 refine ⟨hn,?_⟩
 have h2:=h.2
 clear h hn
 induction k with
 | zero=>simp [hsum]
 | succ k ih =>
  rw [all_take (z:=H.zero) _ k (by omega),Bool.and_eq_true] at h2
  have:=ih (by omega) h2.1
  have h3:=h2.2
  unfold hOk at h3
  simp only [Bool.and_eq_true,decide_eq_true_eq] at h3
  rw [hsum_take hs k (by omega)]
  have e:su*((k+1:Nat):Int)=su*k+su:=by rw [Int.natCast_add,Int.mul_add];simp
  omega
theorem hours_bad {hs:List H} {mo su:Int} {k:Nat} (hk:k<hs.length) (h:hOk mo su (hs.getD k H.zero)=false∨(0<k∧hlt (hs.getD (k-1) H.zero) (hs.getD k H.zero)=false)):hoursB hs mo su=false:=by
 unfold hoursB
 rcases h with h|⟨h0,h⟩
 ·rw [all_no _ hk h];simp
 ·rw [rise_no hk h0 h];simp
theorem hours_done {hs:List H} {mo su:Int} (h:SUp hs mo su hs.length):hoursB hs mo su=decide (hsum hs=su):=by
 unfold hoursB
 have h2:=h.2
 rw [List.take_length] at h2
 rw [rise_yes h.1,h2,Bool.true_and,Bool.true_and]
def TUp (ts:List ByteArray) (k:Nat):Prop:=RiseTo lt tz ts k∧(ts.take k).all tagOk=true
theorem TUp.zero (ts:List ByteArray):TUp ts 0:=⟨rise_one 0 (by omega),by simp⟩
theorem TUp.more {ts:List ByteArray} {k:Nat} (h:TUp ts k) (hk:k<ts.length) (h1:tagOk (ts.getD k tz)=true) (h2:0<k→lt (ts.getD (k-1) tz) (ts.getD k tz)=true):TUp ts (k+1) :=
 ⟨h.1.more h2,by rw [all_take (z:=tz) _ k hk,h.2,h1];rfl⟩
theorem tags_bad {ts:List ByteArray} {k:Nat} (hk:k<ts.length) (h:tagOk (ts.getD k tz)=false∨(0<k∧lt (ts.getD (k-1) tz) (ts.getD k tz)=false)):tagsB ts=false:=by
 unfold tagsB
 rcases h with h|⟨h0,h⟩
 ·rw [all_no _ hk h];simp
 ·rw [rise_no hk h0 h];simp
theorem tags_done {ts:List ByteArray} (h:TUp ts ts.length):tagsB ts=decide (ts.length≤12):=by
 unfold tagsB
 have h2:=h.2
 rw [List.take_length] at h2
 rw [rise_yes h.1,h2,Bool.true_and,Bool.and_true]
theorem tags_long {ts:List ByteArray} (h:12<ts.length):tagsB ts=false:=by
 unfold tagsB
 rw [decide_eq_false (by omega),Bool.false_and]
theorem tags_rise {ts:List ByteArray} (h:riseB lt tz ts=false):tagsB ts=false:=by
 unfold tagsB
 rw [h];simp
theorem tags_end {ts:List ByteArray} (h12:ts.length≤12) (hr:riseB lt tz ts=true):tagsB ts=ts.all tagOk:=by
 unfold tagsB
 rw [hr,decide_eq_true h12,Bool.true_and,Bool.true_and]
theorem hour_month {h mo v:Int} (h1:0≤h) (h2:h≤2016666) (k:Nat) (hv:v=(k:Int)) (f1:fd k≤60*h / 1440) (f2:60*h / 1440<fd (k+1)):hourIn h mo=decide (v=mo):=by
 unfold hourIn
 subst hv
 apply decide_eq_decide.2
 constructor
 ·rintro ⟨_,_,c,d,e⟩
  have g1:=fd_one f1 e
  have g2:=fd_one d f2
  omega
 ·rintro rfl
  exact ⟨h1,h2,by omega,by simpa using f1,by simpa using f2⟩
theorem hour_far {h mo:Int} (hx:¬(0≤h∧h≤2016666)):hourIn h mo=false:=by
 unfold hourIn
 exact decide_eq_false (fun q=>hx ⟨q.1,q.2.1⟩)
end WinR
end Go.Proofs.YtnceeaccbcfopaaGreatDoor
