/-
  Windows: their tags and hours as rows of cells, and what is right of them, in numbers.
  The program's rising lists: whether tags, hours rise.
  Windows that the law is given: how many letters, the law's own copies, and windows held against each other.
  Windows that the law is given: the law's own copies, and windows held against each other.
  The conditions stand in what each theorem says.
-/
import Derived.Deep.RegionHeld3
import Derived.BigQuiet
import Derived.Deep.QuietTactic
import Derived.Deep.RegionWith
import Derived.Test.YtnceeaccbcfopaaGreatDoorT4
set_option maxRecDepth 100000
set_option maxHeartbeats 16000000
namespace Go.Proofs.YtnceeaccbcfopaaGreatDoor
open Go.ChangeShapes Go.WideShapes Go.ChangeAt Go.RowKit
set_option linter.unusedVariables false
namespace WinR
open RowG LtR DateM
theorem H_ {p:Prop} (h:p):Hid p:=h
structure H where
 h:Int
 s:Int
structure Wd where
 a:ByteArray
 m:ByteArray
 mo:Int
 ev:Int
 su:Int
 mx:Int
 ts:List ByteArray
 hs:List H
def H.zero:H:=⟨0,0⟩
def H.cells (x:H):List Value:=[.int .i64 x.h,.int .i64 x.s]
def tz:ByteArray:=⟨#[]⟩
def tcells (t:ByteArray):List Value:=[.string t]
theorem H.len (x:H):x.cells.length=2:=rfl
theorem t_len (t:ByteArray):(tcells t).length=1:=rfl
def Tgs (ao:Option Addr) (ts:List ByteArray) (w:World):Prop:=Rws 1 tcells tz ao ts w
def Hrs (ao:Option Addr) (hs:List H) (w:World):Prop:=Rws 2 H.cells H.zero ao hs w
theorem Tgs.below {ao:Option Addr} {ts:List ByteArray} {w w':World} (h:Tgs ao ts w) (hb:Below w.heap.size w w'):Tgs ao ts w':=Rws.below h hb
theorem Hrs.below {ao:Option Addr} {hs:List H} {w w':World} (h:Hrs ao hs w) (hb:Below w.heap.size w w'):Hrs ao hs w':=Rws.below h hb
theorem Tgs.at {ao:Option Addr} {ts:List ByteArray} {w:World} (h:Tgs ao ts w) (j:Nat) (hj:j<ts.length):∃b off,ao=some ⟨b,off,none⟩∧b<w.heap.size∧w.cell? ⟨b,off+j,none⟩=some (.string (ts.getD j tz)):=by
 obtain ⟨b,off,h1,h2,h3⟩:=Rws.at h j hj
 have:=h3 0 (by omega)
 rw [Nat.mul_one] at this
 exact ⟨b,off,h1,h2,this⟩
theorem Hrs.at {ao:Option Addr} {hs:List H} {w:World} (h:Hrs ao hs w) (j:Nat) (hj:j<hs.length):∃b off,ao=some ⟨b,off,none⟩∧b<w.heap.size∧w.cell? ⟨b,off+j*2,none⟩=some (.int .i64 (hs.getD j H.zero).h)∧w.cell? ⟨b,off+j*2+1,none⟩=some (.int .i64 (hs.getD j H.zero).s):=by
 obtain ⟨b,off,h1,h2,h3⟩:=Rws.at h j hj
 exact ⟨b,off,h1,h2,h3 0 (by omega),h3 1 (by omega)⟩
def wcells (x:Wd) (ta:Option Addr) (tc:Nat) (ha:Option Addr) (hc:Nat):Array Value:=#[.string x.a,.string x.m,.int .i64 x.mo,.int .i64 x.ev,.int .i64 x.su,.int .i64 x.mx,.slice ta x.ts.length tc,.slice ha x.hs.length hc]
def IsWd (v:Value) (x:Wd) (w:World):Prop:=∃ta tc ha hc,v=.agg (wcells x ta tc ha hc)∧Tgs ta x.ts w∧Hrs ha x.hs w
theorem IsWd.below {v:Value} {x:Wd} {w w':World} (h:IsWd v x w) (hb:Below w.heap.size w w'):IsWd v x w':=by
 obtain ⟨ta,tc,ha,hc,hv,h1,h2⟩:=h
 exact ⟨ta,tc,ha,hc,hv,h1.below hb,h2.below hb⟩
def RiseTo {α:Type} (r:α→α→Bool) (z:α) (xs:List α) (k:Nat):Prop:=∀i,i<k→0<i→r (xs.getD (i-1) z) (xs.getD i z)=true
def RiseDec {α:Type} (r:α→α→Bool) (z:α) (xs:List α) (k:Nat):Decidable (RiseTo r z xs k):=inferInstanceAs (Decidable (∀i,i<k→0<i→r (xs.getD (i-1) z) (xs.getD i z)=true))
def riseB {α:Type} (r:α→α→Bool) (z:α) (xs:List α):Bool:=@decide (RiseTo r z xs xs.length) (RiseDec r z xs xs.length)
section
variable {α:Type} {r:α→α→Bool} {z:α} {xs:List α}
theorem rise_yes (h:RiseTo r z xs xs.length):riseB r z xs=true:=by unfold riseB;exact @decide_eq_true _ (RiseDec r z xs xs.length) h
theorem rise_no {k:Nat} (hk:k<xs.length) (h0:0<k) (h:r (xs.getD (k-1) z) (xs.getD k z)=false):riseB r z xs=false:=by
 unfold riseB
 exact @decide_eq_false _ (RiseDec r z xs xs.length) (fun hr=>by rw [hr k hk h0] at h;cases h)
theorem rise_one (k:Nat) (hk:k≤1):RiseTo r z xs k:=fun i h1 h2=>absurd h1 (by omega)
theorem RiseTo.more {k:Nat} (h:RiseTo r z xs k) (h1:0<k→r (xs.getD (k-1) z) (xs.getD k z)=true):RiseTo r z xs (k+1):=by
 intro i hi h0
 by_cases e:i=k
 ·subst e;exact h1 h0
 ·exact h i (by omega) h0
theorem all_take (p:α→Bool) (k:Nat) (h:k<xs.length):(xs.take (k+1)).all p=((xs.take k).all p&&p (xs.getD k z)):=by
 rw [take_more (z:=z) xs k h,List.all_append]
 simp
theorem all_no (p:α→Bool) {k:Nat} (h:k<xs.length) (hp:p (xs.getD k z)=false):xs.all p=false:=by
 rw [List.all_eq_false]
 exact ⟨_,getD_mem xs k h,by rw [hp];simp⟩
theorem all_get (p:α→Bool) (h:xs.all p=true) {k:Nat} (hk:k<xs.length):p (xs.getD k z)=true:=List.all_eq_true.1 h _ (getD_mem xs k hk)
end
def tagOk (t:ByteArray):Bool:=decide (1≤t.size)&&EvtR.tagB t
def tagsB (ts:List ByteArray):Bool:=decide (ts.length≤12)&&(riseB lt tz ts&&ts.all tagOk)
def hourIn (h mo:Int):Bool:=decide (0≤h∧h≤2016666∧0≤mo∧fd mo.toNat≤60*h / 1440∧60*h / 1440<fd (mo.toNat+1))
def hlt (x y:H):Bool:=decide (x.h<y.h)
def hOk (mo su:Int) (x:H):Bool:=hourIn x.h mo&&decide (0≤x.s∧x.s≤su)
def hsum (hs:List H):Int:=(hs.map H.s).sum
def hoursB (hs:List H) (mo su:Int):Bool:=riseB hlt H.zero hs&&(hs.all (hOk mo su)&&decide (hsum hs=su))
def timedB (hs:List H) (mo su:Int):Bool:=decide (1≤hs.length∧hs.length≤12)&&hoursB hs mo su
def namedB (a m:ByteArray) (mo:Int):Bool:=NameR.nameB a&&(NameR.nameB m&&decide (0≤mo∧mo≤2760))
def countedB (ev su mx:Int):Bool:=decide (1≤ev∧ev≤1000)&&(decide (0≤su∧su≤1000000000000)&&decide (0≤mx∧mx≤su))
def wB (x:Wd):Bool:=namedB x.a x.m x.mo&&(countedB x.ev x.su x.mx&&(tagsB x.ts&&timedB x.hs x.mo x.su))
theorem hsum_take (hs:List H) (k:Nat) (h:k<hs.length):hsum (hs.take (k+1))=hsum (hs.take k)+(hs.getD k H.zero).s:=by
 unfold hsum
 rw [take_more (z:=H.zero) hs k h,List.map_append,List.sum_append]
 simp
theorem hsum_nn {hs:List H} {mo su:Int} (h:hs.all (hOk mo su)=true):0≤hsum hs:=by
 unfold hsum
 induction hs with
 | nil=>simp
 | cons x l ih =>
  simp only [List.all_cons,Bool.and_eq_true] at h
  have:=ih h.2
  have h1:=h.1
  unfold hOk at h1
  simp only [Bool.and_eq_true,decide_eq_true_eq] at h1
  simp only [List.map_cons,List.sum_cons]
  omega
theorem hsum_le {hs:List H} {mo su:Int} (h:hs.all (hOk mo su)=true) (k:Nat):hsum (hs.take k)≤hsum hs:=by
 have h2:(hs.drop k).all (hOk mo su)=true:=by
  rw [List.all_eq_true] at *
  exact fun x hx=>h x (List.mem_of_mem_drop hx)
 have:=hsum_nn h2
 have e:hsum hs=hsum (hs.take k)+hsum (hs.drop k):=by
  unfold hsum
  rw [←List.sum_append,←List.map_append,List.take_append_drop]
 omega
def HUp (hs:List H) (mo su:Int) (k:Nat):Prop:=∀i,i<k→hourIn (hs.getD i H.zero).h mo=true∧0≤(hs.getD i H.zero).s∧(hs.getD i H.zero).s≤su-hsum (hs.take i)
theorem HUp.zero (hs:List H) (mo su:Int):HUp hs mo su 0:=fun i h=>absurd h (by omega)
theorem HUp.more {hs:List H} {mo su:Int} {k:Nat} (h:HUp hs mo su k) (h1:hourIn (hs.getD k H.zero).h mo=true) (h2:0≤(hs.getD k H.zero).s) (h3:(hs.getD k H.zero).s≤su-hsum (hs.take k)):HUp hs mo su (k+1):=by
 intro i hi
 by_cases e:i=k
 ·subst e;exact ⟨h1,h2,h3⟩
 ·exact h i (by omega)
theorem HUp.nn {hs:List H} {mo su:Int} {k:Nat} (h:HUp hs mo su k) (hk:k≤hs.length):0≤hsum (hs.take k):=by
 induction k with
 | zero=>simp [hsum]
 | succ k ih =>
  have h1:=h k (by omega)
  have:=ih (fun i hi=>h i (by omega)) (by omega)
  rw [hsum_take hs k (by omega)]
  omega
theorem HUp.all {hs:List H} {mo su:Int} (h:HUp hs mo su hs.length):hs.all (hOk mo su)=true:=by
 rw [List.all_eq_true]
 intro x hx
 obtain ⟨k,hk,rfl⟩:=List.getElem_of_mem hx
 have h1:=h k hk
 have h2:=HUp.nn (k:=k) (fun i hi=>h i (by omega)) (by omega)
 have e:hs.getD k H.zero=hs[k]:=by simp [List.getD,hk]
 rw [e] at h1
 unfold hOk
 simp only [Bool.and_eq_true,decide_eq_true_eq]
 exact ⟨h1.1,h1.2.1,by omega⟩
theorem hours_rise {hs:List H} {mo su:Int} (h:riseB hlt H.zero hs=false):hoursB hs mo su=false:=by unfold hoursB;rw [h,Bool.false_and]
theorem hours_end {hs:List H} {mo su:Int} (hr:riseB hlt H.zero hs=true) (h:HUp hs mo su hs.length):hoursB hs mo su=decide (su-hsum hs=0):=by
 unfold hoursB
 rw [hr,h.all,Bool.true_and,Bool.true_and]
 exact decide_eq_decide.2 ⟨fun e=>by omega,fun e=>by omega⟩
theorem hours_no {hs:List H} {mo su:Int} {k:Nat} (hk:k<hs.length) (h:¬(hourIn (hs.getD k H.zero).h mo=true∧0≤(hs.getD k H.zero).s∧(hs.getD k H.zero).s≤su-hsum (hs.take k))):hoursB hs mo su=false:=by
 cases hb:hoursB hs mo su
 ·rfl
 ·exfalso
  unfold hoursB at hb
  simp only [Bool.and_eq_true,decide_eq_true_eq] at hb
  obtain ⟨_,h1,h2⟩:=hb
  have h3:=all_get (z:=H.zero) _ h1 hk
  have h4:=hsum_le h1 (k+1)
  rw [hsum_take hs k hk] at h4
  unfold hOk at h3
  simp only [Bool.and_eq_true,decide_eq_true_eq] at h3
  exact h ⟨h3.1,h3.2.1,by omega⟩
def SUp (hs:List H) (mo su:Int) (k:Nat):Prop:=RiseTo hlt H.zero hs k∧(hs.take k).all (hOk mo su)=true
theorem SUp.zero (hs:List H) (mo su:Int):SUp hs mo su 0:=⟨rise_one 0 (by omega),by simp⟩
theorem SUp.more {hs:List H} {mo su:Int} {k:Nat} (h:SUp hs mo su k) (hk:k<hs.length) (h1:hOk mo su (hs.getD k H.zero)=true) (h2:0<k→hlt (hs.getD (k-1) H.zero) (hs.getD k H.zero)=true):SUp hs mo su (k+1) :=
 ⟨h.1.more h2,by rw [all_take (z:=H.zero) _ k hk,h.2,h1];rfl⟩
theorem SUp.sum {hs:List H} {mo su:Int} {k:Nat} (h:SUp hs mo su k) (hsu:0≤su) (hk:k≤hs.length):0≤hsum (hs.take k)∧hsum (hs.take k)≤su*k:=by
 have hn:=hsum_nn h.2
 refine ⟨hn,?_⟩
 have h2:=h.2
 clear h hn
 induction k with
 | zero=>simp [hsum]
 | succ k ih =>
  rw [all_take (z:=H.zero) _ k (by omega),Bool.and_eq_true] at h2
  have:=ih (by omega) h2.1
  have h3:=h2.2
  unfold hOk at h3
  simp only [Bool.and_eq_true,decide_eq_true_eq] at h3
  rw [hsum_take hs k (by omega)]
  have e:su*((k+1:Nat):Int)=su*k+su:=by rw [Int.natCast_add,Int.mul_add];simp
  omega
theorem hours_bad {hs:List H} {mo su:Int} {k:Nat} (hk:k<hs.length) (h:hOk mo su (hs.getD k H.zero)=false∨(0<k∧hlt (hs.getD (k-1) H.zero) (hs.getD k H.zero)=false)):hoursB hs mo su=false:=by
 unfold hoursB
 rcases h with h|⟨h0,h⟩
 ·rw [all_no _ hk h];simp
 ·rw [rise_no hk h0 h];simp
theorem hours_done {hs:List H} {mo su:Int} (h:SUp hs mo su hs.length):hoursB hs mo su=decide (hsum hs=su):=by
 unfold hoursB
 have h2:=h.2
 rw [List.take_length] at h2
 rw [rise_yes h.1,h2,Bool.true_and,Bool.true_and]
def TUp (ts:List ByteArray) (k:Nat):Prop:=RiseTo lt tz ts k∧(ts.take k).all tagOk=true
theorem TUp.zero (ts:List ByteArray):TUp ts 0:=⟨rise_one 0 (by omega),by simp⟩
theorem TUp.more {ts:List ByteArray} {k:Nat} (h:TUp ts k) (hk:k<ts.length) (h1:tagOk (ts.getD k tz)=true) (h2:0<k→lt (ts.getD (k-1) tz) (ts.getD k tz)=true):TUp ts (k+1) :=
 ⟨h.1.more h2,by rw [all_take (z:=tz) _ k hk,h.2,h1];rfl⟩
theorem tags_bad {ts:List ByteArray} {k:Nat} (hk:k<ts.length) (h:tagOk (ts.getD k tz)=false∨(0<k∧lt (ts.getD (k-1) tz) (ts.getD k tz)=false)):tagsB ts=false:=by
 unfold tagsB
 rcases h with h|⟨h0,h⟩
 ·rw [all_no _ hk h];simp
 ·rw [rise_no hk h0 h];simp
theorem tags_done {ts:List ByteArray} (h:TUp ts ts.length):tagsB ts=decide (ts.length≤12):=by
 unfold tagsB
 have h2:=h.2
 rw [List.take_length] at h2
 rw [rise_yes h.1,h2,Bool.true_and,Bool.and_true]
theorem tags_long {ts:List ByteArray} (h:12<ts.length):tagsB ts=false:=by
 unfold tagsB
 rw [decide_eq_false (by omega),Bool.false_and]
theorem tags_rise {ts:List ByteArray} (h:riseB lt tz ts=false):tagsB ts=false:=by
 unfold tagsB
 rw [h];simp
theorem tags_end {ts:List ByteArray} (h12:ts.length≤12) (hr:riseB lt tz ts=true):tagsB ts=ts.all tagOk:=by
 unfold tagsB
 rw [hr,decide_eq_true h12,Bool.true_and,Bool.true_and]
theorem hour_month {h mo v:Int} (h1:0≤h) (h2:h≤2016666) (k:Nat) (hv:v=(k:Int)) (f1:fd k≤60*h / 1440) (f2:60*h / 1440<fd (k+1)):hourIn h mo=decide (v=mo):=by
 unfold hourIn
 subst hv
 apply decide_eq_decide.2
 constructor
 ·rintro ⟨_,_,c,d,e⟩
  have g1:=fd_one f1 e
  have g2:=fd_one d f2
  omega
 ·rintro rfl
  exact ⟨h1,h2,by omega,by simpa using f1,by simpa using f2⟩
theorem hour_far {h mo:Int} (hx:¬(0≤h∧h≤2016666)):hourIn h mo=false:=by
 unfold hourIn
 exact decide_eq_false (fun q=>hx ⟨q.1,q.2.1⟩)
end WinR
namespace WinR
open RowG LtR
open CatR (Blk Blk.new)
theorem bdN {B:Nat} {a w:World} (h:Below B a w) (n:Nat):Below B a (w.drewN n):=⟨h.os,h.tape,h.output,h.size,h.block⟩
theorem leq_yes {a p:ByteArray} (h:(Op.bytesLess a.toList p.toList||(a.toList==p.toList))=true):lt p a=false:=by
 rw [Bool.or_eq_true] at h
 rcases h with h|h
 ·exact lt_asymm h
 ·rw [toList_inj (beq_iff_eq.1 h)];exact lt_irrefl _
theorem leq_no {a p:ByteArray} (h:(Op.bytesLess a.toList p.toList||(a.toList==p.toList))=false):lt p a=true:=by
 rw [Bool.or_eq_false_iff] at h
 cases h2:lt p a
 ·have:=lt_total h2 h.1
  rw [this] at h
  simp at h
 ·rfl
theorem tkey (t:ByteArray) (w:World):Calls Tryz.prog 212 #[.string t] w fun e w'=>e=.returned (.string t)∧w'=w:=by
 go_enter Tryz.func212,Tryz.ntmps212
 go_wp2
 go_ret
 exact ⟨rfl,rfl⟩
theorem hkey (h s:Int) (w:World):Calls Tryz.prog 214 #[.agg #[.int .i64 h,.int .i64 s]] w fun e w'=>e=.returned (.int .i64 h)∧Below w.heap.size w w':=by
 go_enter Tryz.func214,Tryz.ntmps214
 go_wp2
 go_ret
 exact ⟨rfl,(Below.refl _ _).alloc (Nat.le_refl _) _⟩
theorem tags_rises (ao:Option Addr) (cap:Nat) (ts:List ByteArray) (w:World) (hlen:ts.length≤1048576) (hI:Tgs ao ts w) :
 Calls Tryz.prog 220 #[.agg #[.slice ao ts.length cap,.func (.func 212) #[] #[],.func (.func 213) #[] #[]]] w fun e w'=>e=.returned (.bool (riseB lt tz ts))∧Below w.heap.size w w':=by
 have HI:=H_ hI
 have HNO:=H_ (fun k=>rise_no (r:=lt) (z:=tz) (xs:=ts) (k:=k))
 have HYES:Hid (RiseTo lt tz ts ts.length→riseB lt tz ts=true):=H_ rise_yes
 generalize riseB lt tz ts=R at *
 obtain ⟨len,hl⟩:∃len,len=ts.length:=⟨_,rfl⟩
 rw [←hl] at hlen HYES ⊢
 have HL:=H_ hl
 have HK:=H_ tkey
 clear hI hl
 have HB0:Hid (Below w.heap.size w (w.alloc (.cells #[.slice ao len cap,.func (.func 212) #[] #[],.func (.func 213) #[] #[]] 190))):=H_ (al_ _ _)
 have HX0:Hid (Blk w.heap.size [.slice ao len cap,.func (.func 212) #[] #[],.func (.func 213) #[] #[]] (w.alloc (.cells #[.slice ao len cap,.func (.func 212) #[] #[],.func (.func 213) #[] #[]] 190))):=H_ (Blk.new w _ _)
 go_enter Tryz.func220,Tryz.ntmps220
 go_wp2_with fail
 go_loopw [3] (fun z wr=>∃j:Nat,(j=0∨j+1≤len)∧z=.int .i64 ((j:Int)+1)∧Hid (RiseTo lt tz ts (j+1))∧Hid (Below w.heap.size w wr)∧Hid (Blk w.heap.size [.slice ao len cap,.func (.func 212) #[] #[],.func (.func 213) #[] #[]] wr)) (fun z _=>len-(intOf z).toNat)
 case atStart=>exact ⟨0,by omega,rfl,H_ (rise_one _ (by omega)),HB0,HX0⟩
 case round =>
  obtain ⟨j,hj,rfl,HR,HB,HX⟩:=hrel
  obtain ⟨xl,xc⟩:=HX.out
  have x0:=q_ xc 0
  have x1:=q_ xc 1
  clear xc
  by_cases hlt:j+1<len
  ·have hlt2:(j:Int)+1<(len:Int):=by omega
   obtain ⟨b,off,rfl,hbl,c1⟩:=(HI.out.below HB.out).at (j+1) (by have:=HL.out;omega)
   obtain ⟨b',off',he,_,c0⟩:=(HI.out.below HB.out).at j (by have:=HL.out;omega)
   obtain ⟨rfl,rfl⟩:b=b'∧off=off':=by simpa using he
   have HN:=H_ (HNO.out (j+1) (by have:=HL.out;omega) (by omega))
   have HM:=H_ (fun h=>HR.out.more (k:=j+1) h)
   rw [Nat.add_sub_cancel] at HN HM
   generalize ts.getD (j+1) tz=X at *
   generalize ts.getD j tz=Y at *
   cases hle:(Op.bytesLess X.toList Y.toList||(X.toList==Y.toList))
   ·have HM2:=H_ (HM.out (fun _=>leq_no hle))
    go_wp2_with fail
    go_quiet ((go_at_call 212;exact Calls.quiet_of_same (HK.out _ _)))
    go_wp2_with fail
    go_roundw
    case rel=>exact ⟨j+1,by omega,by go_num,HM2,H_ (bdN HB.out _),H_ (HX.out.drewN _)⟩
    case measure=>simp [intOf];omega
   ·have HF:Hid (R=false):=H_ (HN.out (leq_yes hle))
    go_wp2_with fail
    go_quiet ((go_at_call 212;exact Calls.quiet_of_same (HK.out _ _)))
    go_wp2_with fail
    go_ret
    exact ⟨ret_bool HF.out.symm,bdN HB.out _⟩
  ·have hlt2:¬(j:Int)+1<(len:Int):=by omega
   have HF:Hid (R=true):=H_ (HYES.out (fun i h1 h2=>HR.out i (by omega) h2))
   go_wp2_with fail
   go_ret
   exact ⟨ret_bool HF.out.symm,HB.out⟩
end WinR
namespace WinR
open RowG
open EvtR (Pt)
def tsz (ts:List ByteArray):Int:=(ts.map (fun t=>(t.size:Int))).sum
theorem tsz_nn (ts:List ByteArray):0≤tsz ts:=by
 unfold tsz
 induction ts with
 | nil=>simp
 | cons e es ih=>simp only [List.map_cons,List.sum_cons];omega
theorem tsz_take (ts:List ByteArray) (k:Nat) (h:k<ts.length):tsz (ts.take (k+1))=tsz (ts.take k)+((ts.getD k tz).size:Int):=by
 unfold tsz
 rw [take_more (z:=tz) ts k h,List.map_append,List.sum_append]
 simp
theorem tsz_le (ts:List ByteArray) (k:Nat):tsz (ts.take k)≤tsz ts:=by
 have:=tsz_nn (ts.drop k)
 have e:tsz ts=tsz (ts.take k)+tsz (ts.drop k):=by
  unfold tsz
  rw [←List.sum_append,←List.map_append,List.take_append_drop]
 omega
theorem tsz_mem {ts:List ByteArray} {t:ByteArray} (h:t∈ts):(t.size:Int)≤tsz ts:=by
 unfold tsz
 induction ts with
 | nil=>simp at h
 | cons e es ih =>
  have:=tsz_nn es
  unfold tsz at this
  simp only [List.map_cons,List.sum_cons]
  rcases List.mem_cons.1 h with rfl|h
  ·omega
  ·have:=ih h;omega
def tszR (ts:List ByteArray) (left:Int):Int:=if (ts.length:Int)+tsz ts≤left then left-(ts.length:Int)-tsz ts else -1
theorem szT_any (ao:Option Addr) (cap:Nat) (ts:List ByteArray) (left:Int) (w:World) (hm:ts.length≤maxLen) (h0:0≤left) (h1:left≤1048576) (hI:Tgs ao ts w) (hw:∀t∈ts,t.size≤maxLen) :
 Calls Tryz.prog 100 #[.slice ao ts.length cap,.int .i64 left] w fun e w'=>e=.returned (.int .i64 (tszR ts left))∧Below w.heap.size w w':=by
 obtain ⟨len,hlen⟩:∃len,len=ts.length:=⟨_,rfl⟩
 rw [←hlen] at hm ⊢
 have HZ:=H_ hlen
 have HI:=H_ hI
 have HW:=H_ hw
 have HR:Hid (tszR ts left=if (ts.length:Int)+tsz ts≤left then left-(ts.length:Int)-tsz ts else -1):=rfl
 generalize tszR ts left=R at *
 unfold maxLen at hm
 clear hI hw hlen
 by_cases hbig:left<(len:Int)
 ·have hl2:left-(len:Int)<0:=by omega
  have HN:Hid (R=-1):=H_ (by rw [HR.out,if_neg];have:=tsz_nn ts;have:=HZ.out;omega)
  go_enter Tryz.func100,Tryz.ntmps100
  go_wp2_with fail
  go_ret
  exact ⟨ret_int HN.out.symm,Below.refl _ _⟩
 have hl:(len:Int)≤1048576:=by omega
 have hl2:¬left-(len:Int)<0:=by omega
 go_enter Tryz.func100,Tryz.ntmps100
 go_wp2_with fail
 go_loopw [5,1] (fun x y w'=>∃(j:Nat) (L:Int),j≤len∧x=.int .i64 j∧y=.int .i64 L∧0≤L∧L≤1048576∧Hid (L=left-(len:Int)-tsz (ts.take j))∧Hid (Below w.heap.size w w')) (fun x y w'=>len-(intOf x).toNat)
 case atStart=>exact ⟨0,left-(len:Int),Nat.zero_le _,rfl,rfl,by omega,by omega,H_ (by simp [tsz]),H_ (Below.refl _ _)⟩
 case round =>
  obtain ⟨j,L,hj,rfl,rfl,l0,l1,HL,HB⟩:=hrel
  by_cases hlt:j<len
  ·obtain ⟨b,off,rfl,hbl,c0⟩:=(HI.out.below HB.out).at j (by have:=HZ.out;omega)
   have HS:=H_ (tsz_take ts j (by have:=HZ.out;omega))
   have q1:=HW.out _ (getD_mem (z:=tz) ts j (by have:=HZ.out;omega))
   unfold maxLen at q1
   generalize ts.getD j tz=X at *
   have hlt2:(j:Int)<(len:Int):=by omega
   by_cases hs:(X.size:Int)≤L
   ·have HN:Hid (L-(X.size:Int)=left-(len:Int)-tsz (ts.take (j+1))):=H_ (by rw [HS.out,HL.out];omega)
    have r2:¬L-(X.size:Int)<0:=by omega
    go_wp2_with fail
    go_roundw
    case rel=>exact ⟨j+1,_,by omega,by go_num,rfl,by omega,by omega,HN,HB⟩
    case measure=>simp [intOf];omega
   ·have HN:Hid (R=-1):=H_ (by rw [HR.out,if_neg];have:=tsz_le ts (j+1);have:=HS.out;have:=HL.out;have:=HZ.out;omega)
    have r2:L-(X.size:Int)<0:=by omega
    go_wp2_with fail
    go_ret
    exact ⟨ret_int HN.out.symm,HB.out⟩
  ·obtain rfl:j=len:=by omega
   have hlt2:¬(j:Int)<(j:Int):=by omega
   have HN:Hid (R=L):=H_ (by
    have e:=HL.out
    rw [List.take_of_length_le (by have:=HZ.out;omega)] at e
    rw [HR.out,if_pos (by have:=HZ.out;omega)];have:=HZ.out;omega)
   go_wp2_with fail
   go_ret
   exact ⟨ret_int HN.out.symm,HB.out⟩
theorem szH_any (ao:Option Addr) (cap len:Nat) (left:Int) (w:World) (hm:len≤maxLen) (h0:0≤left) (h1:left≤1048576) :
 Calls Tryz.prog 101 #[.slice ao len cap,.int .i64 left] w fun e w'=>e=.returned (.int .i64 (if (len:Int)≤left then left-(len:Int) else -1))∧w'=w:=by
 unfold maxLen at hm
 by_cases h:(len:Int)≤left
 ·rw [if_pos h]
  have h2:¬left-(len:Int)<0:=by omega
  go_enter Tryz.func101,Tryz.ntmps101
  go_wp2_with fail
  go_ret
  exact ⟨rfl,rfl⟩
 ·rw [if_neg h]
  have h2:left-(len:Int)<0:=by omega
  go_enter Tryz.func101,Tryz.ntmps101
  go_wp2_with fail
  go_ret
  exact ⟨rfl,rfl⟩
def wszR (x:Wd) (left:Int):Int:=if (x.a.size:Int)+x.m.size+x.ts.length+tsz x.ts+x.hs.length≤left then left-((x.a.size:Int)+x.m.size+x.ts.length+tsz x.ts+x.hs.length) else -1
def Wd.Small (x:Wd):Prop:=x.a.size≤1048576∧x.m.size≤1048576∧x.ts.length≤1048576∧(∀t∈x.ts,t.size≤1048576)∧x.hs.length≤1048576
theorem wsz_small {x:Wd} {left:Int} (h1:left≤1048576) (h:¬wszR x left<0):x.Small∧0≤wszR x left∧wszR x left≤1048576:=by
 unfold wszR at *
 have:=tsz_nn x.ts
 split at h
 ·rename_i q
  rw [if_pos q]
  refine ⟨⟨by omega,by omega,by omega,fun t ht=>?_,by omega⟩,by omega,by omega⟩
  have:=tsz_mem ht
  omega
 ·omega
def Wd.In (x:Wd):Prop:=x.a.size≤maxLen∧x.m.size≤maxLen∧x.ts.length≤maxLen∧(∀t∈x.ts,t.size≤maxLen)∧x.hs.length≤maxLen
theorem szW_in (a m:ByteArray) (mo ev su mx:Int) (ta:Option Addr) (tl tc:Nat) (ha:Option Addr) (hl hc:Nat) (left T r1 r2 r3 r4:Int) (w:World) (la:a.size≤maxLen) (lm:m.size≤maxLen) (h0:0≤left) (h1:left≤1048576)
 (e1:r1=left-a.size) (e2:r2=r1-m.size)
 (hT:0≤r1→0≤r2→∀W,Below w.heap.size w W→Calls Tryz.prog 100 #[.slice ta tl tc,.int .i64 r2] W fun e w'=>e=.returned (.int .i64 r3)∧Below W.heap.size W w')
 (hH:0≤r3→∀W,Calls Tryz.prog 101 #[.slice ha hl hc,.int .i64 r3] W fun e w'=>e=.returned (.int .i64 r4)∧w'=W)
 (hR:T=if r1<0 then -1 else if r2<0 then -1 else if r3<0 then -1 else if r4<0 then -1 else r4) :
 Calls Tryz.prog 49 #[.agg #[.string a,.string m,.int .i64 mo,.int .i64 ev,.int .i64 su,.int .i64 mx,.slice ta tl tc,.slice ha hl hc],.int .i64 left] w fun e w'=>e=.returned (.int .i64 T)∧Below w.heap.size w w':=by
 unfold maxLen at *
 have HT:=H_ hT
 have HH:=H_ hH
 have HB0:Hid (Below w.heap.size w (w.alloc (.cells #[.string a,.string m,.int .i64 mo,.int .i64 ev,.int .i64 su,.int .i64 mx,.slice ta tl tc,.slice ha hl hc] 95))):=H_ (al_ _ _)
 clear hT hH
 by_cases q1:r1<0
 ·rw [if_pos q1] at hR
  have q1':left-(a.size:Int)<0:=by omega
  clear e1 e2
  go_enter Tryz.func49,Tryz.ntmps49
  go_wp2_with fail
  go_ret
  exact ⟨ret_int (by first|rfl|exact hR.symm|omega),HB0.out⟩
 ·rw [if_neg q1] at hR
  have q1':¬left-(a.size:Int)<0:=by omega
  by_cases q2:r2<0
  ·rw [if_pos q2] at hR
   have q2':left-(a.size:Int)-(m.size:Int)<0:=by omega
   clear e1 e2
   go_enter Tryz.func49,Tryz.ntmps49
   go_wp2_with fail
   go_ret
   exact ⟨ret_int (by first|rfl|exact hR.symm|omega),HB0.out⟩
  ·rw [if_neg q2] at hR
   have q2':¬left-(a.size:Int)-(m.size:Int)<0:=by omega
   have HT2:=H_ (HT.out (by omega) (by omega))
   have e3:left-(a.size:Int)-(m.size:Int)=r2:=by omega
   have HX0:=H_ (CatR.Blk.new w [.string a,.string m,.int .i64 mo,.int .i64 ev,.int .i64 su,.int .i64 mx,.slice ta tl tc,.slice ha hl hc] 95)
   clear e1 e2 HT
   go_enter Tryz.func49,Tryz.ntmps49
   go_wp2_with fail
   first|rw [e3]|skip
   refine (HT2.out _ HB0.out).mono ?_
   rintro e w2 ⟨rfl,hb2⟩
   have HB2:=HT_ HB0 hb2
   have HX2:=H_ (HX0.out.below hb2)
   obtain ⟨xl,xc⟩:=HX2.out
   have y7:=q_ xc 7
   clear xc hb2
   by_cases q3:r3<0
   ·rw [if_pos q3] at hR
    go_wp2_with fail
    go_ret
    exact ⟨ret_int (by first|rfl|exact hR.symm|omega),HB2.out⟩
   ·rw [if_neg q3] at hR
    have HH2:=H_ (HH.out (by omega))
    go_wp2_with fail
    refine (HH2.out _).mono ?_
    rintro e w3 ⟨rfl,rfl⟩
    by_cases q4:r4<0
    ·rw [if_pos q4] at hR
     go_wp2_with fail
     go_ret
     exact ⟨ret_int (by first|rfl|exact hR.symm|omega),HB2.out⟩
    ·rw [if_neg q4] at hR
     go_wp2_with fail
     go_ret
     exact ⟨ret_int (by first|rfl|exact hR.symm|omega),HB2.out⟩
theorem szW_any (x:Wd) (ta:Option Addr) (tc:Nat) (ha:Option Addr) (hc:Nat) (left:Int) (w:World) (h0:0≤left) (h1:left≤1048576) (hI:x.In) (hT:Tgs ta x.ts w) :
 Calls Tryz.prog 49 #[.agg (wcells x ta tc ha hc),.int .i64 left] w fun e w'=>e=.returned (.int .i64 (wszR x left))∧Below w.heap.size w w':=by
 obtain ⟨i1,i2,i3,i4,i5⟩:=hI
 have n0:=tsz_nn x.ts
 refine szW_in x.a x.m x.mo x.ev x.su x.mx ta x.ts.length tc ha x.hs.length hc left _ (left-x.a.size) (left-x.a.size-x.m.size) (tszR x.ts (left-x.a.size-x.m.size)) (if (x.hs.length:Int)≤tszR x.ts (left-x.a.size-x.m.size) then tszR x.ts (left-x.a.size-x.m.size)-(x.hs.length:Int) else -1) w i1 i2 h0 h1 rfl rfl (fun q1 q2 W hW=>szT_any ta tc x.ts _ W i3 (by omega) (by omega) (hT.below hW) i4) (fun q3 W=>szH_any ha hc x.hs.length _ W i5 (by omega) ?_) ?_
 ·unfold tszR;split<;>omega
 ·unfold wszR tszR
  repeat' split
  all_goals omega
end WinR
namespace WinR
open RowG
open EvtR (Pt)
theorem infoT:(Tryz.prog.info? 9).map (fun i=>(i.zero,i.size,i.bytes))=some (some (.string ⟨#[]⟩),1,16):=by kernel_rfl
theorem infoH:(Tryz.prog.info? 207).map (fun i=>(i.zero,i.size,i.bytes))=some (some (.agg #[.int .i64 0,.int .i64 0]),2,16):=by kernel_rfl
theorem row_full {w:World} {base e g n s:Nat} {xs:List Value} (h:w.ownsRow base e s (.slice (some ⟨g,0,none⟩) n n) n xs):Pt g (n*s) w:=by
 rcases h.2 with ⟨h1,_⟩|⟨g',cap,cur,h1,_,hg,_,_,hs,_⟩
 ·simp at h1
 ·simp at h1
  obtain ⟨rfl,rfl⟩:=h1
  refine ⟨(Array.getElem?_eq_some_iff.1 hg).1,fun o ho=>⟨cur[o]'(by omega),?_⟩,fun o ho=>?_⟩
  ·have:o<cur.size:=by omega
   simp [World.cell?,hg,this]
  ·simp [World.frozen?,hg]
theorem fill_step {f:Nat→Option Value} {w wr:World} {m j:Nat} (hb:Below w.heap.size w wr) (hp:Pt w.heap.size m wr) (hw:Wr f j w.heap.size wr) (hj:j<m) (v:Value) (hv:f j=some v) :
 Below w.heap.size w (wr.setCell ⟨w.heap.size,j,none⟩ v)∧Pt w.heap.size m (wr.setCell ⟨w.heap.size,j,none⟩ v)∧Wr f (j+1) w.heap.size (wr.setCell ⟨w.heap.size,j,none⟩ v) :=
 ⟨hb.setCell (Nat.le_refl _) _,hp.set _ _,hw.more hp hj v hv⟩
theorem cellT (ts:List ByteArray) (o:Nat):cellAt 1 tcells tz ts o=some (.string (ts.getD o tz)):=by
 unfold cellAt
 rw [Nat.div_one,Nat.mod_one]
 rfl
theorem toTs_any (ao:Option Addr) (cap:Nat) (ts:List ByteArray) (w:World) (hlen:ts.length≤1048576) (hI:Tgs ao ts w) :
 Calls Tryz.prog 117 #[.slice ao ts.length cap] w fun e w'=>e=.returned (.slice (some ⟨w.heap.size,0,none⟩) ts.length ts.length)∧Tgs (some ⟨w.heap.size,0,none⟩) ts w'∧Pt w.heap.size ts.length w'∧Below w.heap.size w w':=by
 obtain ⟨i0,hi,hz0,hz1,hz2⟩:=info_parts infoT
 have HI:=H_ hI
 have HWS:Hid (∀wr,Wr (cellAt 1 tcells tz ts) (ts.length*1) w.heap.size wr→w.heap.size<wr.heap.size→Tgs (some ⟨w.heap.size,0,none⟩) ts wr):=H_ (fun wr h hl=>Wr.rws h hl)
 obtain ⟨len,hl⟩:∃len,len=ts.length:=⟨_,rfl⟩
 rw [←hl] at hlen HWS ⊢
 have HL:=H_ hl
 clear hI hl
 go_enter Tryz.func117,Tryz.ntmps117
 go_wp2_with (at_make;refine wpList_make_full _ rfl _ _ 92 rfl w.heap.size 9 i0 (.string ⟨#[]⟩) 1 Tryz.underlying92 hi hz0 hz1 .i64 .i64 _ _ len rfl rfl rfl rfl ?b2 ?b3 ?b4 ?_)
 case b2=>rw [hz2];omega
 case b3=>unfold maxLen;omega
 case b4=>exact Nat.le_refl _
 intro wm hown hgrow
 have HB0:Hid (Below w.heap.size w wm):=H_ ((Below.refl _ _).grown hgrow (Nat.le_refl _) (fun k e=>by cases e))
 have HP0:=H_ (row_full hown)
 clear hown hgrow hi hz0 hz1 hz2
 go_wp2_with fail
 go_loopw [4] (fun z wr=>∃k:Nat,k≤len∧z=.int .i64 k∧Hid (Below w.heap.size w wr)∧Hid (Pt w.heap.size (len*1) wr)∧Hid (Wr (cellAt 1 tcells tz ts) k w.heap.size wr)) (fun z _=>len-(intOf z).toNat)
 case atStart=>exact ⟨0,by omega,rfl,HB0,HP0,H_ (fun o ho=>absurd ho (by omega))⟩
 case round =>
  obtain ⟨k,hk,rfl,HB,HP,HW⟩:=hrel
  by_cases hlt:k<len
  ·have hlt2:(k:Int)<(len:Int):=by omega
   obtain ⟨b,off,rfl,hbl,c0⟩:=(HI.out.below HB.out).at k (by have:=HL.out;omega)
   have HS0:=H_ (fill_step HB.out HP.out HW.out (by omega) (.string (ts.getD k tz)) (cellT ts k))
   generalize ts.getD k tz=X at *
   obtain ⟨v0,d0⟩:=HP.out.has k (by omega)
   have z0:=HP.out.free k (by omega)
   go_wp2_with fail
   go_roundw
   case rel=>exact ⟨k+1,by omega,by go_num,H_ HS0.out.1,H_ HS0.out.2.1,H_ HS0.out.2.2⟩
   case measure=>simp [intOf];omega
  ·have hlt2:¬(k:Int)<(len:Int):=by omega
   obtain rfl:k=len:=by omega
   go_wp2_with fail
   go_ret
   exact ⟨rfl,HWS.out _ (by rw [Nat.mul_one];exact HW.out) HP.out.lt,(by have h:=HP.out;rwa [Nat.mul_one] at h),HB.out⟩
theorem toHour_any (h s:Int) (w:World) :
 Calls Tryz.prog 160 #[.agg #[.int .i64 h,.int .i64 s]] w fun e w'=>e=.returned (.agg #[.int .i64 h,.int .i64 s])∧Below w.heap.size w w':=by
 go_enter Tryz.func160,Tryz.ntmps160
 go_wp2_with fail
 refine bodyPost_ret (v:=.agg #[.int .i64 h,.int .i64 s]) (by simp [results,Tryz.results160,go_sem]) rfl ⟨rfl,?_⟩
 repeat' first|exact Below.refl _ _|apply Below.setCell|apply Below.alloc
 all_goals first|omega|(simp;done)|(simp;omega)
theorem toHs_any (ao:Option Addr) (cap:Nat) (hs:List H) (w:World) (hlen:hs.length≤1048576) (hI:Hrs ao hs w) :
 Calls Tryz.prog 118 #[.slice ao hs.length cap] w fun e w'=>e=.returned (.slice (some ⟨w.heap.size,0,none⟩) hs.length hs.length)∧Hrs (some ⟨w.heap.size,0,none⟩) hs w'∧Pt w.heap.size (hs.length*2) w'∧Below w.heap.size w w':=by
 obtain ⟨i0,hi,hz0,hz1,hz2⟩:=info_parts infoH
 have HI:=H_ hI
 have HWS:Hid (∀wr,Wr (cellAt 2 H.cells H.zero hs) (hs.length*2) w.heap.size wr→w.heap.size<wr.heap.size→Hrs (some ⟨w.heap.size,0,none⟩) hs wr):=H_ (fun wr h hl=>Wr.rws h hl)
 obtain ⟨len,hl⟩:∃len,len=hs.length:=⟨_,rfl⟩
 rw [←hl] at hlen HWS ⊢
 have HL:=H_ hl
 clear hI hl
 go_enter Tryz.func118,Tryz.ntmps118
 go_wp2_with (at_make;refine wpList_make_full _ rfl _ _ 104 rfl w.heap.size 207 i0 (.agg #[.int .i64 0,.int .i64 0]) 2 Tryz.underlying104 hi hz0 hz1 .i64 .i64 _ _ len rfl rfl rfl rfl ?b2 ?b3 ?b4 ?_)
 case b2=>rw [hz2];omega
 case b3=>unfold maxLen;omega
 case b4=>exact Nat.le_refl _
 intro wm hown hgrow
 have HB0:Hid (Below w.heap.size w wm):=H_ ((Below.refl _ _).grown hgrow (Nat.le_refl _) (fun k e=>by cases e))
 have HP0:=H_ (row_full hown)
 clear hown hgrow hi hz0 hz1 hz2
 go_wp2_with fail
 go_loopw [4] (fun z wr=>∃k:Nat,k≤len∧z=.int .i64 k∧Hid (Below w.heap.size w wr)∧Hid (Pt w.heap.size (len*2) wr)∧Hid (Wr (cellAt 2 H.cells H.zero hs) (k*2) w.heap.size wr)) (fun z _=>len-(intOf z).toNat)
 case atStart=>exact ⟨0,by omega,rfl,HB0,HP0,H_ (fun o ho=>absurd ho (by omega))⟩
 case round =>
  obtain ⟨k,hk,rfl,HB,HP,HW⟩:=hrel
  by_cases hlt:k<len
  ·have hlt2:(k:Int)<(len:Int):=by omega
   obtain ⟨b,off,rfl,hbl,c0,c1⟩:=(HI.out.below HB.out).at k (by have:=HL.out;omega)
   have HX:=H_ (cellAt_of (k:=2) (cells:=H.cells) (z:=H.zero) (xs:=hs) k)
   generalize hs.getD k H.zero=X at *
   obtain ⟨xh,xs⟩:=X
   have HC:=H_ (fun w=>toHour_any xh xs w)
   go_wp2_with fail
   refine (HC.out _).mono ?_
   rintro e w1 ⟨rfl,hb⟩
   replace HW:=H_ (HW.out.below HP.out hb)
   replace HP:=H_ (HP.out.below hb)
   replace HB:=HT_ HB hb
   have HS0:=H_ (fill_step HB.out HP.out HW.out (by omega) (.int .i64 xh) (HX.out 0 (by omega)))
   have HS1:=H_ (fill_step HS0.out.1 HS0.out.2.1 HS0.out.2.2 (by omega) (.int .i64 xs) (HX.out 1 (by omega)))
   obtain ⟨v0,d0⟩:=HP.out.has (k*2) (by omega)
   obtain ⟨v1,d1⟩:=HP.out.has (k*2+1) (by omega)
   have z0:=HP.out.free (k*2) (by omega)
   have z1:=HP.out.free (k*2+1) (by omega)
   clear hb c0 c1 HX HS0
   go_wp2_with fail
   go_roundw
   case rel=>exact ⟨k+1,by omega,by go_num,H_ HS1.out.1,H_ HS1.out.2.1,H_ (by rw [show (k+1)*2=k*2+1+1 by omega];exact HS1.out.2.2)⟩
   case measure=>simp [intOf];omega
  ·have hlt2:¬(k:Int)<(len:Int):=by omega
   obtain rfl:k=len:=by omega
   go_wp2_with fail
   go_ret
   exact ⟨rfl,HWS.out _ HW.out HP.out.lt,HP.out,HB.out⟩
theorem eqTs_any (ao bo:Option Addr) (cap cap':Nat) (ts:List ByteArray) (w:World) (hlen:ts.length≤1048576) (hI:Tgs ao ts w) (hJ:Tgs bo ts w) :
 Calls Tryz.prog 142 #[.slice ao ts.length cap,.slice bo ts.length cap'] w fun e w'=>e=.returned (.bool true)∧Below w.heap.size w w':=by
 have HI:=H_ hI
 have HJ:=H_ hJ
 obtain ⟨len,hl⟩:∃len,len=ts.length:=⟨_,rfl⟩
 rw [←hl] at hlen ⊢
 have HL:=H_ hl
 clear hI hJ hl
 go_enter Tryz.func142,Tryz.ntmps142
 go_wp2_with fail
 go_loopw [5] (fun z wr=>∃k:Nat,k≤len∧z=.int .i64 k∧Hid (Below w.heap.size w wr)) (fun z _=>len-(intOf z).toNat)
 case atStart=>exact ⟨0,by omega,rfl,H_ (Below.refl _ _)⟩
 case round =>
  obtain ⟨k,hk,rfl,HW⟩:=hrel
  by_cases hlt:k<len
  ·have hlt2:(k:Int)<(len:Int):=by omega
   obtain ⟨b,off,rfl,_,c0⟩:=(HI.out.below HW.out).at k (by have:=HL.out;omega)
   obtain ⟨b',off',rfl,_,e0⟩:=(HJ.out.below HW.out).at k (by have:=HL.out;omega)
   generalize ts.getD k tz=X at *
   go_wp2_with fail
   try (go_quiet (fail);go_wp2_with fail)
   go_roundw
   case rel=>exact ⟨k+1,by omega,by go_num,H_ (by first|exact HW.out|exact bdN HW.out _)⟩
   case measure=>simp [intOf];omega
  ·have hlt2:¬(k:Int)<(len:Int):=by omega
   go_wp2_with fail
   go_ret
   exact ⟨rfl,HW.out⟩
theorem eqHour_any (h s:Int) (w:World):Calls Tryz.prog 189 #[.agg #[.int .i64 h,.int .i64 s],.agg #[.int .i64 h,.int .i64 s]] w fun e w'=>e=.returned (.bool true)∧Below w.heap.size w w':=by
 go_enter Tryz.func189,Tryz.ntmps189
 go_wp2
 go_ret
 refine ⟨rfl,?_⟩
 repeat' first|exact Below.refl _ _|apply Below.setCell|apply Below.alloc
 all_goals first|omega|(simp;done)|(simp;omega)
theorem eqHs_any (ao bo:Option Addr) (cap cap':Nat) (hs:List H) (w:World) (hlen:hs.length≤1048576) (hI:Hrs ao hs w) (hJ:Hrs bo hs w) :
 Calls Tryz.prog 143 #[.slice ao hs.length cap,.slice bo hs.length cap'] w fun e w'=>e=.returned (.bool true)∧Below w.heap.size w w':=by
 have HI:=H_ hI
 have HJ:=H_ hJ
 obtain ⟨len,hl⟩:∃len,len=hs.length:=⟨_,rfl⟩
 rw [←hl] at hlen ⊢
 have HL:=H_ hl
 clear hI hJ hl
 go_enter Tryz.func143,Tryz.ntmps143
 go_wp2_with fail
 go_loopw [5] (fun z wr=>∃k:Nat,k≤len∧z=.int .i64 k∧Hid (Below w.heap.size w wr)) (fun z _=>len-(intOf z).toNat)
 case atStart=>exact ⟨0,by omega,rfl,H_ (Below.refl _ _)⟩
 case round =>
  obtain ⟨k,hk,rfl,HW⟩:=hrel
  by_cases hlt:k<len
  ·have hlt2:(k:Int)<(len:Int):=by omega
   obtain ⟨b,off,rfl,_,c0,c1⟩:=(HI.out.below HW.out).at k (by have:=HL.out;omega)
   obtain ⟨b',off',rfl,_,e0,e1⟩:=(HJ.out.below HW.out).at k (by have:=HL.out;omega)
   generalize hs.getD k H.zero=X at *
   obtain ⟨xh,xs⟩:=X
   have HC:=H_ (fun w=>eqHour_any xh xs w)
   go_wp2_with fail
   go_region_with (go_at_call 189;refine (HC.out _).mono ?_;rintro e w1 ⟨rfl,hb⟩)
   all_goals (
    have HB1:=H_ (HW.out.drew.trans (hb.mono HW.out.drew.size))
    clear hb c0 c1 e0 e1
    go_wp2_with fail
    go_roundw
    case rel=>exact ⟨k+1,by omega,by go_num,HB1⟩
    case measure=>simp [intOf];omega)
  ·have hlt2:¬(k:Int)<(len:Int):=by omega
   go_wp2_with fail
   go_ret
   exact ⟨rfl,HW.out⟩
end WinR
end Go.Proofs.YtnceeaccbcfopaaGreatDoor
