/-
  The window of a right event is right; the zero window is not. No condition.
  A small window and a small event added, the model's way: some small window behind it, its lists one's own. No condition.
  append to a list of one's own: what is handed back stands in the block as before, or in a new one. The condition: sizes that fit.
  Tiers, meters, credits and catalogs as rows of cells. No condition.
  Tiers, meters, credits and catalogs that came in, read as rows. No condition.
  A window that came in, read as rows. No condition.
  What is right of tiers, meters, credits and catalogs, in numbers. No condition.
  What the program and the model call right tiers, and a right meter: they are one. The condition: the name has at most 1048576 bytes.
  What the model calls right tiers. The condition: at most 1048576 of them.
  The law's own helpers over tiers and meters: their sizes, copies, and two held against each other. The condition: the tiers are at most 1048576.
  The law's own helpers over a meter: its size, its copy, two held against each other. The condition: the tiers are at most 1048576.
  The law's own helpers over a list of meters: their size, copies, two held against each other. The condition: at most 1048576 meters, each of at most 1048576 tiers.
-/
import Derived.Deep.AppendSrc
import Derived.Deep.Fields
import Derived.OpenVars
import Derived.Carry
import Derived.ChangeMaps5
import Derived.Lib.SmallJoins
import Derived.DataReads
import Derived.Deep.RegionWith
import Derived.BigQuiet
import Derived.Deep.QuietTactic
import Derived.OwnWalk
import Derived.Test.YtcilbmhkhllmjaaGreatDoorF11
namespace Go.Proofs.YtcilbmhkhllmjaaGreatDoor
open Go.ChangeShapes Go.WideShapes Go.ChangeAt Go.RowKit
set_option linter.unusedVariables false
namespace WinR
open RowG (MadeG Rws)
open LtR (lt)
open EvtR (Pt evB ev)
open CatR (Blk Blk.new)
open DateR (Laid)
open DateM (fd fd_succ fd_2760 fd_mono)
theorem fd_2761:fd 2761=84037:=by
 have h:=fd_succ 2760
 rw [fd_2760] at h
 rw [h]
 decide +kernel
theorem one_rise {α:Type} {r:α→α→Bool} {z:α} {xs:List α} (h:xs.length≤1):riseB r z xs=true:=rise_yes (rise_one xs.length h)
theorem ev_right (i a m t:ByteArray) (n k:Int) (K:Nat) (hev:evB i a m n k t=true) (f1:fd K≤n / 1440) (f2:n / 1440<fd (K+1)):wB ⟨a,m,(K:Int),1,k,k,tgl t,[⟨HourR.hourV n,k⟩]⟩=true:=by
 unfold evB at hev
 simp only [Bool.and_eq_true,decide_eq_true_eq] at hev
 obtain ⟨_,ha,hm,⟨n1,n2⟩,⟨k1,k2⟩,ht⟩:=hev
 have hK:K≤2760:=by
  rcases Nat.lt_or_ge 2760 K with q|q
  ·have:=fd_mono (j:=2761) (k:=K) q
   rw [fd_2761] at this
   omega
  ·exact q
 have hv:HourR.hourV n=n / 60:=by
  unfold HourR.hourV
  rw [if_pos ⟨n1,n2⟩,Int.tdiv_eq_ediv_of_nonneg n1]
 have hd:60*(n / 60) / 1440=n / 1440:=by omega
 unfold wB namedB countedB timedB hoursB tagsB
 simp only [Bool.and_eq_true,decide_eq_true_eq]
 refine ⟨⟨ha,hm,by omega,by omega⟩,⟨⟨by omega,by omega⟩,⟨k1,by omega⟩,k1,by omega⟩,⟨?_,?_,?_⟩,⟨by simp,by simp⟩,one_rise (by simp),?_,?_⟩
 ·unfold tgl;split<;>simp
 ·exact one_rise (by unfold tgl;split<;>simp)
 ·unfold tgl
  split
  ·rfl
  ·rename_i q
   simp only [List.all_cons,List.all_nil,Bool.and_true]
   unfold tagOk
   simp only [Bool.and_eq_true,decide_eq_true_eq]
   exact ⟨by omega,ht⟩
 ·simp only [List.all_cons,List.all_nil,Bool.and_true]
  unfold hOk hourIn
  simp only [Bool.and_eq_true,decide_eq_true_eq]
  rw [hv,hd]
  exact ⟨⟨by omega,by omega,by omega,by simpa using f1,by simpa using f2⟩,k1,by omega⟩
 ·simp [hsum]
end WinR
namespace WinR
open RowG (MadeG Rws)
open LtR (lt)
open EvtR (Pt ev evB)
open CatR (Blk Blk.new)
structure Sm (n:Nat) (y:Wd):Prop where
 a:y.a.size≤100
 m:y.m.size≤100
 tl:y.ts.length≤n
 ts:∀t∈y.ts,t.size≤100
 hl:y.hs.length≤12
theorem Sm.small {n:Nat} {y:Wd} (h:Sm n y) (hn:n≤20):y.Small:=⟨by have:=h.a;omega,by have:=h.m;omega,by have:=h.tl;omega,fun t ht=>by have:=h.ts t ht;omega,by have:=h.hl;omega⟩
theorem Sm.le {n k:Nat} {y:Wd} (h:Sm n y) (hn:n≤k):Sm k y:=⟨h.a,h.m,Nat.le_trans h.tl hn,h.ts,h.hl⟩
theorem sm_wz (n:Nat):Sm n wz:=⟨by decide,by decide,Nat.zero_le _,by simp [wz],Nat.zero_le _⟩
structure WdO (B:Nat) (y:Wd) (ta:Option Addr) (tc:Nat) (ha:Option Addr) (W:World):Prop where
 tg:TgO B ta y.ts tc W
 hr:Hrs ha y.hs W
 hb:y.hs.length=0∨∀b off,ha=some ⟨b,off,none⟩→B≤b
 ne:∀b off b' off',ta=some ⟨b,off,none⟩→ha=some ⟨b',off',none⟩→b≠b'
section
variable {B B' g:Nat} {y:Wd} {ta:Option Addr} {tc:Nat} {ha:Option Addr} {W W':World}
theorem WdO.below (h:WdO B y ta tc ha W) (hb:Below W.heap.size W W'):WdO B y ta tc ha W':=⟨h.tg.below hb,h.hr.below hb,h.hb,h.ne⟩
theorem WdO.low (h:WdO B y ta tc ha W) (hB:B'≤B):WdO B' y ta tc ha W:=⟨h.tg.low hB,h.hr,h.hb.imp id (fun q b off e=>Nat.le_trans hB (q b off e)),h.ne⟩
theorem WdO.far (h:WdO B y ta tc ha W) (hg:W.grownBy W' (some g)) (hT:∀b off,ta=some ⟨b,off,none⟩→b≠g) (hH:y.hs.length=0∨∀b off,ha=some ⟨b,off,none⟩→b≠g):WdO B y ta tc ha W':=⟨h.tg.far hg hT,Rws.keep h.hr hg hH,h.hb,h.ne⟩
theorem WdO.kept (h:WdO B y ta tc ha W) (hg:W.grownBy W' (some g)) (hB:g<B):WdO B y ta tc ha W' :=
 h.far hg (fun b off e=>by have:=h.tg.ge b off e;omega) (h.hb.imp id (fun q b off e=>by have:=q b off e;omega))
end
theorem jw_sm {x y:Wd} (hx:Sm 13 x) (hy:∀t∈y.ts,t.size≤100) (h:wB (jw x y)=true):Sm 12 (jw x y):=by
 have hf:=fit h
 refine ⟨hx.a,hx.m,hf.tt,?_,hf.lh⟩
 exact mrg_all lt fstT (fun t=>t.size≤100) (fun x y h1 _=>h1) x.ts y.ts hx.ts hy
theorem sev_window (i a m t:ByteArray) (n k:Int) (la:a.size≤100) (lm:m.size≤100) (lt:t.size≤100) :
 ∃y:Wd,(evB i a m n k t=true→wB y=true)∧Sm 1 y∧y.hs.length≤1∧(evB i a m n k t=true→∀w,Calls Tryz.prog 173 #[ev i a m n k t] w fun e w'=>∃v,e=.returned v∧NewWO w.heap.size y v w'∧Below w.heap.size w w'):=by
 cases hev:evB i a m n k t
 ·exact ⟨wz,fun h=>(by cases h),sm_wz 1,Nat.zero_le _,fun h=>(by cases h)⟩
 ·have h:=hev
  unfold evB at h
  simp only [Bool.and_eq_true,decide_eq_true_eq] at h
  obtain ⟨_,_,_,⟨n1,n2⟩,_⟩:=h
  obtain ⟨K,_,f1,f2,hi,hs⟩:=month_two n n1 n2
  refine ⟨⟨a,m,K,1,k,k,tgl t,[⟨HourR.hourV n,k⟩]⟩,fun _=>ev_right i a m t n k K hev f1 f2,⟨la,lm,?_,fun x hx=>?_,by simp⟩,by simp,fun _ w=>sof_in i a m t n k K w n1 n2 hs⟩
  ·show (tgl t).length≤1
   unfold tgl;split<;>simp
  ·have hx':x∈tgl t:=hx
   unfold tgl at hx'
   split at hx'
   ·cases hx'
   ·simp only [List.mem_singleton] at hx'
    subst hx'
    exact lt
def AddP (v:Value) (base:Nat) (W:World):Prop:=∃(z:Wd) (ta:Option Addr) (tc:Nat) (ha:Option Addr) (hc:Nat) (cd:Int),v=.agg #[.string z.a,.string z.m,.int .i64 z.mo,.int .i64 z.ev,.int .i64 z.su,.int .i64 z.mx,.slice ta z.ts.length tc,.slice ha z.hs.length hc,.int .i64 cd]∧(cd=0→Sm 12 z∧WdO base z ta tc ha W)
theorem add_any (x:Wd) (ta:Option Addr) (tc:Nat) (ha:Option Addr) (hc:Nat) (i a m t:ByteArray) (n k:Int) (w:World) (sx:Sm 13 x) (hT:Tgs ta x.ts w) (hH:Hrs ha x.hs w) (li:i.size≤100) (la:a.size≤100) (lm:m.size≤100) (lt:t.size≤100) :
 Calls Tryz.prog 137 #[.agg (wcells x ta tc ha hc),ev i a m n k t] w fun e w'=>∃v,e=.returned v∧AddP v w.heap.size w'∧Below w.heap.size w w':=by
 obtain ⟨y,y1,sy,y2,y3⟩:=sev_window i a m t n k la lm lt
 have hsx:=sx.small (by omega)
 have hsy:=sy.small (by omega)
 have h2:Two x y:=⟨hsx,hsy,by have:=sx.tl;have:=sy.tl;omega,by have:=sx.hl;omega⟩
 refine (sadd_in AddP (fun v W=>IsWd v y W) (wB x) (evB i a m n k t) x.a x.m x.mo x.ev x.su x.mx ta x.ts.length tc ha x.hs.length hc i a m n k t w ?_ (fun W hW=>spec_window_right x ta tc ha hc W hsx.1 hsx.2.1 hsx.2.2.1 hsx.2.2.2.1 (hT.below hW) (hH.below hW)) (fun W hW=>EvtR.spec_event i a m n k t (by omega) (by omega) (by omega) (by omega) W) (fun h W hW=>?_) (fun hx hy v W hW hY=>?_)).mono ?_
 ·rintro v base W W' ⟨z,ta',tc',ha',hc',cd,rfl,hz⟩ hg hlt
  exact ⟨z,ta',tc',ha',hc',cd,rfl,fun h=>⟨(hz h).1,(hz h).2.kept hg hlt⟩⟩
 ·refine (y3 h W).mono ?_
  rintro e w' ⟨v,rfl,⟨ta',tc',ha',hc',rfl,q1,q2,_⟩,hb⟩
  exact ⟨_,rfl,⟨ta',tc',ha',hc',rfl,q1.1,q2⟩,hb⟩
 ·obtain ⟨ta2,tc2,ha2,hc2,rfl,q1,q2⟩:=hY
  have hl1:=(fit hx).l1
  obtain ⟨hb,hf,rfl,_⟩:=hH.at 0 (by omega)
  refine (spec_l07join x y ta tc hb hf hc ta2 tc2 ha2 hc2 W h2 hx (y1 hy) (hT.below hW) (hH.below hW) q1 q2).mono ?_
  rintro e w' ⟨⟨_,rfl⟩|⟨_,_,rfl⟩|⟨_,h3,ta3,tc3,ha3,hc3,rfl,g1,g2,g3,g4,g5⟩,hb2⟩
  ·exact ⟨_,_,_,_,_,_,_,_,_,_,_,_,_,rfl,⟨wz,none,0,none,0,10,rfl,fun h=>by cases h⟩,hb2⟩
  ·exact ⟨_,_,_,_,_,_,_,_,_,_,_,_,_,rfl,⟨wz,none,0,none,0,9,rfl,fun h=>by cases h⟩,hb2⟩
  ·exact ⟨_,_,_,_,_,_,_,_,_,_,_,_,_,rfl,⟨jw x y,ta3,tc3,ha3,hc3,0,rfl,fun _=>⟨jw_sm sx sy.ts h3,⟨g1,g2,.inr g4,g5⟩⟩⟩,hb2⟩
 ·rintro e w' ⟨v,rfl,⟨_,rfl⟩|⟨_,base,hbase,z,ta',tc',ha',hc',cd,rfl,hz⟩,hb⟩
  ·exact ⟨_,rfl,⟨wz,none,0,none,0,1,rfl,fun h=>by cases h⟩,hb⟩
  ·exact ⟨_,rfl,⟨z,ta',tc',ha',hc',cd,rfl,fun h=>⟨(hz h).1,(hz h).2.low hbase⟩⟩,hb⟩
theorem of_any (i a m t:ByteArray) (n k:Int) (w:World) (li:i.size≤100) (la:a.size≤100) (lm:m.size≤100) (lt:t.size≤100) :
 Calls Tryz.prog 135 #[ev i a m n k t] w fun e w'=>(∃(z:Wd) (ta:Option Addr) (tc:Nat) (ha:Option Addr) (hc:Nat),e=.returned (.agg (wcells z ta tc ha hc))∧Sm 12 z∧WdO w.heap.size z ta tc ha w')∧Below w.heap.size w w':=by
 obtain ⟨y,y1,sy,y2,y3⟩:=sev_window i a m t n k la lm lt
 cases hev:evB i a m n k t
 ·refine (sof_any i a m t n k wz w (by omega) (by omega) (by omega) (by omega) (.inl ⟨hev,rfl⟩)).mono ?_
  rintro e w' ⟨v,rfl,⟨ta,tc,ha,hc,rfl,q1,q2,q3,q4⟩,hb⟩
  exact ⟨⟨wz,ta,tc,ha,hc,rfl,sm_wz 12,q1,q2,q3,q4⟩,hb⟩
 ·refine (sof_any i a m t n k y w (by omega) (by omega) (by omega) (by omega) (.inr ⟨hev,y3 hev⟩)).mono ?_
  rintro e w' ⟨v,rfl,⟨ta,tc,ha,hc,rfl,q1,q2,q3,q4⟩,hb⟩
  exact ⟨⟨y,ta,tc,ha,hc,rfl,sy.le (by omega),q1,q2,q3,q4⟩,hb⟩
end WinR
namespace RowG
theorem run_append_fresh {P:Program} (w:World) (base:Nat) (t ty e:TypeId) (i:TypeInfo) (z:Value) (size bytes:Nat) (ht:P.underlying t=some (.slice e)) (hi:P.info? e=some i) (hz:i.zero=some z)
 (hsize:i.size=size) (hby:i.bytes=bytes) (hzs:z.cells.size=size) (hsz:0<size)
 (v:Value) (n:Nat) (xs:List Value) (hown:w.ownsRow base e size v n xs)
 (a:Addr) (m c:Nat) (hm:0<m) (news:List Value) (hl:news.length=m*size) (hnews:∀j u,news[j]? = some u→w.cell? (a.add j)=some u) (h1:∀u∈news,u.oneCell'=true)
 (h63:n+m≤maxLen) (hbytes:(n+m)*bytes≤140737488355328) (hbase:base≤w.heap.size) :
 ∃v' w',(Builtin.append_ #[t,t] ty #[v,.slice (some a) m c]).run P w=.ok v' w'∧w'.ownsRow base e size v' (n+m) (xs++news)∧w.grownBy w' v.ownBlock∧v'≠.slice none 0 0∧∀b,v'.ownBlock=some b→v.ownBlock=some b∨b=w.heap.size:=by
 obtain ⟨v',w',hr,h2,h3,h4⟩:=run_append_own (P:=P) w base t ty e i z size bytes ht hi hz hsize hby hzs hsz v n xs hown a m c news hl hnews h1 h63 hbytes hbase
 refine ⟨v',w',hr,h2,h3,fun e=>by have:=(h4.1 e).2;omega,?_⟩
 subst hsize
 subst hby
 have hs:n+m≤9223372036854775807:=by simp only [maxLen] at h63;omega
 rcases hown.2 with ⟨rfl,rfl⟩|⟨g,cap,cur,rfl,hbg,hg,hnc,hcm,hcs,htake⟩
 ·have hq:=run_append_nil (P:=P) w t ty e i z ht hi hz a m c news hl hnews hm (by omega) (by simp only [Nat.zero_add] at hbytes;omega)
  rw [hr] at hq
  injection hq with e1 e2
  subst e1
  intro b hb
  simp only [Value.ownBlock,Option.some.injEq] at hb
  exact .inr hb.symm
 ·by_cases hroom:n+m≤cap
  ·have hq:=run_append_room (P:=P) w t ty e i ht hi g n cap cur hg a m c news hl hnews h1 hroom (by rw [hl,hcs,←Nat.add_mul];exact Nat.mul_le_mul_right _ hroom)
   rw [hr] at hq
   injection hq with e1 e2
   subst e1
   exact fun b hb=>.inl hb
  ·have hq:=run_append_grow (P:=P) w t ty e i z ht hi hz ⟨g,0,none⟩ n cap xs hown.1 (hown.cells (g:=g) rfl) a m c news hl hnews (by omega) (by omega) (growslice_fits (by omega) hbytes)
   rw [hr] at hq
   injection hq with e1 e2
   subst e1
   intro b hb
   simp only [Value.ownBlock,Option.some.injEq] at hb
   exact .inr hb.symm
theorem wpList_append_fresh {P:Program} (w:World) {ops:Array Oper} {rest:List Oper} {o:Oper} {a:Act} {Q:Exit→Act→World→Prop} (hgd:o.guard=none) (s x:Operand) (t:TypeId)
 (ho:o.op=.call {callee:=.builtin .append,args:=#[s,x],argTypes:=#[t,t]})
 (base:Nat) (e:TypeId) (i:TypeInfo) (z:Value) (size bytes:Nat) (ht:P.underlying t=some (.slice e)) (hi:P.info? e=some i) (hz:i.zero=some z)
 (hsize:i.size=size) (hby:i.bytes=bytes) (hzs:z.cells.size=size) (hsz:0<size)
 (v:Value) (n:Nat) (xs:List Value) (hs:a.eval s=v) (hown:w.ownsRow base e size v n xs)
 (ad:Addr) (m c:Nat) (hm:0<m) (news:List Value) (hx:a.eval x=.slice (some ad) m c) (hl:news.length=m*size) (hnews:∀j u,news[j]? = some u→w.cell? (ad.add j)=some u) (h1:∀u∈news,u.oneCell'=true)
 (h63:n+m≤maxLen) (hbytes:(n+m)*bytes≤140737488355328) (hbase:base≤w.heap.size)
 (h:∀v' w',w'.ownsRow base e size v' (n+m) (xs++news)→w.grownBy w' v.ownBlock→v'≠.slice none 0 0→(∀b,v'.ownBlock=some b→v.ownBlock=some b∨b=w.heap.size)→wpList P ops Q rest (a.put o.dst v') w'):wpList P ops Q (o::rest) a w:=by
 obtain ⟨v',w',hr,h2,h3,h4,h5⟩:=run_append_fresh (P:=P) w base t o.type e i z size bytes ht hi hz hsize hby hzs hsz v n xs hown ad m c hm news hl hnews h1 h63 hbytes hbase
 refine wpList_plain hgd fun K hK=>?_
 unfold Oper.wp
 simp only [execOp,ho,resolve,invoke,builtin,Sem.run_bind,Sem.run_pure,Result.andThen_ok,List.map_toArray,List.map_cons,List.map_nil,hs,hx,hr]
 exact hK _ _ (h _ _ h2 h3 h4 h5)
end RowG
namespace CatR
structure Ti where
 u:Int
 p:Int
structure Cr where
 a:ByteArray
 m:Int
structure Me where
 n:ByteArray
 g:Int
 wh:Bool
 f:Int
 l:Int
 ts:List Ti
structure Ca where
 ms:List Me
 cs:List Cr
def Ti.zero:Ti:=⟨0,0⟩
def Cr.zero:Cr:=⟨⟨#[]⟩,0⟩
def Me.zero:Me:=⟨⟨#[]⟩,0,false,0,0,[]⟩
def TiAt (w:World) (b o:Nat) (t:Ti):Prop:=w.cell? ⟨b,o,none⟩=some (.int .i64 t.u)∧w.cell? ⟨b,o+1,none⟩=some (.int .i64 t.p)
def CrAt (w:World) (b o:Nat) (t:Cr):Prop:=w.cell? ⟨b,o,none⟩=some (.string t.a)∧w.cell? ⟨b,o+1,none⟩=some (.int .i64 t.m)
def Tis (ao:Option Addr) (len:Nat) (ts:List Ti) (w:World):Prop:=ts.length=len∧(len=0∨∃b off,ao=some ⟨b,off,none⟩∧b<w.heap.size∧∀j,j<len→TiAt w b (off+j*2) (ts.getD j Ti.zero))
def Crs (ao:Option Addr) (len:Nat) (ts:List Cr) (w:World):Prop:=ts.length=len∧(len=0∨∃b off,ao=some ⟨b,off,none⟩∧b<w.heap.size∧∀j,j<len→CrAt w b (off+j*2) (ts.getD j Cr.zero))
def MeAt (w:World) (b o:Nat) (m:Me):Prop:=∃ta tc,w.cell? ⟨b,o,none⟩=some (.string m.n)∧w.cell? ⟨b,o+1,none⟩=some (.int .i64 m.g)∧w.cell? ⟨b,o+2,none⟩=some (.bool m.wh)∧w.cell? ⟨b,o+3,none⟩=some (.int .i64 m.f)∧w.cell? ⟨b,o+4,none⟩=some (.int .i64 m.l)∧w.cell? ⟨b,o+5,none⟩=some (.slice ta m.ts.length tc)∧Tis ta m.ts.length m.ts w
def Mes (ao:Option Addr) (len:Nat) (ms:List Me) (w:World):Prop:=ms.length=len∧(len=0∨∃b off,ao=some ⟨b,off,none⟩∧b<w.heap.size∧∀j,j<len→MeAt w b (off+j*6) (ms.getD j Me.zero))
def IsMe (v:Value) (m:Me) (w:World):Prop:=∃ta tc,v=.agg #[.string m.n,.int .i64 m.g,.bool m.wh,.int .i64 m.f,.int .i64 m.l,.slice ta m.ts.length tc]∧Tis ta m.ts.length m.ts w
def IsCa (v:Value) (c:Ca) (w:World):Prop:=∃ma mc ca cc,v=.agg #[.slice ma c.ms.length mc,.slice ca c.cs.length cc]∧Mes ma c.ms.length c.ms w∧Crs ca c.cs.length c.cs w
theorem TiAt.below {w w':World} {b o:Nat} {e:Ti} (h:TiAt w b o e) (hl:b<w.heap.size) (hb:Below w.heap.size w w'):TiAt w' b o e :=
 ⟨(hb.cell (p:=⟨b,o,none⟩) hl).trans h.1,(hb.cell (p:=⟨b,o+1,none⟩) hl).trans h.2⟩
theorem CrAt.below {w w':World} {b o:Nat} {e:Cr} (h:CrAt w b o e) (hl:b<w.heap.size) (hb:Below w.heap.size w w'):CrAt w' b o e :=
 ⟨(hb.cell (p:=⟨b,o,none⟩) hl).trans h.1,(hb.cell (p:=⟨b,o+1,none⟩) hl).trans h.2⟩
theorem Tis.below {ao:Option Addr} {len:Nat} {es:List Ti} {w w':World} (h:Tis ao len es w) (hb:Below w.heap.size w w'):Tis ao len es w':=by
 refine ⟨h.1,?_⟩
 rcases h.2 with h0|⟨b,off,rfl,hlt,hc⟩
 ·exact .inl h0
 ·exact .inr ⟨b,off,rfl,by have:=hb.size;omega,fun j hj=>(hc j hj).below hlt hb⟩
theorem Crs.below {ao:Option Addr} {len:Nat} {es:List Cr} {w w':World} (h:Crs ao len es w) (hb:Below w.heap.size w w'):Crs ao len es w':=by
 refine ⟨h.1,?_⟩
 rcases h.2 with h0|⟨b,off,rfl,hlt,hc⟩
 ·exact .inl h0
 ·exact .inr ⟨b,off,rfl,by have:=hb.size;omega,fun j hj=>(hc j hj).below hlt hb⟩
theorem MeAt.below {w w':World} {b o:Nat} {e:Me} (h:MeAt w b o e) (hl:b<w.heap.size) (hb:Below w.heap.size w w'):MeAt w' b o e:=by
 obtain ⟨ta,tc,h0,h1,h2,h3,h4,h5,h6⟩:=h
 have f:=fun k=>hb.cell (p:=⟨b,k,none⟩) hl
 exact ⟨ta,tc,(f _).trans h0,(f _).trans h1,(f _).trans h2,(f _).trans h3,(f _).trans h4,(f _).trans h5,h6.below hb⟩
theorem Mes.below {ao:Option Addr} {len:Nat} {es:List Me} {w w':World} (h:Mes ao len es w) (hb:Below w.heap.size w w'):Mes ao len es w':=by
 refine ⟨h.1,?_⟩
 rcases h.2 with h0|⟨b,off,rfl,hlt,hc⟩
 ·exact .inl h0
 ·exact .inr ⟨b,off,rfl,by have:=hb.size;omega,fun j hj=>(hc j hj).below hlt hb⟩
theorem IsMe.below {v:Value} {m:Me} {w w':World} (h:IsMe v m w) (hb:Below w.heap.size w w'):IsMe v m w':=by
 obtain ⟨ta,tc,hv,ht⟩:=h
 exact ⟨ta,tc,hv,ht.below hb⟩
theorem IsCa.below {v:Value} {m:Ca} {w w':World} (h:IsCa v m w) (hb:Below w.heap.size w w'):IsCa v m w':=by
 obtain ⟨ma,mc,ca,cc,hv,h1,h2⟩:=h
 exact ⟨ma,mc,ca,cc,hv,h1.below hb,h2.below hb⟩
theorem tis_at {ao:Option Addr} {len:Nat} {es:List Ti} {w:World} (h:Tis ao len es w) (k:Nat) (hk:k<len):∃b off,ao=some ⟨b,off,none⟩∧b<w.heap.size∧TiAt w b (off+k*2) (es.getD k Ti.zero):=by
 rcases h.2 with h0|⟨b,off,rfl,hlt,hc⟩
 ·omega
 ·exact ⟨b,off,rfl,hlt,hc k hk⟩
theorem crs_at {ao:Option Addr} {len:Nat} {es:List Cr} {w:World} (h:Crs ao len es w) (k:Nat) (hk:k<len):∃b off,ao=some ⟨b,off,none⟩∧b<w.heap.size∧CrAt w b (off+k*2) (es.getD k Cr.zero):=by
 rcases h.2 with h0|⟨b,off,rfl,hlt,hc⟩
 ·omega
 ·exact ⟨b,off,rfl,hlt,hc k hk⟩
theorem mes_at {ao:Option Addr} {len:Nat} {es:List Me} {w:World} (h:Mes ao len es w) (k:Nat) (hk:k<len):∃b off,ao=some ⟨b,off,none⟩∧b<w.heap.size∧MeAt w b (off+k*6) (es.getD k Me.zero):=by
 rcases h.2 with h0|⟨b,off,rfl,hlt,hc⟩
 ·omega
 ·exact ⟨b,off,rfl,hlt,hc k hk⟩
theorem Tis.nil (ao:Option Addr) (w:World):Tis ao 0 [] w:=⟨rfl,.inl rfl⟩
end CatR
end Go.Proofs.YtcilbmhkhllmjaaGreatDoor
namespace Go.Proofs.YtcilbmhkhllmjaaGreatDoor
open Go.ChangeShapes Go.WideShapes Go.ChangeAt Go.RowKit Go.Deep
set_option linter.unusedVariables false
namespace CatR
section
variable {H:Type} {enc:TypeId × Value→H} {P:Program} {w:World} {base:Nat} {spare:Nat→Bool} {held:Bool}
end
end CatR
namespace WinR
open RowG
section
variable {J:Type} {enc:TypeId × Value→J} {P:Program} {w:World} {base:Nat} {spare:Nat→Bool} {held:Bool}
end
end WinR
end Go.Proofs.YtcilbmhkhllmjaaGreatDoor
namespace Go.Proofs.YtcilbmhkhllmjaaGreatDoor
open Go.RowKit
set_option linter.unusedVariables false
namespace CatR
def tU (ts:List Ti) (i:Nat):Int:=(ts.getD i Ti.zero).u
def tP (ts:List Ti) (i:Nat):Int:=(ts.getD i Ti.zero).p
def tA (ts:List Ti):Nat→Int
 | 0=>0
 | k+1=>tU ts k
def TOk (ts:List Ti) (k:Nat):Prop:=∀i,i<k→tA ts i<tU ts i∧0≤tP ts i∧tP ts i≤1000000
def TRight (ts:List Ti):Prop:=1≤ts.length∧ts.length≤5∧TOk ts ts.length∧tA ts ts.length=1000000000000
theorem TOk.zero (ts:List Ti):TOk ts 0:=fun i h=>absurd h (by omega)
theorem TOk.more {ts:List Ti} {k:Nat} (h:TOk ts k) (h1:tA ts k<tU ts k) (h2:0≤tP ts k) (h3:tP ts k≤1000000):TOk ts (k+1):=by
 intro i hi
 by_cases e:i=k
 ·subst e;exact ⟨h1,h2,h3⟩
 ·exact h i (by omega)
theorem TOk.rise {ts:List Ti} {n:Nat} (h:TOk ts n):∀i,i≤n→0≤tA ts i∧∀j,j≤i→tA ts j≤tA ts i
 | 0,_=>⟨by simp [tA],fun j hj=>by
  obtain rfl:j=0:=by omega
  exact Int.le_refl _⟩
 | i+1,hi=>by
  obtain ⟨a,b⟩:=TOk.rise h i (by omega)
  have c:=(h i (by omega)).1
  have d:tA ts (i+1)=tU ts i:=rfl
  refine ⟨by omega,fun j hj=>?_⟩
  by_cases e:j=i+1
  ·subst e;exact Int.le_refl _
  ·have:=b j (by omega)
   omega
theorem TRight.upto {ts:List Ti} (h:TRight ts) (k:Nat) (hk:k<ts.length):1≤tU ts k∧tU ts k≤1000000000000:=by
 obtain ⟨_,_,h3,h4⟩:=h
 have a:=(h3.rise ts.length (Nat.le_refl _)).2 (k+1) (by omega)
 have b:=(h3.rise k (by omega)).1
 have c:=(h3 k hk).1
 have d:tA ts (k+1)=tU ts k:=rfl
 omega
def MRight (m:Me):Prop:=NameR.nameB m.n=true∧(1≤m.g∧m.g≤4)∧(0≤m.f∧m.f≤1000000000)∧(0≤m.l∧m.l≤1000000000000)∧TRight m.ts
def TOkDec (ts:List Ti) (k:Nat):Decidable (TOk ts k):=inferInstanceAs (Decidable (∀i,i<k→tA ts i<tU ts i∧0≤tP ts i∧tP ts i≤1000000))
def TRightDec (ts:List Ti):Decidable (TRight ts) :=
 haveI:=TOkDec ts ts.length
 inferInstanceAs (Decidable (1≤ts.length∧ts.length≤5∧TOk ts ts.length∧tA ts ts.length=1000000000000))
def MRightDec (m:Me):Decidable (MRight m) :=
 haveI:=TRightDec m.ts
 inferInstanceAs (Decidable (NameR.nameB m.n=true∧(1≤m.g∧m.g≤4)∧(0≤m.f∧m.f≤1000000000)∧(0≤m.l∧m.l≤1000000000000)∧TRight m.ts))
def tB (ts:List Ti):Bool:=@decide (TRight ts) (TRightDec ts)
def mB (m:Me):Bool:=@decide (MRight m) (MRightDec m)
theorem tB_no {ts:List Ti} (h:¬TRight ts):tB ts=false:=by unfold tB;exact @decide_eq_false _ (TRightDec ts) h
theorem tB_yes {ts:List Ti} (h:TRight ts):tB ts=true:=by unfold tB;exact @decide_eq_true _ (TRightDec ts) h
theorem tB_false {ts:List Ti} {k:Nat} (hk:k<ts.length) (h:¬(tA ts k<tU ts k∧0≤tP ts k∧tP ts k≤1000000)):tB ts=false:=tB_no (fun hr=>h (hr.2.2.1 k hk))
theorem tB_over {ts:List Ti} {k:Nat} (hk:k<ts.length) (h:¬(1≤tU ts k∧tU ts k≤1000000000000)):tB ts=false:=tB_no (fun hr=>h (hr.upto k hk))
theorem tB_end {ts:List Ti} (h1:1≤ts.length) (h5:ts.length≤5) (h:TOk ts ts.length):tB ts=decide (tA ts ts.length=1000000000000):=by
 by_cases e:tA ts ts.length=1000000000000
 ·rw [decide_eq_true e];exact tB_yes ⟨h1,h5,h,e⟩
 ·rw [decide_eq_false e];exact tB_no (fun hr=>e hr.2.2.2)
theorem mB_eq (m:Me):mB m=(NameR.nameB m.n&&decide (1≤m.g∧m.g≤4)&&decide (0≤m.f∧m.f≤1000000000)&&decide (0≤m.l∧m.l≤1000000000000)&&tB m.ts):=by
 unfold mB tB
 rw [Bool.eq_iff_iff]
 simp only [decide_eq_true_eq,Bool.and_eq_true]
 unfold MRight
 constructor
 ·rintro ⟨a,b,c,d,e⟩;exact ⟨⟨⟨⟨a,b⟩,c⟩,d⟩,e⟩
 ·rintro ⟨⟨⟨⟨a,b⟩,c⟩,d⟩,e⟩;exact ⟨a,b,c,d,e⟩
end CatR
end Go.Proofs.YtcilbmhkhllmjaaGreatDoor
namespace Go.Proofs.YtcilbmhkhllmjaaGreatDoor
open Go.ChangeShapes Go.WideShapes Go.ChangeAt Go.RowKit
set_option linter.unusedVariables false
namespace CatR
theorem H_ {p:Prop} (h:p):Hid p:=h
theorem within64 (n low high:Int) (w:World) :
 Calls Tryz.prog 66 #[.int .i64 n,.int .i64 low,.int .i64 high] w fun e w'=>e=.returned (.bool (decide (low≤n∧n≤high)))∧w'=w:=by
 rcases (show (¬low≤n)∨(low≤n∧¬n≤high)∨(low≤n∧n≤high) by omega) with h|⟨h1,h2⟩|⟨h1,h2⟩
 all_goals
  go_enter Tryz.func66,Tryz.ntmps66
  go_wp2
  go_ret
  exact ⟨ret_bool (by first|(simp [*];done)|(simp;omega)),rfl⟩
theorem withinI (n low high:Int) (w:World) :
 Calls Tryz.prog 182 #[.int .i64 n,.int .i64 low,.int .i64 high] w fun e w'=>e=.returned (.bool (decide (low≤n∧n≤high)))∧w'=w:=by
 rcases (show (¬low≤n)∨(low≤n∧¬n≤high)∨(low≤n∧n≤high) by omega) with h|⟨h1,h2⟩|⟨h1,h2⟩
 all_goals
  go_enter Tryz.func182,Tryz.ntmps182
  go_wp2
  go_ret
  exact ⟨ret_bool (by first|(simp [*];done)|(simp;omega)),rfl⟩
theorem isS (n low high:Int) (w:World) :
 Calls Tryz.prog 69 #[.int .i64 n,.int .i64 low,.int .i64 high] w fun e w'=>e=.returned (.bool (decide (low≤n∧n≤high)))∧w'=w:=by
 rcases (show (¬low≤n)∨(low≤n∧¬n≤high)∨(low≤n∧n≤high) by omega) with h|⟨h1,h2⟩|⟨h1,h2⟩
 all_goals
  go_enter Tryz.func69,Tryz.ntmps69
  go_wp2
  go_ret
  exact ⟨ret_bool (by first|(simp [*];done)|(simp;omega)),rfl⟩
set_option maxRecDepth 100000 in
set_option maxHeartbeats 4000000 in
theorem impl_tiers (ao:Option Addr) (len cap:Nat) (ts:List Ti) (w:World) (hlen:len≤1048576) (hI:Tis ao len ts w) :
 Calls Tryz.prog 144 #[.slice ao len cap] w fun e w'=>e=.returned (.bool (tB ts))∧Below w.heap.size w w':=by
 have hz:=hI.1
 have HWI:=H_ (fun w=>withinI len 1 5 w)
 by_cases h15:1≤len∧len≤5
 ·rw [decide_eq_true (by omega)] at HWI
  have HI:=H_ hI
  have HZ:=H_ hz
  have HT0:=H_ (fun k (hk:k<ts.length)=>tB_false (ts:=ts) hk)
  have HTE:=H_ (fun h=>tB_end (ts:=ts) (by omega) (by omega) h)
  generalize tB ts=R at *
  clear hI hz
  go_enter Tryz.func144,Tryz.ntmps144
  go_wp2_with (go_at_call 182;refine (HWI.out _).mono ?_;rintro e w0 ⟨rfl,rfl⟩)
  go_loopw [3,12] (fun x z wr=>∃k:Nat,k≤len∧x=.int .i64 (tA ts k)∧z=.int .i64 k∧Hid (TOk ts k)∧Hid (Below w0.heap.size w0 wr)) (fun x z _=>len-(intOf z).toNat)
  case atStart=>exact ⟨0,by omega,rfl,rfl,H_ (TOk.zero ts),H_ (Below.refl _ _)⟩
  case round =>
   obtain ⟨k,hk,rfl,rfl,HK,HB⟩:=hrel
   by_cases hlt:k<len
   ·have hlt2:(k:Int)<(len:Int):=by omega
    obtain ⟨b,off,rfl,hbl,d0,d1⟩:=tis_at (HI.out.below HB.out) k hlt
    have c0:wr.cell? ⟨b,off+k*2,none⟩=some (.int .i64 (tU ts k)):=d0
    have c1:wr.cell? ⟨b,off+k*2+1,none⟩=some (.int .i64 (tP ts k)):=d1
    clear d0 d1
    have HT:=H_ (HT0.out k (by have:=HZ.out;omega))
    have HM:=H_ (fun h1 h2 h3=>HK.out.more (k:=k) h1 h2 h3)
    have HU:Hid (tA ts (k+1)=tU ts k):=rfl
    have HW2:=H_ (fun w=>within64 (tP ts k) 0 1000000 w)
    generalize tA ts k=A at *
    generalize tU ts k=U at *
    generalize tP ts k=P at *
    have HAl:=H_ (fun o=>HB.out.alloc HB.out.size o)
    rcases (show (U≤A)∨(¬U≤A∧¬(0≤P∧P≤1000000))∨(¬U≤A∧(0≤P∧P≤1000000)) by omega) with q|⟨q,q2⟩|⟨q,q2⟩
    ·have HR:Hid (R=false):=H_ (HT.out (by omega))
     go_wp2_with fail
     go_ret
     exact ⟨ret_bool HR.out.symm,HAl.out _⟩
    ·have HR:Hid (R=false):=H_ (HT.out (fun h=>q2 h.2))
     rw [decide_eq_false q2] at HW2
     go_wp2_with (go_at_call 66;refine (HW2.out _).mono ?_;rintro e w' ⟨rfl,rfl⟩)
     go_ret
     exact ⟨ret_bool HR.out.symm,HAl.out _⟩
    ·have HM2:=H_ (HM.out (by omega) q2.1 q2.2)
     rw [decide_eq_true q2] at HW2
     go_wp2_with (go_at_call 66;refine (HW2.out _).mono ?_;rintro e w' ⟨rfl,rfl⟩)
     go_roundw
     case rel=>exact ⟨k+1,by omega,by rw [HU.out],by go_num,HM2,H_ (HAl.out _)⟩
     case measure=>simp [intOf];omega
   ·obtain rfl:k=len:=by omega
    have HR:Hid (R=decide (tA ts k=1000000000000)):=H_ (by have h:=HTE.out;rw [HZ.out] at h;exact h HK.out)
    generalize tA ts k=A at *
    by_cases q:A=1000000000000
    ·rw [decide_eq_true q] at HR
     go_wp2_with fail
     go_ret
     exact ⟨ret_bool (by rw [HR.out];try simp [q]),HB.out⟩
    ·rw [decide_eq_false q] at HR
     go_wp2_with fail
     go_ret
     exact ⟨ret_bool (by rw [HR.out];try simp [q]),HB.out⟩
 ·rw [decide_eq_false (by omega)] at HWI
  have HR:Hid (tB ts=false):=H_ (tB_no (fun h=>by have:=h.1;have:=h.2.1;omega))
  clear hI hz
  go_enter Tryz.func144,Tryz.ntmps144
  go_wp2_with (go_at_call 182;refine (HWI.out _).mono ?_;rintro e w0 ⟨rfl,rfl⟩)
  go_ret
  exact ⟨ret_bool HR.out.symm,Below.refl _ _⟩
end CatR
namespace CatR
theorem bdrewN {B:Nat} {a w:World} (h:Below B a w) (n:Nat):Below B a (w.drewN n):=⟨h.os,h.tape,h.output,h.size,h.block⟩
set_option maxRecDepth 100000 in
set_option maxHeartbeats 4000000 in
theorem spec_tiers (ao:Option Addr) (len cap:Nat) (ts:List Ti) (w:World) (hlen:len≤1048576) (hI:Tis ao len ts w) :
 Calls Tryz.prog 112 #[.slice ao len cap] w fun e w'=>e=.returned (.bool (tB ts))∧Below w.heap.size w w':=by
 have hz:=hI.1
 by_cases h15:1≤len∧len≤5
 ·obtain ⟨h1,h5⟩:=h15
  have g1:¬(len:Int)<1:=by omega
  have g5:¬(5:Int)<(len:Int):=by omega
  have HI:=H_ hI
  have HZ:=H_ hz
  have HT0:=H_ (fun k (hk:k<ts.length)=>tB_false (ts:=ts) hk)
  have HT1:=H_ (fun k (hk:k<ts.length)=>tB_over (ts:=ts) hk)
  have HTE:=H_ (fun h=>tB_end (ts:=ts) (by omega) (by omega) h)
  generalize tB ts=R at *
  clear hI hz
  go_enter Tryz.func112,Tryz.ntmps112
  go_wp2_with fail
  go_loopw [4] (fun z wr=>∃k:Nat,k≤len∧z=.int .i64 k∧Hid (TOk ts k)∧Hid (Below w.heap.size w wr)) (fun z _=>len-(intOf z).toNat)
  case atStart=>exact ⟨0,by omega,rfl,H_ (TOk.zero ts),H_ (Below.refl _ _)⟩
  case round =>
   obtain ⟨k,hk,rfl,HK,HB⟩:=hrel
   by_cases hlt:k<len
   ·have hlt2:(k:Int)<(len:Int):=by omega
    obtain ⟨b,off,rfl,hbl,d0,d1⟩:=tis_at (HI.out.below HB.out) k hlt
    have c0:wr.cell? ⟨b,off+k*2,none⟩=some (.int .i64 (tU ts k)):=d0
    have c1:wr.cell? ⟨b,off+k*2+1,none⟩=some (.int .i64 (tP ts k)):=d1
    clear d0 d1
    have HT:=H_ (HT0.out k (by have:=HZ.out;omega))
    have HO:=H_ (HT1.out k (by have:=HZ.out;omega))
    have HM:=H_ (fun h1 h2 h3=>HK.out.more (k:=k) h1 h2 h3)
    have HA1:=H_ (HK.out.rise k (Nat.le_refl _)).1
    rcases (show k=0∨∃j,k=j+1 from by rcases k with _|j;exact .inl rfl;exact .inr ⟨j,rfl⟩) with rfl|⟨j,hkj⟩
    ·have HA:Hid (tA ts 0=0):=rfl
     simp only [Nat.zero_mul,Nat.add_zero] at c0 c1
     have HW1:=H_ (fun w=>isS (tU ts 0) 1 1000000000000 w)
     have HW2:=H_ (fun w=>isS (tP ts 0) 0 1000000 w)
     generalize tA ts 0=A at *
     generalize tU ts 0=U at *
     generalize tP ts 0=P at *
     rcases (show (¬(1≤U∧U≤1000000000000))∨((1≤U∧U≤1000000000000)∧¬(0≤P∧P≤1000000))∨((1≤U∧U≤1000000000000)∧(0≤P∧P≤1000000)) by omega) with q|⟨q,q2⟩|⟨q,q2⟩
     ·have HR:Hid (R=false):=H_ (HO.out q)
      rw [decide_eq_false q] at HW1
      go_wp2_with fail
      go_quiet ((first|(go_at_call_of 69 (Value.int .i64 U);exact Calls.quiet_of_same (HW1.out _))|(go_at_call_of 69 (Value.int .i64 P);exact Calls.quiet_of_same (HW2.out _))))
      go_wp2_with fail
      go_ret
      exact ⟨ret_bool HR.out.symm,bdrewN HB.out _⟩
     ·have HR:Hid (R=false):=H_ (HT.out (fun h=>q2 h.2))
      rw [decide_eq_false q2] at HW2
      rw [decide_eq_true q] at HW1
      go_wp2_with fail
      go_quiet ((first|(go_at_call_of 69 (Value.int .i64 U);exact Calls.quiet_of_same (HW1.out _))|(go_at_call_of 69 (Value.int .i64 P);exact Calls.quiet_of_same (HW2.out _))))
      go_wp2_with fail
      go_ret
      exact ⟨ret_bool HR.out.symm,bdrewN HB.out _⟩
     ·have HM2:=H_ (HM.out (by have:=HA.out;omega) q2.1 q2.2)
      rw [decide_eq_true q2] at HW2
      rw [decide_eq_true q] at HW1
      go_wp2_with fail
      go_quiet ((first|(go_at_call_of 69 (Value.int .i64 U);exact Calls.quiet_of_same (HW1.out _))|(go_at_call_of 69 (Value.int .i64 P);exact Calls.quiet_of_same (HW2.out _))))
      go_wp2_with fail
      go_roundw
      case rel=>exact ⟨0+1,by omega,by go_num,HM2,H_ (bdrewN HB.out _)⟩
      case measure=>simp [intOf];omega
    ·obtain ⟨b',off',hbo,hbl',d0,d1⟩:=tis_at (HI.out.below HB.out) j (by omega)
     obtain ⟨rfl,rfl⟩:b=b'∧off=off':=by simpa using hbo
     have c2:wr.cell? ⟨b,off+j*2,none⟩=some (.int .i64 (tU ts j)):=d0
     clear d0 d1 hbl' hbo
     have HA:Hid (tA ts k=tU ts j):=H_ (by rw [hkj];rfl)
     have HW1:=H_ (fun w=>isS (tU ts k) 1 1000000000000 w)
     have HW2:=H_ (fun w=>isS (tP ts k) 0 1000000 w)
     generalize tA ts k=A at *
     generalize tU ts k=U at *
     generalize tU ts j=V at *
     generalize tP ts k=P at *
     have hj1:IntKind.i64.wrap ((k:Int)-1)=(j:Int):=by rw [IntKind.wrap_i64];omega
     have hj2:0<k:=by omega
     have hj3:(j:Int)<(len:Int):=by omega
     clear hkj
     rcases (show (¬(1≤U∧U≤1000000000000))∨((1≤U∧U≤1000000000000)∧U≤V)∨((1≤U∧U≤1000000000000)∧¬U≤V∧¬(0≤P∧P≤1000000))∨((1≤U∧U≤1000000000000)∧¬U≤V∧(0≤P∧P≤1000000)) by omega) with q|⟨q,q1⟩|⟨q,q1,q2⟩|⟨q,q1,q2⟩
     ·have HR:Hid (R=false):=H_ (HO.out q)
      rw [decide_eq_false q] at HW1
      go_wp2_with fail
      go_quiet ((first|(go_at_call_of 69 (Value.int .i64 U);exact Calls.quiet_of_same (HW1.out _))|(go_at_call_of 69 (Value.int .i64 P);exact Calls.quiet_of_same (HW2.out _))))
      go_wp2_with fail
      go_ret
      exact ⟨ret_bool HR.out.symm,bdrewN HB.out _⟩
     ·have HR:Hid (R=false):=H_ (HT.out (fun h=>by have:=h.1;have:=HA.out;omega))
      rw [decide_eq_true q] at HW1
      go_wp2_with fail
      go_quiet ((first|(go_at_call_of 69 (Value.int .i64 U);exact Calls.quiet_of_same (HW1.out _))|(go_at_call_of 69 (Value.int .i64 P);exact Calls.quiet_of_same (HW2.out _))))
      go_wp2_with fail
      go_ret
      exact ⟨ret_bool HR.out.symm,bdrewN HB.out _⟩
     ·have HR:Hid (R=false):=H_ (HT.out (fun h=>q2 h.2))
      rw [decide_eq_false q2] at HW2
      rw [decide_eq_true q] at HW1
      go_wp2_with fail
      go_quiet ((first|(go_at_call_of 69 (Value.int .i64 U);exact Calls.quiet_of_same (HW1.out _))|(go_at_call_of 69 (Value.int .i64 P);exact Calls.quiet_of_same (HW2.out _))))
      go_wp2_with fail
      go_ret
      exact ⟨ret_bool HR.out.symm,bdrewN HB.out _⟩
     ·have HM2:=H_ (HM.out (by have:=HA.out;omega) q2.1 q2.2)
      rw [decide_eq_true q2] at HW2
      rw [decide_eq_true q] at HW1
      go_wp2_with fail
      go_quiet ((first|(go_at_call_of 69 (Value.int .i64 U);exact Calls.quiet_of_same (HW1.out _))|(go_at_call_of 69 (Value.int .i64 P);exact Calls.quiet_of_same (HW2.out _))))
      go_wp2_with fail
      go_roundw
      case rel=>exact ⟨k+1,by omega,by go_num,HM2,H_ (bdrewN HB.out _)⟩
      case measure=>simp [intOf];omega
   ·obtain rfl:k=len:=by omega
    have HR:Hid (R=decide (tA ts k=1000000000000)):=H_ (by have h:=HTE.out;rw [HZ.out] at h;exact h HK.out)
    obtain ⟨j,hkj⟩:∃j,k=j+1:=⟨k-1,by omega⟩
    obtain ⟨b,off,rfl,hbl,d0,d1⟩:=tis_at (HI.out.below HB.out) j (by omega)
    have c2:wr.cell? ⟨b,off+j*2,none⟩=some (.int .i64 (tA ts k)):=by rw [hkj];exact d0
    clear d0 d1
    have hj1:(k:Int)-1=(j:Int):=by omega
    have hj3:(j:Int)<(k:Int):=by omega
    clear hkj
    generalize tA ts k=A at *
    by_cases q:A=1000000000000
    ·rw [decide_eq_true q] at HR
     go_wp2_with fail
     try go_quiet (fail)
     try go_wp2_with fail
     go_ret
     exact ⟨ret_bool (by rw [HR.out];try simp [q]),by first|exact HB.out|exact bdrewN HB.out _⟩
    ·rw [decide_eq_false q] at HR
     go_wp2_with fail
     try go_quiet (fail)
     try go_wp2_with fail
     go_ret
     exact ⟨ret_bool (by rw [HR.out];try simp [q]),by first|exact HB.out|exact bdrewN HB.out _⟩
 ·have HR:Hid (tB ts=false):=H_ (tB_no (fun h=>by have:=h.1;have:=h.2.1;omega))
  have g:(len:Int)<1∨(¬(len:Int)<1∧(5:Int)<(len:Int)):=by omega
  clear hI hz
  rcases g with g|⟨g,g2⟩
  all_goals
   go_enter Tryz.func112,Tryz.ntmps112
   go_wp2_with fail
   go_ret
   exact ⟨ret_bool HR.out.symm,Below.refl _ _⟩
end CatR
namespace CatR
open EvtR (Pt cell_put cell_far)
theorem infoT:(Tryz.prog.info? 162).map (fun i=>(i.zero,i.size,i.bytes))=some (some (.agg #[.int .i64 0,.int .i64 0]),2,16):=by kernel_rfl
theorem pt_row {w:World} {g m:Nat} {cs:List Value} {T:TypeId} (hh:w.heap[g]? = some (.cells cs.toArray T (0,0))) (hl:cs.length=m):Pt g m w where
 lt:=(Array.getElem?_eq_some_iff.1 hh).1
 has:=fun o ho=>⟨cs[o]'(by omega),by simp [World.cell?,hh,hl,ho]⟩
 free:=fun o ho=>by simp [World.frozen?,hh]
end CatR
namespace CatR
open EvtR (Pt cell_put cell_far)
theorem far_block (w:World) (b o:Nat) (v:Value) (k:Nat) (hk:b≠k):(w.setCell ⟨b,o,none⟩ v).heap[k]? = w.heap[k]?:=by
 simp only [World.setCell]
 rw [Array.getElem?_modify,if_neg hk]
theorem _root_.Go.Proofs.YtcilbmhkhllmjaaGreatDoor.EvtR.Pt.far {g m:Nat} {w:World} (h:Pt g m w) {b:Nat} (hb:b≠g) (o:Nat) (v:Value):Pt g m (w.setCell ⟨b,o,none⟩ v):=by
 have e:=far_block w b o v g hb
 exact ⟨by simpa using h.lt,fun x hx=>by obtain ⟨u,hu⟩:=h.has x hx;exact ⟨u,(World.cell?_of_block (a:=⟨g,x,none⟩) e).trans hu⟩,fun x hx=>(World.frozen?_of_block (a:=⟨g,x,none⟩) e).trans (h.free x hx)⟩
theorem Tis.far {b0 off len:Nat} {ts:List Ti} {w:World} (h:Tis (some ⟨b0,off,none⟩) len ts w) {b:Nat} (hb:b≠b0) (o:Nat) (v:Value):Tis (some ⟨b0,off,none⟩) len ts (w.setCell ⟨b,o,none⟩ v):=by
 refine ⟨h.1,?_⟩
 rcases h.2 with h0|⟨b1,off1,e,hlt,hc⟩
 ·exact .inl h0
 ·obtain ⟨rfl,rfl⟩:b0=b1∧off=off1:=by simpa using e
  have e:=far_block w b o v b0 hb
  exact .inr ⟨b0,off,rfl,by simpa using hlt,fun j hj=>⟨(World.cell?_of_block (a:=⟨b0,_,none⟩) e).trans (hc j hj).1,(World.cell?_of_block (a:=⟨b0,_,none⟩) e).trans (hc j hj).2⟩⟩
def NewMe (base:Nat) (v:Value) (m:Me) (w:World):Prop:=∃b,base≤b∧v=.agg #[.string m.n,.int .i64 m.g,.bool m.wh,.int .i64 m.f,.int .i64 m.l,.slice (some ⟨b,0,none⟩) m.ts.length m.ts.length]∧Tis (some ⟨b,0,none⟩) m.ts.length m.ts w∧Pt b (m.ts.length*2) w
theorem NewMe.is {base:Nat} {v:Value} {m:Me} {w:World} (h:NewMe base v m w):IsMe v m w:=by
 obtain ⟨b,_,h1,h2,_⟩:=h
 exact ⟨_,_,h1,h2⟩
end CatR
namespace CatR
open EvtR (Pt cell_put cell_far)
def Me.Small (m:Me):Prop:=m.n.size≤1048576∧m.ts.length≤1048576
def Me.In (m:Me):Prop:=m.n.size≤maxLen∧m.ts.length≤maxLen
def MeC (w:World) (g o b:Nat) (m:Me):Prop:=(w.cell? ⟨g,o,none⟩=some (.string m.n)∧w.cell? ⟨g,o+1,none⟩=some (.int .i64 m.g)∧w.cell? ⟨g,o+2,none⟩=some (.bool m.wh)∧w.cell? ⟨g,o+3,none⟩=some (.int .i64 m.f)∧w.cell? ⟨g,o+4,none⟩=some (.int .i64 m.l)∧w.cell? ⟨g,o+5,none⟩=some (.slice (some ⟨b,0,none⟩) m.ts.length m.ts.length))∧Tis (some ⟨b,0,none⟩) m.ts.length m.ts w∧Pt b (m.ts.length*2) w
theorem MeC.below {w w':World} {g o b:Nat} {m:Me} (h:MeC w g o b m) (hl:g<w.heap.size) (hb:Below w.heap.size w w'):MeC w' g o b m:=by
 obtain ⟨⟨h0,h1,h2,h3,h4,h5⟩,h6,h7⟩:=h
 have f:=fun k=>hb.cell (p:=⟨g,k,none⟩) hl
 exact ⟨⟨(f _).trans h0,(f _).trans h1,(f _).trans h2,(f _).trans h3,(f _).trans h4,(f _).trans h5⟩,h6.below hb,h7.below hb⟩
theorem MeC.is {w:World} {g o b:Nat} {m:Me} (h:MeC w g o b m):MeAt w g o m:=by
 obtain ⟨⟨h0,h1,h2,h3,h4,h5⟩,h6,h7⟩:=h
 exact ⟨_,_,h0,h1,h2,h3,h4,h5,h6⟩
structure NewMes (base g:Nat) (bs:Nat→Nat) (n k:Nat) (ms:List Me) (w:World):Prop where
 lo:base≤g
 pt:Pt g (n*6) w
 inc:∀i,i<k→g<bs i∧∀j,j<i→bs j<bs i
 cel:∀i,i<k→MeC w g (i*6) (bs i) (ms.getD i Me.zero)
theorem NewMes.below {base g:Nat} {bs:Nat→Nat} {n k:Nat} {ms:List Me} {w w':World} (h:NewMes base g bs n k ms w) (hb:Below w.heap.size w w'):NewMes base g bs n k ms w' :=
 ⟨h.lo,h.pt.below hb,h.inc,fun i hi=>(h.cel i hi).below h.pt.lt hb⟩
theorem NewMes.is {base g:Nat} {bs:Nat→Nat} {n:Nat} {ms:List Me} {w:World} (h:NewMes base g bs n n ms w) (hz:ms.length=n):Mes (some ⟨g,0,none⟩) n ms w :=
 ⟨hz,.inr ⟨g,0,rfl,h.pt.lt,fun j hj=>by rw [Nat.zero_add];exact (h.cel j hj).is⟩⟩
def setM (wr:World) (g o:Nat) (m:Me) (b:Nat):World:=(((((wr.setCell ⟨g,o,none⟩ (.string m.n)).setCell ⟨g,o+1,none⟩ (.int .i64 m.g)).setCell ⟨g,o+2,none⟩ (.bool m.wh)).setCell ⟨g,o+3,none⟩ (.int .i64 m.f)).setCell ⟨g,o+4,none⟩ (.int .i64 m.l)).setCell ⟨g,o+5,none⟩ (.slice (some ⟨b,0,none⟩) m.ts.length m.ts.length)
theorem setM_pt {wr:World} {g o b m0:Nat} {m:Me} (h:Pt g m0 wr):Pt g m0 (setM wr g o m b):=(((((h.set _ _).set _ _).set _ _).set _ _).set _ _).set _ _
theorem setM_far {wr:World} {g o b:Nat} {m:Me} (x:Nat) (hx:x<o∨o+6≤x):(setM wr g o m b).cell? ⟨g,x,none⟩=wr.cell? ⟨g,x,none⟩:=by
 unfold setM
 rw [cell_far _ _ (by omega),cell_far _ _ (by omega),cell_far _ _ (by omega),cell_far _ _ (by omega),cell_far _ _ (by omega),cell_far _ _ (by omega)]
theorem setM_tis {wr:World} {g o b c len:Nat} {m:Me} {ts:List Ti} (h:Tis (some ⟨c,0,none⟩) len ts wr) (hc:g≠c):Tis (some ⟨c,0,none⟩) len ts (setM wr g o m b):=(((((h.far hc _ _).far hc _ _).far hc _ _).far hc _ _).far hc _ _).far hc _ _
theorem setM_ptf {wr:World} {g o b c m0:Nat} {m:Me} (h:Pt c m0 wr) (hc:g≠c):Pt c m0 (setM wr g o m b):=(((((h.far hc _ _).far hc _ _).far hc _ _).far hc _ _).far hc _ _).far hc _ _
theorem setM_at {wr:World} {g o b m0:Nat} {m:Me} (h:Pt g m0 wr) (ho:o+6≤m0) (hT:Tis (some ⟨b,0,none⟩) m.ts.length m.ts wr) (hP:Pt b (m.ts.length*2) wr) (hb:g≠b):MeC (setM wr g o m b) g o b m:=by
 refine ⟨⟨?_,?_,?_,?_,?_,?_⟩,setM_tis hT hb,setM_ptf hP hb⟩
 ·unfold setM
  rw [cell_far _ _ (by omega),cell_far _ _ (by omega),cell_far _ _ (by omega),cell_far _ _ (by omega),cell_far _ _ (by omega),cell_put h _ (by omega)]
 ·unfold setM
  rw [cell_far _ _ (by omega),cell_far _ _ (by omega),cell_far _ _ (by omega),cell_far _ _ (by omega),cell_put (h.set _ _) _ (by omega)]
 ·unfold setM
  rw [cell_far _ _ (by omega),cell_far _ _ (by omega),cell_far _ _ (by omega),cell_put ((h.set _ _).set _ _) _ (by omega)]
 ·unfold setM
  rw [cell_far _ _ (by omega),cell_far _ _ (by omega),cell_put (((h.set _ _).set _ _).set _ _) _ (by omega)]
 ·unfold setM
  rw [cell_far _ _ (by omega),cell_put ((((h.set _ _).set _ _).set _ _).set _ _) _ (by omega)]
 ·unfold setM
  rw [cell_put (((((h.set _ _).set _ _).set _ _).set _ _).set _ _) _ (by omega)]
theorem MeC.setM {wr:World} {g o b x c:Nat} {m m':Me} (h:MeC wr g x c m') (hx:x+6≤o) (hc:g≠c):MeC (setM wr g o m b) g x c m':=by
 obtain ⟨⟨h0,h1,h2,h3,h4,h5⟩,h6,h7⟩:=h
 have f:=fun y (hy:y<o)=>setM_far (wr:=wr) (g:=g) (o:=o) (b:=b) (m:=m) y (.inl hy)
 exact ⟨⟨(f _ (by omega)).trans h0,(f _ (by omega)).trans h1,(f _ (by omega)).trans h2,(f _ (by omega)).trans h3,(f _ (by omega)).trans h4,(f _ (by omega)).trans h5⟩,setM_tis h6 hc,setM_ptf h7 hc⟩
theorem NewMes.step {base g:Nat} {bs:Nat→Nat} {n k:Nat} {ms:List Me} {w w1:World} (h:NewMes base g bs n k ms w) (hbl:Below w.heap.size w w1) (hk:k<n) {b:Nat} (hb:w.heap.size≤b) (hlt:∀i,i<k→bs i<w.heap.size) (hT:Tis (some ⟨b,0,none⟩) (ms.getD k Me.zero).ts.length (ms.getD k Me.zero).ts w1) (hP:Pt b ((ms.getD k Me.zero).ts.length*2) w1) :
 NewMes base g (fun i=>if i=k then b else bs i) n (k+1) ms (setM w1 g (k*6) (ms.getD k Me.zero) b):=by
 have h1:=h.below hbl
 have hg:=h.pt.lt
 refine ⟨h.lo,setM_pt h1.pt,fun i hi=>?_,fun i hi=>?_⟩
 ·by_cases e:i=k
  ·subst e
   rw [if_pos rfl]
   refine ⟨by omega,fun j hj=>?_⟩
   rw [if_neg (by omega)]
   have:=hlt j hj
   omega
  ·rw [if_neg e]
   refine ⟨(h.inc i (by omega)).1,fun j hj=>?_⟩
   rw [if_neg (by omega)]
   exact (h.inc i (by omega)).2 j hj
 ·by_cases e:i=k
  ·subst e
   rw [if_pos rfl]
   exact setM_at h1.pt (by omega) hT hP (by omega)
  ·rw [if_neg e]
   exact (h1.cel i (by omega)).setM (by omega) (by have:=(h.inc i (by omega)).1;omega)
end CatR
end Go.Proofs.YtcilbmhkhllmjaaGreatDoor
