/-
  The window of a right event is right; the zero window is not. No condition.
  A small window and a small event added, the model's way: some small window behind it, its lists one's own. No condition.
  append to a list of one's own: what is handed back stands in the block as before, or in a new one. The condition: sizes that fit.
  Tiers, meters, credits and catalogs as rows of cells. No condition.
  Tiers, meters, credits and catalogs that came in, read as rows. No condition.
  A window that came in, read as rows. No condition.
  What is right of tiers, meters, credits and catalogs, in numbers. No condition.
  What the program and the model call right tiers, and a right meter: they are one. The condition: the name has at most 1048576 bytes.
-/
import Derived.Deep.AppendSrc
import Derived.Deep.Fields
import Derived.OpenVars
import Derived.Carry
import Derived.ChangeMaps5
import Derived.Lib.SmallJoins
import Derived.DataReads
import Derived.Deep.RegionWith
import Derived.BigQuiet
import Derived.Deep.QuietTactic
import Derived.Test.YtcilbmhkhllmjaaGreatDoorF13
namespace Go.Proofs.YtcilbmhkhllmjaaGreatDoor
open Go.ChangeShapes Go.WideShapes Go.ChangeAt Go.RowKit
set_option linter.unusedVariables false
namespace WinR
open RowG (MadeG Rws)
open LtR (lt)
open EvtR (Pt evB ev)
open CatR (Blk Blk.new)
open DateR (Laid)
open DateM (fd fd_succ fd_2760 fd_mono)
theorem fd_2761:fd 2761=84037:=by
 have h:=fd_succ 2760
 rw [fd_2760] at h
 rw [h]
 decide +kernel
theorem one_rise {α:Type} {r:α→α→Bool} {z:α} {xs:List α} (h:xs.length≤1):riseB r z xs=true:=rise_yes (rise_one xs.length h)
theorem ev_right (i a m t:ByteArray) (n k:Int) (K:Nat) (hev:evB i a m n k t=true) (f1:fd K≤n / 1440) (f2:n / 1440<fd (K+1)):wB ⟨a,m,(K:Int),1,k,k,tgl t,[⟨HourR.hourV n,k⟩]⟩=true:=by
 unfold evB at hev
 simp only [Bool.and_eq_true,decide_eq_true_eq] at hev
 obtain ⟨_,ha,hm,⟨n1,n2⟩,⟨k1,k2⟩,ht⟩:=hev
 have hK:K≤2760:=by
  rcases Nat.lt_or_ge 2760 K with q|q
  ·have:=fd_mono (j:=2761) (k:=K) q
   rw [fd_2761] at this
   omega
  ·exact q
 have hv:HourR.hourV n=n / 60:=by
  unfold HourR.hourV
  rw [if_pos ⟨n1,n2⟩,Int.tdiv_eq_ediv_of_nonneg n1]
 have hd:60*(n / 60) / 1440=n / 1440:=by omega
 unfold wB namedB countedB timedB hoursB tagsB
 simp only [Bool.and_eq_true,decide_eq_true_eq]
 refine ⟨⟨ha,hm,by omega,by omega⟩,⟨⟨by omega,by omega⟩,⟨k1,by omega⟩,k1,by omega⟩,⟨?_,?_,?_⟩,⟨by simp,by simp⟩,one_rise (by simp),?_,?_⟩
 ·unfold tgl;split<;>simp
 ·exact one_rise (by unfold tgl;split<;>simp)
 ·unfold tgl
  split
  ·rfl
  ·rename_i q
   simp only [List.all_cons,List.all_nil,Bool.and_true]
   unfold tagOk
   simp only [Bool.and_eq_true,decide_eq_true_eq]
   exact ⟨by omega,ht⟩
 ·simp only [List.all_cons,List.all_nil,Bool.and_true]
  unfold hOk hourIn
  simp only [Bool.and_eq_true,decide_eq_true_eq]
  rw [hv,hd]
  exact ⟨⟨by omega,by omega,by omega,by simpa using f1,by simpa using f2⟩,k1,by omega⟩
 ·simp [hsum]
theorem wz_not:wB wz=false:=by
 unfold wB namedB
 have:NameR.nameB wz.a=false:=by
  unfold NameR.nameB
  rfl
 rw [this]
 rfl
end WinR
namespace WinR
open RowG (MadeG Rws)
open LtR (lt)
open EvtR (Pt ev evB)
open CatR (Blk Blk.new)
structure Sm (n:Nat) (y:Wd):Prop where
 a:y.a.size≤100
 m:y.m.size≤100
 tl:y.ts.length≤n
 ts:∀t∈y.ts,t.size≤100
 hl:y.hs.length≤12
theorem Sm.small {n:Nat} {y:Wd} (h:Sm n y) (hn:n≤20):y.Small:=⟨by have:=h.a;omega,by have:=h.m;omega,by have:=h.tl;omega,fun t ht=>by have:=h.ts t ht;omega,by have:=h.hl;omega⟩
theorem Sm.le {n k:Nat} {y:Wd} (h:Sm n y) (hn:n≤k):Sm k y:=⟨h.a,h.m,Nat.le_trans h.tl hn,h.ts,h.hl⟩
theorem sm_wz (n:Nat):Sm n wz:=⟨by decide,by decide,Nat.zero_le _,by simp [wz],Nat.zero_le _⟩
structure WdO (B:Nat) (y:Wd) (ta:Option Addr) (tc:Nat) (ha:Option Addr) (W:World):Prop where
 tg:TgO B ta y.ts tc W
 hr:Hrs ha y.hs W
 hb:y.hs.length=0∨∀b off,ha=some ⟨b,off,none⟩→B≤b
 ne:∀b off b' off',ta=some ⟨b,off,none⟩→ha=some ⟨b',off',none⟩→b≠b'
section
variable {B B' g:Nat} {y:Wd} {ta:Option Addr} {tc:Nat} {ha:Option Addr} {W W':World}
theorem WdO.below (h:WdO B y ta tc ha W) (hb:Below W.heap.size W W'):WdO B y ta tc ha W':=⟨h.tg.below hb,h.hr.below hb,h.hb,h.ne⟩
theorem WdO.low (h:WdO B y ta tc ha W) (hB:B'≤B):WdO B' y ta tc ha W:=⟨h.tg.low hB,h.hr,h.hb.imp id (fun q b off e=>Nat.le_trans hB (q b off e)),h.ne⟩
theorem WdO.far (h:WdO B y ta tc ha W) (hg:W.grownBy W' (some g)) (hT:∀b off,ta=some ⟨b,off,none⟩→b≠g) (hH:y.hs.length=0∨∀b off,ha=some ⟨b,off,none⟩→b≠g):WdO B y ta tc ha W':=⟨h.tg.far hg hT,Rws.keep h.hr hg hH,h.hb,h.ne⟩
theorem WdO.kept (h:WdO B y ta tc ha W) (hg:W.grownBy W' (some g)) (hB:g<B):WdO B y ta tc ha W' :=
 h.far hg (fun b off e=>by have:=h.tg.ge b off e;omega) (h.hb.imp id (fun q b off e=>by have:=q b off e;omega))
end
theorem wdo_wz (B:Nat) (W:World):WdO B wz none 0 none W:=⟨tgo_nil _ _,.inl rfl,.inl rfl,fun b off b' off' e=>by cases e⟩
theorem jw_sm {x y:Wd} (hx:Sm 13 x) (hy:∀t∈y.ts,t.size≤100) (h:wB (jw x y)=true):Sm 12 (jw x y):=by
 have hf:=fit h
 refine ⟨hx.a,hx.m,hf.tt,?_,hf.lh⟩
 exact mrg_all lt fstT (fun t=>t.size≤100) (fun x y h1 _=>h1) x.ts y.ts hx.ts hy
theorem sev_window (i a m t:ByteArray) (n k:Int) (la:a.size≤100) (lm:m.size≤100) (lt:t.size≤100) :
 ∃y:Wd,(evB i a m n k t=true→wB y=true)∧Sm 1 y∧y.hs.length≤1∧(evB i a m n k t=true→∀w,Calls Tryz.prog 173 #[ev i a m n k t] w fun e w'=>∃v,e=.returned v∧NewWO w.heap.size y v w'∧Below w.heap.size w w'):=by
 cases hev:evB i a m n k t
 ·exact ⟨wz,fun h=>(by cases h),sm_wz 1,Nat.zero_le _,fun h=>(by cases h)⟩
 ·have h:=hev
  unfold evB at h
  simp only [Bool.and_eq_true,decide_eq_true_eq] at h
  obtain ⟨_,_,_,⟨n1,n2⟩,_⟩:=h
  obtain ⟨K,_,f1,f2,hi,hs⟩:=month_two n n1 n2
  refine ⟨⟨a,m,K,1,k,k,tgl t,[⟨HourR.hourV n,k⟩]⟩,fun _=>ev_right i a m t n k K hev f1 f2,⟨la,lm,?_,fun x hx=>?_,by simp⟩,by simp,fun _ w=>sof_in i a m t n k K w n1 n2 hs⟩
  ·show (tgl t).length≤1
   unfold tgl;split<;>simp
  ·have hx':x∈tgl t:=hx
   unfold tgl at hx'
   split at hx'
   ·cases hx'
   ·simp only [List.mem_singleton] at hx'
    subst hx'
    exact lt
def AddP (v:Value) (base:Nat) (W:World):Prop:=∃(z:Wd) (ta:Option Addr) (tc:Nat) (ha:Option Addr) (hc:Nat) (cd:Int),v=.agg #[.string z.a,.string z.m,.int .i64 z.mo,.int .i64 z.ev,.int .i64 z.su,.int .i64 z.mx,.slice ta z.ts.length tc,.slice ha z.hs.length hc,.int .i64 cd]∧(cd=0→Sm 12 z∧WdO base z ta tc ha W)
theorem add_any (x:Wd) (ta:Option Addr) (tc:Nat) (ha:Option Addr) (hc:Nat) (i a m t:ByteArray) (n k:Int) (w:World) (sx:Sm 13 x) (hT:Tgs ta x.ts w) (hH:Hrs ha x.hs w) (li:i.size≤100) (la:a.size≤100) (lm:m.size≤100) (lt:t.size≤100) :
 Calls Tryz.prog 137 #[.agg (wcells x ta tc ha hc),ev i a m n k t] w fun e w'=>∃v,e=.returned v∧AddP v w.heap.size w'∧Below w.heap.size w w':=by
 obtain ⟨y,y1,sy,y2,y3⟩:=sev_window i a m t n k la lm lt
 have hsx:=sx.small (by omega)
 have hsy:=sy.small (by omega)
 have h2:Two x y:=⟨hsx,hsy,by have:=sx.tl;have:=sy.tl;omega,by have:=sx.hl;omega⟩
 refine (sadd_in AddP (fun v W=>IsWd v y W) (wB x) (evB i a m n k t) x.a x.m x.mo x.ev x.su x.mx ta x.ts.length tc ha x.hs.length hc i a m n k t w ?_ (fun W hW=>spec_window_right x ta tc ha hc W hsx.1 hsx.2.1 hsx.2.2.1 hsx.2.2.2.1 (hT.below hW) (hH.below hW)) (fun W hW=>EvtR.spec_event i a m n k t (by omega) (by omega) (by omega) (by omega) W) (fun h W hW=>?_) (fun hx hy v W hW hY=>?_)).mono ?_
 ·rintro v base W W' ⟨z,ta',tc',ha',hc',cd,rfl,hz⟩ hg hlt
  exact ⟨z,ta',tc',ha',hc',cd,rfl,fun h=>⟨(hz h).1,(hz h).2.kept hg hlt⟩⟩
 ·refine (y3 h W).mono ?_
  rintro e w' ⟨v,rfl,⟨ta',tc',ha',hc',rfl,q1,q2,_⟩,hb⟩
  exact ⟨_,rfl,⟨ta',tc',ha',hc',rfl,q1.1,q2⟩,hb⟩
 ·obtain ⟨ta2,tc2,ha2,hc2,rfl,q1,q2⟩:=hY
  have hl1:=(fit hx).l1
  obtain ⟨hb,hf,rfl,_⟩:=hH.at 0 (by omega)
  refine (spec_l07join x y ta tc hb hf hc ta2 tc2 ha2 hc2 W h2 hx (y1 hy) (hT.below hW) (hH.below hW) q1 q2).mono ?_
  rintro e w' ⟨⟨_,rfl⟩|⟨_,_,rfl⟩|⟨_,h3,ta3,tc3,ha3,hc3,rfl,g1,g2,g3,g4,g5⟩,hb2⟩
  ·exact ⟨_,_,_,_,_,_,_,_,_,_,_,_,_,rfl,⟨wz,none,0,none,0,10,rfl,fun h=>by cases h⟩,hb2⟩
  ·exact ⟨_,_,_,_,_,_,_,_,_,_,_,_,_,rfl,⟨wz,none,0,none,0,9,rfl,fun h=>by cases h⟩,hb2⟩
  ·exact ⟨_,_,_,_,_,_,_,_,_,_,_,_,_,rfl,⟨jw x y,ta3,tc3,ha3,hc3,0,rfl,fun _=>⟨jw_sm sx sy.ts h3,⟨g1,g2,.inr g4,g5⟩⟩⟩,hb2⟩
 ·rintro e w' ⟨v,rfl,⟨_,rfl⟩|⟨_,base,hbase,z,ta',tc',ha',hc',cd,rfl,hz⟩,hb⟩
  ·exact ⟨_,rfl,⟨wz,none,0,none,0,1,rfl,fun h=>by cases h⟩,hb⟩
  ·exact ⟨_,rfl,⟨z,ta',tc',ha',hc',cd,rfl,fun h=>⟨(hz h).1,(hz h).2.low hbase⟩⟩,hb⟩
theorem of_any (i a m t:ByteArray) (n k:Int) (w:World) (li:i.size≤100) (la:a.size≤100) (lm:m.size≤100) (lt:t.size≤100) :
 Calls Tryz.prog 135 #[ev i a m n k t] w fun e w'=>(∃(z:Wd) (ta:Option Addr) (tc:Nat) (ha:Option Addr) (hc:Nat),e=.returned (.agg (wcells z ta tc ha hc))∧Sm 12 z∧WdO w.heap.size z ta tc ha w')∧Below w.heap.size w w':=by
 obtain ⟨y,y1,sy,y2,y3⟩:=sev_window i a m t n k la lm lt
 cases hev:evB i a m n k t
 ·refine (sof_any i a m t n k wz w (by omega) (by omega) (by omega) (by omega) (.inl ⟨hev,rfl⟩)).mono ?_
  rintro e w' ⟨v,rfl,⟨ta,tc,ha,hc,rfl,q1,q2,q3,q4⟩,hb⟩
  exact ⟨⟨wz,ta,tc,ha,hc,rfl,sm_wz 12,q1,q2,q3,q4⟩,hb⟩
 ·refine (sof_any i a m t n k y w (by omega) (by omega) (by omega) (by omega) (.inr ⟨hev,y3 hev⟩)).mono ?_
  rintro e w' ⟨v,rfl,⟨ta,tc,ha,hc,rfl,q1,q2,q3,q4⟩,hb⟩
  exact ⟨⟨y,ta,tc,ha,hc,rfl,sy.le (by omega),q1,q2,q3,q4⟩,hb⟩
end WinR
namespace RowG
theorem run_append_fresh {P:Program} (w:World) (base:Nat) (t ty e:TypeId) (i:TypeInfo) (z:Value) (size bytes:Nat) (ht:P.underlying t=some (.slice e)) (hi:P.info? e=some i) (hz:i.zero=some z)
 (hsize:i.size=size) (hby:i.bytes=bytes) (hzs:z.cells.size=size) (hsz:0<size)
 (v:Value) (n:Nat) (xs:List Value) (hown:w.ownsRow base e size v n xs)
 (a:Addr) (m c:Nat) (hm:0<m) (news:List Value) (hl:news.length=m*size) (hnews:∀j u,news[j]? = some u→w.cell? (a.add j)=some u) (h1:∀u∈news,u.oneCell'=true)
 (h63:n+m≤maxLen) (hbytes:(n+m)*bytes≤140737488355328) (hbase:base≤w.heap.size) :
 ∃v' w',(Builtin.append_ #[t,t] ty #[v,.slice (some a) m c]).run P w=.ok v' w'∧w'.ownsRow base e size v' (n+m) (xs++news)∧w.grownBy w' v.ownBlock∧v'≠.slice none 0 0∧∀b,v'.ownBlock=some b→v.ownBlock=some b∨b=w.heap.size:=by
 obtain ⟨v',w',hr,h2,h3,h4⟩:=run_append_own (P:=P) w base t ty e i z size bytes ht hi hz hsize hby hzs hsz v n xs hown a m c news hl hnews h1 h63 hbytes hbase
 refine ⟨v',w',hr,h2,h3,fun e=>by have:=(h4.1 e).2;omega,?_⟩
 subst hsize
 subst hby
 have hs:n+m≤9223372036854775807:=by simp only [maxLen] at h63;omega
 rcases hown.2 with ⟨rfl,rfl⟩|⟨g,cap,cur,rfl,hbg,hg,hnc,hcm,hcs,htake⟩
 ·have hq:=run_append_nil (P:=P) w t ty e i z ht hi hz a m c news hl hnews hm (by omega) (by simp only [Nat.zero_add] at hbytes;omega)
  rw [hr] at hq
  injection hq with e1 e2
  subst e1
  intro b hb
  simp only [Value.ownBlock,Option.some.injEq] at hb
  exact .inr hb.symm
 ·by_cases hroom:n+m≤cap
  ·have hq:=run_append_room (P:=P) w t ty e i ht hi g n cap cur hg a m c news hl hnews h1 hroom (by rw [hl,hcs,←Nat.add_mul];exact Nat.mul_le_mul_right _ hroom)
   rw [hr] at hq
   injection hq with e1 e2
   subst e1
   exact fun b hb=>.inl hb
  ·have hq:=run_append_grow (P:=P) w t ty e i z ht hi hz ⟨g,0,none⟩ n cap xs hown.1 (hown.cells (g:=g) rfl) a m c news hl hnews (by omega) (by omega) (growslice_fits (by omega) hbytes)
   rw [hr] at hq
   injection hq with e1 e2
   subst e1
   intro b hb
   simp only [Value.ownBlock,Option.some.injEq] at hb
   exact .inr hb.symm
theorem wpList_append_fresh {P:Program} (w:World) {ops:Array Oper} {rest:List Oper} {o:Oper} {a:Act} {Q:Exit→Act→World→Prop} (hgd:o.guard=none) (s x:Operand) (t:TypeId)
 (ho:o.op=.call {callee:=.builtin .append,args:=#[s,x],argTypes:=#[t,t]})
 (base:Nat) (e:TypeId) (i:TypeInfo) (z:Value) (size bytes:Nat) (ht:P.underlying t=some (.slice e)) (hi:P.info? e=some i) (hz:i.zero=some z)
 (hsize:i.size=size) (hby:i.bytes=bytes) (hzs:z.cells.size=size) (hsz:0<size)
 (v:Value) (n:Nat) (xs:List Value) (hs:a.eval s=v) (hown:w.ownsRow base e size v n xs)
 (ad:Addr) (m c:Nat) (hm:0<m) (news:List Value) (hx:a.eval x=.slice (some ad) m c) (hl:news.length=m*size) (hnews:∀j u,news[j]? = some u→w.cell? (ad.add j)=some u) (h1:∀u∈news,u.oneCell'=true)
 (h63:n+m≤maxLen) (hbytes:(n+m)*bytes≤140737488355328) (hbase:base≤w.heap.size)
 (h:∀v' w',w'.ownsRow base e size v' (n+m) (xs++news)→w.grownBy w' v.ownBlock→v'≠.slice none 0 0→(∀b,v'.ownBlock=some b→v.ownBlock=some b∨b=w.heap.size)→wpList P ops Q rest (a.put o.dst v') w'):wpList P ops Q (o::rest) a w:=by
 obtain ⟨v',w',hr,h2,h3,h4,h5⟩:=run_append_fresh (P:=P) w base t o.type e i z size bytes ht hi hz hsize hby hzs hsz v n xs hown ad m c hm news hl hnews h1 h63 hbytes hbase
 refine wpList_plain hgd fun K hK=>?_
 unfold Oper.wp
 simp only [execOp,ho,resolve,invoke,builtin,Sem.run_bind,Sem.run_pure,Result.andThen_ok,List.map_toArray,List.map_cons,List.map_nil,hs,hx,hr]
 exact hK _ _ (h _ _ h2 h3 h4 h5)
end RowG
namespace CatR
structure Ti where
 u:Int
 p:Int
structure Cr where
 a:ByteArray
 m:Int
structure Me where
 n:ByteArray
 g:Int
 wh:Bool
 f:Int
 l:Int
 ts:List Ti
structure Ca where
 ms:List Me
 cs:List Cr
def Ti.zero:Ti:=⟨0,0⟩
def Cr.zero:Cr:=⟨⟨#[]⟩,0⟩
def Me.zero:Me:=⟨⟨#[]⟩,0,false,0,0,[]⟩
def TiAt (w:World) (b o:Nat) (t:Ti):Prop:=w.cell? ⟨b,o,none⟩=some (.int .i64 t.u)∧w.cell? ⟨b,o+1,none⟩=some (.int .i64 t.p)
def CrAt (w:World) (b o:Nat) (t:Cr):Prop:=w.cell? ⟨b,o,none⟩=some (.string t.a)∧w.cell? ⟨b,o+1,none⟩=some (.int .i64 t.m)
def Tis (ao:Option Addr) (len:Nat) (ts:List Ti) (w:World):Prop:=ts.length=len∧(len=0∨∃b off,ao=some ⟨b,off,none⟩∧b<w.heap.size∧∀j,j<len→TiAt w b (off+j*2) (ts.getD j Ti.zero))
def Crs (ao:Option Addr) (len:Nat) (ts:List Cr) (w:World):Prop:=ts.length=len∧(len=0∨∃b off,ao=some ⟨b,off,none⟩∧b<w.heap.size∧∀j,j<len→CrAt w b (off+j*2) (ts.getD j Cr.zero))
def MeAt (w:World) (b o:Nat) (m:Me):Prop:=∃ta tc,w.cell? ⟨b,o,none⟩=some (.string m.n)∧w.cell? ⟨b,o+1,none⟩=some (.int .i64 m.g)∧w.cell? ⟨b,o+2,none⟩=some (.bool m.wh)∧w.cell? ⟨b,o+3,none⟩=some (.int .i64 m.f)∧w.cell? ⟨b,o+4,none⟩=some (.int .i64 m.l)∧w.cell? ⟨b,o+5,none⟩=some (.slice ta m.ts.length tc)∧Tis ta m.ts.length m.ts w
def Mes (ao:Option Addr) (len:Nat) (ms:List Me) (w:World):Prop:=ms.length=len∧(len=0∨∃b off,ao=some ⟨b,off,none⟩∧b<w.heap.size∧∀j,j<len→MeAt w b (off+j*6) (ms.getD j Me.zero))
def IsMe (v:Value) (m:Me) (w:World):Prop:=∃ta tc,v=.agg #[.string m.n,.int .i64 m.g,.bool m.wh,.int .i64 m.f,.int .i64 m.l,.slice ta m.ts.length tc]∧Tis ta m.ts.length m.ts w
def IsCa (v:Value) (c:Ca) (w:World):Prop:=∃ma mc ca cc,v=.agg #[.slice ma c.ms.length mc,.slice ca c.cs.length cc]∧Mes ma c.ms.length c.ms w∧Crs ca c.cs.length c.cs w
theorem TiAt.below {w w':World} {b o:Nat} {e:Ti} (h:TiAt w b o e) (hl:b<w.heap.size) (hb:Below w.heap.size w w'):TiAt w' b o e :=
 ⟨(hb.cell (p:=⟨b,o,none⟩) hl).trans h.1,(hb.cell (p:=⟨b,o+1,none⟩) hl).trans h.2⟩
theorem CrAt.below {w w':World} {b o:Nat} {e:Cr} (h:CrAt w b o e) (hl:b<w.heap.size) (hb:Below w.heap.size w w'):CrAt w' b o e :=
 ⟨(hb.cell (p:=⟨b,o,none⟩) hl).trans h.1,(hb.cell (p:=⟨b,o+1,none⟩) hl).trans h.2⟩
theorem Tis.below {ao:Option Addr} {len:Nat} {es:List Ti} {w w':World} (h:Tis ao len es w) (hb:Below w.heap.size w w'):Tis ao len es w':=by
 refine ⟨h.1,?_⟩
 rcases h.2 with h0|⟨b,off,rfl,hlt,hc⟩
 ·exact .inl h0
 ·exact .inr ⟨b,off,rfl,by have:=hb.size;omega,fun j hj=>(hc j hj).below hlt hb⟩
theorem Crs.below {ao:Option Addr} {len:Nat} {es:List Cr} {w w':World} (h:Crs ao len es w) (hb:Below w.heap.size w w'):Crs ao len es w':=by
 refine ⟨h.1,?_⟩
 rcases h.2 with h0|⟨b,off,rfl,hlt,hc⟩
 ·exact .inl h0
 ·exact .inr ⟨b,off,rfl,by have:=hb.size;omega,fun j hj=>(hc j hj).below hlt hb⟩
theorem MeAt.below {w w':World} {b o:Nat} {e:Me} (h:MeAt w b o e) (hl:b<w.heap.size) (hb:Below w.heap.size w w'):MeAt w' b o e:=by
 obtain ⟨ta,tc,h0,h1,h2,h3,h4,h5,h6⟩:=h
 have f:=fun k=>hb.cell (p:=⟨b,k,none⟩) hl
 exact ⟨ta,tc,(f _).trans h0,(f _).trans h1,(f _).trans h2,(f _).trans h3,(f _).trans h4,(f _).trans h5,h6.below hb⟩
theorem Mes.below {ao:Option Addr} {len:Nat} {es:List Me} {w w':World} (h:Mes ao len es w) (hb:Below w.heap.size w w'):Mes ao len es w':=by
 refine ⟨h.1,?_⟩
 rcases h.2 with h0|⟨b,off,rfl,hlt,hc⟩
 ·exact .inl h0
 ·exact .inr ⟨b,off,rfl,by have:=hb.size;omega,fun j hj=>(hc j hj).below hlt hb⟩
theorem IsMe.below {v:Value} {m:Me} {w w':World} (h:IsMe v m w) (hb:Below w.heap.size w w'):IsMe v m w':=by
 obtain ⟨ta,tc,hv,ht⟩:=h
 exact ⟨ta,tc,hv,ht.below hb⟩
theorem IsCa.below {v:Value} {m:Ca} {w w':World} (h:IsCa v m w) (hb:Below w.heap.size w w'):IsCa v m w':=by
 obtain ⟨ma,mc,ca,cc,hv,h1,h2⟩:=h
 exact ⟨ma,mc,ca,cc,hv,h1.below hb,h2.below hb⟩
theorem tis_at {ao:Option Addr} {len:Nat} {es:List Ti} {w:World} (h:Tis ao len es w) (k:Nat) (hk:k<len):∃b off,ao=some ⟨b,off,none⟩∧b<w.heap.size∧TiAt w b (off+k*2) (es.getD k Ti.zero):=by
 rcases h.2 with h0|⟨b,off,rfl,hlt,hc⟩
 ·omega
 ·exact ⟨b,off,rfl,hlt,hc k hk⟩
theorem crs_at {ao:Option Addr} {len:Nat} {es:List Cr} {w:World} (h:Crs ao len es w) (k:Nat) (hk:k<len):∃b off,ao=some ⟨b,off,none⟩∧b<w.heap.size∧CrAt w b (off+k*2) (es.getD k Cr.zero):=by
 rcases h.2 with h0|⟨b,off,rfl,hlt,hc⟩
 ·omega
 ·exact ⟨b,off,rfl,hlt,hc k hk⟩
theorem mes_at {ao:Option Addr} {len:Nat} {es:List Me} {w:World} (h:Mes ao len es w) (k:Nat) (hk:k<len):∃b off,ao=some ⟨b,off,none⟩∧b<w.heap.size∧MeAt w b (off+k*6) (es.getD k Me.zero):=by
 rcases h.2 with h0|⟨b,off,rfl,hlt,hc⟩
 ·omega
 ·exact ⟨b,off,rfl,hlt,hc k hk⟩
theorem getD_memG {α:Type} (es:List α) (d:α) (k:Nat) (h:k<es.length):es.getD k d∈es:=by
 have:es.getD k d=es[k]:=by simp [List.getD,h]
 rw [this];exact List.getElem_mem h
theorem Tis.nil (ao:Option Addr) (w:World):Tis ao 0 [] w:=⟨rfl,.inl rfl⟩
end CatR
end Go.Proofs.YtcilbmhkhllmjaaGreatDoor
namespace Go.Proofs.YtcilbmhkhllmjaaGreatDoor
open Go.ChangeShapes Go.WideShapes Go.ChangeAt Go.RowKit Go.Deep
set_option linter.unusedVariables false
namespace CatR
section
variable {H:Type} {enc:TypeId × Value→H} {P:Program} {w:World} {base:Nat} {spare:Nat→Bool} {held:Bool}
theorem lst2 {α:Type} {cs:List α} (h:cs.length=2):∃c0 c1,cs=[c0,c1]:=by
 match cs,h with
 | [c0,c1],_=>exact ⟨c0,c1,rfl⟩
theorem lst6 {α:Type} {cs:List α} (h:cs.length=6):∃c0 c1 c2 c3 c4 c5,cs=[c0,c1,c2,c3,c4,c5]:=by
 match cs,h with
 | [c0,c1,c2,c3,c4,c5],_=>exact ⟨c0,c1,c2,c3,c4,c5,rfl⟩
theorem cellsAt {a:Addr} {cs:List Value} {n:Nat} (h:w.cells? base a n=some cs) (j:Nat) (hj:j<n):w.cell? (a.add j)=cs[j]?:=by
 obtain ⟨_,h1,h2⟩:=World.cells?_some h
 exact h2 j hj
theorem row_open {α:Type} (sz:Nat) (cel:α→List Value→Prop) (d:α) {t e:TypeId} {fuel:Nat} {ao:Option Addr} {len cap:Nat} {x:DataW H × List MemPlace} (ht:P.underlying t=some (.slice e)) (hC:P.cellsOf e=sz) (hsz:0<sz)
 (key:∀fuel cs x,DataW.trod enc P w base spare held fuel e cs=some x→∃a,cel a cs∧cs.length=sz)
 (h:DataW.trod enc P w base spare held fuel t [.slice ao len cap]=some x) :
 len≤maxLen∧∃f:Nat→α,(∀j,j<len→∃cs,cel (f j) cs)∧(len=0∨∃b off,ao=some ⟨b,off,none⟩∧b<w.heap.size∧∀j,j<len→∃cs,cel (f j) cs∧∀i,i<sz→w.cell? ⟨b,off+j*sz+i,none⟩=cs[i]?):=by
 rcases DataW.trod_slice ht h with ⟨hcs,_⟩|⟨a,len',cap',elems,rest,n,_,hcs,_,hb,hl,hm,hlen,hel,_,_⟩
 ·simp only [List.cons.injEq,Value.slice.injEq,and_true] at hcs
  obtain ⟨rfl,rfl,rfl⟩:=hcs
  exact ⟨Nat.zero_le _,fun _=>d,fun j hj=>absurd hj (by omega),.inl rfl⟩
 ·simp only [List.cons.injEq,Value.slice.injEq,and_true] at hcs
  obtain ⟨rfl,rfl,rfl⟩:=hcs
  have key2:∀i,i<len→∃E1:α,∃cs,cel E1 cs∧cs.length=sz∧w.cells? base (a.add (i*sz)) sz=some cs:=by
   intro i hi
   have h1:=hel i hi
   rw [hC,List.getElem?_eq_getElem (by omega)] at h1
   cases hc:w.cells? base (a.add (i*sz)) sz with
   | none=>rw [hc] at h1;simp at h1
   | some cs =>
    rw [hc] at h1
    simp only [Option.bind_some] at h1
    obtain ⟨E1,q1,q2⟩:=key _ _ _ h1
    exact ⟨E1,cs,q1,q2,rfl⟩
  have:∃f:Nat→α,∀i,i<len→∃cs,cel (f i) cs∧cs.length=sz∧w.cells? base (a.add (i*sz)) sz=some cs:=by
   refine ⟨fun i=>if hi:i<len then Classical.choose (key2 i hi) else d,fun i hi=>?_⟩
   simp only [hi,dif_pos]
   exact Classical.choose_spec (key2 i hi)
  obtain ⟨f,hf⟩:=this
  refine ⟨by omega,f,fun j hj=>by obtain ⟨cs,h1,_⟩:=hf j hj;exact ⟨cs,h1⟩,?_⟩
  by_cases h0:len=0
  ·exact .inl h0
  ·obtain ⟨b,off,spot⟩:=a
   obtain ⟨cs0,g0,g1,g2⟩:=hf 0 (by omega)
   have hc0:=cellsAt g2 0 hsz
   rw [List.getElem?_eq_getElem (by omega)] at hc0
   have hc1:w.cell? ⟨b,off,spot⟩=some cs0[0]:=by simpa [Addr.add] using hc0
   obtain rfl:spot=none:=World.cell?_spot hc1
   refine .inr ⟨b,off,rfl,World.block_lt_of_cell? w _ hc1,fun j hj=>?_⟩
   obtain ⟨cs,q1,q2,q3⟩:=hf j hj
   refine ⟨cs,q1,fun i hi=>?_⟩
   have g:=cellsAt q3 i hi
   have ad:((⟨b,off,none⟩:Addr).add (j*sz)).add i=⟨b,off+j*sz+i,none⟩:=by
    unfold Addr.add
    split<;>split<;>simp_all
   rw [ad] at g
   exact g
theorem lst_getD {α:Type} (f:Nat→α) (d:α) (len j:Nat) (hj:j<len):((List.range len).map f).getD j d=f j:=by simp [List.getD,hj]
theorem tis_open {t e:TypeId} {f0 f1:Field} {fuel:Nat} {ao:Option Addr} {len cap:Nat} {x:DataW H × List MemPlace} (ht:P.underlying t=some (.slice e)) (hs:P.underlying e=some (.struct #[f0,f1])) (hone:oneCellFields P #[f0,f1]=true) (hC:P.cellsOf e=2)
 (u0:P.underlying f0.type=some (.int .i64)) (u1:P.underlying f1.type=some (.int .i64))
 (h:DataW.trod enc P w base spare held fuel t [.slice ao len cap]=some x):len≤maxLen∧∃ts:List Ti,ts.length=len∧Tis ao len ts w:=by
 obtain ⟨h1,f,_,h2⟩:=row_open 2 (fun (a:Ti) cs=>cs=[.int .i64 a.u,.int .i64 a.p]) Ti.zero ht hC (by omega) (fun fuel cs x h=>by
  obtain ⟨xs,n,_,_,hl,hlen,hf⟩:=DataW.trod_struct hs h
  obtain ⟨c0,c1,rfl⟩:=lst2 (hl.trans hC)
  obtain ⟨y0,y1,rfl⟩:=lst2 (show xs.length=2 from hlen)
  obtain ⟨o0,k0⟩:=hone_of hone 0 f0 rfl
  obtain ⟨o1,k1⟩:=hone_of hone 1 f1 rfl
  have h0:=hf 0 f0 rfl
  have h1:=hf 1 f1 rfl
  simp [o0,k0] at h0
  simp [o1,k1] at h1
  obtain ⟨p,e0,_,_⟩:=DataW.trod_int u0 h0
  obtain ⟨q,e1,_,_⟩:=DataW.trod_int u1 h1
  simp only [List.cons.injEq,and_true] at e0 e1
  subst e0 e1
  exact ⟨⟨p,q⟩,rfl,rfl⟩) h
 refine ⟨h1,(List.range len).map f,by simp,by simp,?_⟩
 rcases h2 with h2|⟨b,off,rfl,hb,hc⟩
 ·exact .inl h2
 ·refine .inr ⟨b,off,rfl,hb,fun j hj=>?_⟩
  obtain ⟨cs,rfl,g⟩:=hc j hj
  rw [lst_getD f _ len j hj]
  exact ⟨g 0 (by omega),g 1 (by omega)⟩
theorem crs_open {t e:TypeId} {f0 f1:Field} {fuel:Nat} {ao:Option Addr} {len cap:Nat} {x:DataW H × List MemPlace} (ht:P.underlying t=some (.slice e)) (hs:P.underlying e=some (.struct #[f0,f1])) (hone:oneCellFields P #[f0,f1]=true) (hC:P.cellsOf e=2)
 (u0:P.underlying f0.type=some .string) (u1:P.underlying f1.type=some (.int .i64))
 (h:DataW.trod enc P w base spare held fuel t [.slice ao len cap]=some x):len≤maxLen∧∃cs:List Cr,cs.length=len∧(∀i,i<len→(cs.getD i Cr.zero).a.size≤maxLen)∧Crs ao len cs w:=by
 obtain ⟨h1,f,hq,h2⟩:=row_open 2 (fun (a:Cr) cs=>cs=[.string a.a,.int .i64 a.m]∧a.a.size≤maxLen) Cr.zero ht hC (by omega) (fun fuel cs x h=>by
  obtain ⟨xs,n,_,_,hl,hlen,hf⟩:=DataW.trod_struct hs h
  obtain ⟨c0,c1,rfl⟩:=lst2 (hl.trans hC)
  obtain ⟨y0,y1,rfl⟩:=lst2 (show xs.length=2 from hlen)
  obtain ⟨o0,k0⟩:=hone_of hone 0 f0 rfl
  obtain ⟨o1,k1⟩:=hone_of hone 1 f1 rfl
  have h0:=hf 0 f0 rfl
  have h1:=hf 1 f1 rfl
  simp [o0,k0] at h0
  simp [o1,k1] at h1
  obtain ⟨p,e0,_,s0⟩:=DataW.trod_string u0 h0
  obtain ⟨q,e1,_,_⟩:=DataW.trod_int u1 h1
  simp only [List.cons.injEq,and_true] at e0 e1
  subst e0 e1
  exact ⟨⟨p,q⟩,⟨rfl,s0⟩,rfl⟩) h
 refine ⟨h1,(List.range len).map f,by simp,fun i hi=>?_,by simp,?_⟩
 ·rw [lst_getD f _ len i hi]
  obtain ⟨cs,_,h⟩:=hq i hi
  exact h
 rcases h2 with h2|⟨b,off,rfl,hb,hc⟩
 ·exact .inl h2
 ·refine .inr ⟨b,off,rfl,hb,fun j hj=>?_⟩
  obtain ⟨cs,⟨rfl,_⟩,g⟩:=hc j hj
  rw [lst_getD f _ len j hj]
  exact ⟨g 0 (by omega),g 1 (by omega)⟩
theorem me_open {t tt te:TypeId} {f0 f1 f2 f3 f4 f5 g0 g1:Field} {fuel:Nat} {cs:List Value} {x:DataW H × List MemPlace} (hs:P.underlying t=some (.struct #[f0,f1,f2,f3,f4,f5])) (hone:oneCellFields P #[f0,f1,f2,f3,f4,f5]=true) (hC:P.cellsOf t=6)
 (u0:P.underlying f0.type=some .string) (u1:P.underlying f1.type=some (.int .i64)) (u2:P.underlying f2.type=some .bool) (u3:P.underlying f3.type=some (.int .i64)) (u4:P.underlying f4.type=some (.int .i64)) (u5:P.underlying f5.type=some (.slice te))
 (hs2:P.underlying te=some (.struct #[g0,g1])) (hone2:oneCellFields P #[g0,g1]=true) (hC2:P.cellsOf te=2) (v0:P.underlying g0.type=some (.int .i64)) (v1:P.underlying g1.type=some (.int .i64))
 (h:DataW.trod enc P w base spare held fuel t cs=some x) :
 ∃(m:Me) (ta:Option Addr) (tc:Nat),cs=[.string m.n,.int .i64 m.g,.bool m.wh,.int .i64 m.f,.int .i64 m.l,.slice ta m.ts.length tc]∧m.n.size≤maxLen∧m.ts.length≤maxLen∧Tis ta m.ts.length m.ts w:=by
 obtain ⟨xs,n,_,_,hl,hlen,hf⟩:=DataW.trod_struct hs h
 obtain ⟨c0,c1,c2,c3,c4,c5,rfl⟩:=lst6 (hl.trans hC)
 obtain ⟨y0,y1,y2,y3,y4,y5,rfl⟩:=lst6 (show xs.length=6 from hlen)
 obtain ⟨o0,k0⟩:=hone_of hone 0 f0 rfl
 obtain ⟨o1,k1⟩:=hone_of hone 1 f1 rfl
 obtain ⟨o2,k2⟩:=hone_of hone 2 f2 rfl
 obtain ⟨o3,k3⟩:=hone_of hone 3 f3 rfl
 obtain ⟨o4,k4⟩:=hone_of hone 4 f4 rfl
 obtain ⟨o5,k5⟩:=hone_of hone 5 f5 rfl
 have h0:=hf 0 f0 rfl
 have h1:=hf 1 f1 rfl
 have h2:=hf 2 f2 rfl
 have h3:=hf 3 f3 rfl
 have h4:=hf 4 f4 rfl
 have h5:=hf 5 f5 rfl
 simp [o0,k0] at h0
 simp [o1,k1] at h1
 simp [o2,k2] at h2
 simp [o3,k3] at h3
 simp [o4,k4] at h4
 simp [o5,k5] at h5
 obtain ⟨i,e0,_,s0⟩:=DataW.trod_string u0 h0
 obtain ⟨a,e1,_,s1⟩:=DataW.trod_int u1 h1
 obtain ⟨q,e2,_⟩:=DataW.trod_bool u2 h2
 obtain ⟨p,e3,_,s3⟩:=DataW.trod_int u3 h3
 obtain ⟨r,e4,_,s4⟩:=DataW.trod_int u4 h4
 obtain ⟨ta,tl,tc,rfl⟩:∃ta tl tc,c5=.slice ta tl tc:=by
  rcases DataW.trod_slice u5 h5 with ⟨hcs,_⟩|⟨a,len',cap',_,_,_,_,hcs,_⟩
  ·simp only [List.cons.injEq,and_true] at hcs
   exact ⟨_,_,_,hcs⟩
  ·simp only [List.cons.injEq,and_true] at hcs
   exact ⟨_,_,_,hcs⟩
 obtain ⟨q1,ts,rfl,q2⟩:=tis_open u5 hs2 hone2 hC2 v0 v1 h5
 simp only [List.cons.injEq,and_true] at e0 e1 e2 e3 e4
 subst e0 e1 e2 e3 e4
 exact ⟨⟨i,a,q,p,r,ts⟩,ta,tc,rfl,s0,q1,q2⟩
theorem mes_open {ts t tt te:TypeId} {f0 f1 f2 f3 f4 f5 g0 g1:Field} {fuel:Nat} {ao:Option Addr} {len cap:Nat} {x:DataW H × List MemPlace} (ht:P.underlying ts=some (.slice t)) (hs:P.underlying t=some (.struct #[f0,f1,f2,f3,f4,f5])) (hone:oneCellFields P #[f0,f1,f2,f3,f4,f5]=true) (hC:P.cellsOf t=6)
 (u0:P.underlying f0.type=some .string) (u1:P.underlying f1.type=some (.int .i64)) (u2:P.underlying f2.type=some .bool) (u3:P.underlying f3.type=some (.int .i64)) (u4:P.underlying f4.type=some (.int .i64)) (u5:P.underlying f5.type=some (.slice te))
 (hs2:P.underlying te=some (.struct #[g0,g1])) (hone2:oneCellFields P #[g0,g1]=true) (hC2:P.cellsOf te=2) (v0:P.underlying g0.type=some (.int .i64)) (v1:P.underlying g1.type=some (.int .i64))
 (h:DataW.trod enc P w base spare held fuel ts [.slice ao len cap]=some x) :
 len≤maxLen∧∃ms:List Me,ms.length=len∧(∀i,i<len→(ms.getD i Me.zero).n.size≤maxLen∧(ms.getD i Me.zero).ts.length≤maxLen)∧Mes ao len ms w:=by
 obtain ⟨h1,f,hq,h2⟩:=row_open 6 (fun (m:Me) cs=>∃(ta:Option Addr) (tc:Nat),cs=[.string m.n,.int .i64 m.g,.bool m.wh,.int .i64 m.f,.int .i64 m.l,.slice ta m.ts.length tc]∧m.n.size≤maxLen∧m.ts.length≤maxLen∧Tis ta m.ts.length m.ts w) Me.zero ht hC (by omega) (fun fuel cs x h=>by
  obtain ⟨m,ta,tc,rfl,q⟩:=me_open (tt:=tt) hs hone hC u0 u1 u2 u3 u4 u5 hs2 hone2 hC2 v0 v1 h
  exact ⟨m,⟨ta,tc,rfl,q⟩,rfl⟩) h
 refine ⟨h1,(List.range len).map f,by simp,fun i hi=>?_,by simp,?_⟩
 ·rw [lst_getD f _ len i hi]
  obtain ⟨cs,_,_,_,q1,q2,_⟩:=hq i hi
  exact ⟨q1,q2⟩
 rcases h2 with h2|⟨b,off,rfl,hb,hc⟩
 ·exact .inl h2
 ·refine .inr ⟨b,off,rfl,hb,fun j hj=>?_⟩
  obtain ⟨cs,⟨ta,tc,rfl,_,_,q3⟩,g⟩:=hc j hj
  rw [lst_getD f _ len j hj]
  exact ⟨ta,tc,g 0 (by omega),g 1 (by omega),g 2 (by omega),g 3 (by omega),g 4 (by omega),g 5 (by omega),q3⟩
theorem slice_of {t e:TypeId} {fuel:Nat} {c:Value} {x:DataW H × List MemPlace} (u5:P.underlying t=some (.slice e)) (h5:DataW.trod enc P w base spare held fuel t [c]=some x):∃ta tl tc,c=.slice ta tl tc:=by
 rcases DataW.trod_slice u5 h5 with ⟨hcs,_⟩|⟨a,len',cap',_,_,_,_,hcs,_⟩
 ·simp only [List.cons.injEq,and_true] at hcs
  exact ⟨_,_,_,hcs⟩
 ·simp only [List.cons.injEq,and_true] at hcs
  exact ⟨_,_,_,hcs⟩
theorem ca_cells {t a b:TypeId} {f0 f1:Field} {fuel:Nat} {cs:List Value} {x:DataW H × List MemPlace} (hs:P.underlying t=some (.struct #[f0,f1])) (hone:oneCellFields P #[f0,f1]=true) (hC:P.cellsOf t=2)
 (u0:P.underlying f0.type=some (.slice a)) (u1:P.underlying f1.type=some (.slice b))
 (h:DataW.trod enc P w base spare held fuel t cs=some x) :
 ∃ma ml mc ca cl cc,cs=[.slice ma ml mc,.slice ca cl cc]∧(∃n y,DataW.trod enc P w base spare held n f0.type [.slice ma ml mc]=some y)∧∃n y,DataW.trod enc P w base spare held n f1.type [.slice ca cl cc]=some y:=by
 obtain ⟨xs,n,_,_,hl,hlen,hf⟩:=DataW.trod_struct hs h
 obtain ⟨c0,c1,rfl⟩:=lst2 (hl.trans hC)
 obtain ⟨y0,y1,rfl⟩:=lst2 (show xs.length=2 from hlen)
 obtain ⟨o0,k0⟩:=hone_of hone 0 f0 rfl
 obtain ⟨o1,k1⟩:=hone_of hone 1 f1 rfl
 have h0:=hf 0 f0 rfl
 have h1:=hf 1 f1 rfl
 simp [o0,k0] at h0
 simp [o1,k1] at h1
 obtain ⟨ma,ml,mc,rfl⟩:=slice_of u0 h0
 obtain ⟨ca,cl,cc,rfl⟩:=slice_of u1 h1
 exact ⟨ma,ml,mc,ca,cl,cc,rfl,⟨n,_,h0⟩,⟨n,_,h1⟩⟩
end
end CatR
namespace WinR
open RowG
open CatR (row_open lst2 lst_getD slice_of)
section
variable {J:Type} {enc:TypeId × Value→J} {P:Program} {w:World} {base:Nat} {spare:Nat→Bool} {held:Bool}
theorem lst1 {α:Type} {cs:List α} (h:cs.length=1):∃c0,cs=[c0]:=by
 match cs,h with
 | [c0],_=>exact ⟨c0,rfl⟩
theorem lst8 {α:Type} {cs:List α} (h:cs.length=8):∃c0 c1 c2 c3 c4 c5 c6 c7,cs=[c0,c1,c2,c3,c4,c5,c6,c7]:=by
 match cs,h with
 | [c0,c1,c2,c3,c4,c5,c6,c7],_=>exact ⟨c0,c1,c2,c3,c4,c5,c6,c7,rfl⟩
theorem tags_open {t e:TypeId} {fuel:Nat} {ao:Option Addr} {len cap:Nat} {x:DataW J × List MemPlace} (ht:P.underlying t=some (.slice e)) (hs:P.underlying e=some .string) (hC:P.cellsOf e=1)
 (h:DataW.trod enc P w base spare held fuel t [.slice ao len cap]=some x):len≤maxLen∧∃ts:List ByteArray,ts.length=len∧(∀t∈ts,t.size≤maxLen)∧Tgs ao ts w:=by
 obtain ⟨h1,f,hq,h2⟩:=row_open 1 (fun (a:ByteArray) cs=>cs=[.string a]∧a.size≤maxLen) tz ht hC (by omega) (fun fuel cs x h=>by
  obtain ⟨i,e0,_,s0⟩:=DataW.trod_string hs h
  exact ⟨i,⟨e0,s0⟩,by rw [e0];rfl⟩) h
 refine ⟨h1,(List.range len).map f,by simp,fun t ht=>?_,?_⟩
 ·obtain ⟨i,hi,rfl⟩:=List.mem_map.1 ht
  obtain ⟨cs,_,q⟩:=hq i (List.mem_range.1 hi)
  exact q
 rcases h2 with h2|⟨b,off,rfl,hb,hc⟩
 ·exact .inl (by simpa using h2)
 ·refine .inr ⟨b,off,rfl,hb,fun j hj i hi=>?_⟩
  have hj':j<len:=by simpa using hj
  obtain ⟨cs,⟨rfl,_⟩,g⟩:=hc j hj'
  rw [lst_getD f _ len j hj']
  exact g i hi
theorem hrs_open {t e:TypeId} {f0 f1:Field} {fuel:Nat} {ao:Option Addr} {len cap:Nat} {x:DataW J × List MemPlace} (ht:P.underlying t=some (.slice e)) (hs:P.underlying e=some (.struct #[f0,f1])) (hone:oneCellFields P #[f0,f1]=true) (hC:P.cellsOf e=2)
 (u0:P.underlying f0.type=some (.int .i64)) (u1:P.underlying f1.type=some (.int .i64))
 (h:DataW.trod enc P w base spare held fuel t [.slice ao len cap]=some x):len≤maxLen∧∃hs:List H,hs.length=len∧Hrs ao hs w:=by
 obtain ⟨h1,f,_,h2⟩:=row_open 2 (fun (a:H) cs=>cs=[.int .i64 a.h,.int .i64 a.s]) H.zero ht hC (by omega) (fun fuel cs x h=>by
  obtain ⟨xs,n,_,_,hl,hlen,hf⟩:=DataW.trod_struct hs h
  obtain ⟨c0,c1,rfl⟩:=lst2 (hl.trans hC)
  obtain ⟨y0,y1,rfl⟩:=lst2 (show xs.length=2 from hlen)
  obtain ⟨o0,k0⟩:=hone_of hone 0 f0 rfl
  obtain ⟨o1,k1⟩:=hone_of hone 1 f1 rfl
  have h0:=hf 0 f0 rfl
  have h1:=hf 1 f1 rfl
  simp [o0,k0] at h0
  simp [o1,k1] at h1
  obtain ⟨p,e0,_,_⟩:=DataW.trod_int u0 h0
  obtain ⟨q,e1,_,_⟩:=DataW.trod_int u1 h1
  simp only [List.cons.injEq,and_true] at e0 e1
  subst e0 e1
  exact ⟨⟨p,q⟩,rfl,rfl⟩) h
 refine ⟨h1,(List.range len).map f,by simp,?_⟩
 rcases h2 with h2|⟨b,off,rfl,hb,hc⟩
 ·exact .inl (by simpa using h2)
 ·refine .inr ⟨b,off,rfl,hb,fun j hj i hi=>?_⟩
  have hj':j<len:=by simpa using hj
  obtain ⟨cs,rfl,g⟩:=hc j hj'
  rw [lst_getD f _ len j hj']
  exact g i hi
theorem win_open {t te th:TypeId} {f0 f1 f2 f3 f4 f5 f6 f7 g0 g1:Field} {fuel:Nat} {cs:List Value} {x:DataW J × List MemPlace} (hs:P.underlying t=some (.struct #[f0,f1,f2,f3,f4,f5,f6,f7])) (hone:oneCellFields P #[f0,f1,f2,f3,f4,f5,f6,f7]=true) (hC:P.cellsOf t=8)
 (u0:P.underlying f0.type=some .string) (u1:P.underlying f1.type=some .string) (u2:P.underlying f2.type=some (.int .i64)) (u3:P.underlying f3.type=some (.int .i64)) (u4:P.underlying f4.type=some (.int .i64)) (u5:P.underlying f5.type=some (.int .i64)) (u6:P.underlying f6.type=some (.slice te)) (u7:P.underlying f7.type=some (.slice th))
 (ut:P.underlying te=some .string) (hCt:P.cellsOf te=1) (hs2:P.underlying th=some (.struct #[g0,g1])) (hone2:oneCellFields P #[g0,g1]=true) (hC2:P.cellsOf th=2) (v0:P.underlying g0.type=some (.int .i64)) (v1:P.underlying g1.type=some (.int .i64))
 (h:DataW.trod enc P w base spare held fuel t cs=some x) :
 ∃(x:Wd) (ta:Option Addr) (tc:Nat) (ha:Option Addr) (hc:Nat),cs=(wcells x ta tc ha hc).toList∧x.In∧Tgs ta x.ts w∧Hrs ha x.hs w:=by
 obtain ⟨xs,n,_,_,hl,hlen,hf⟩:=DataW.trod_struct hs h
 obtain ⟨c0,c1,c2,c3,c4,c5,c6,c7,rfl⟩:=lst8 (hl.trans hC)
 obtain ⟨y0,y1,y2,y3,y4,y5,y6,y7,rfl⟩:=lst8 (show xs.length=8 from hlen)
 obtain ⟨o0,k0⟩:=hone_of hone 0 f0 rfl
 obtain ⟨o1,k1⟩:=hone_of hone 1 f1 rfl
 obtain ⟨o2,k2⟩:=hone_of hone 2 f2 rfl
 obtain ⟨o3,k3⟩:=hone_of hone 3 f3 rfl
 obtain ⟨o4,k4⟩:=hone_of hone 4 f4 rfl
 obtain ⟨o5,k5⟩:=hone_of hone 5 f5 rfl
 obtain ⟨o6,k6⟩:=hone_of hone 6 f6 rfl
 obtain ⟨o7,k7⟩:=hone_of hone 7 f7 rfl
 have h0:=hf 0 f0 rfl
 have h1:=hf 1 f1 rfl
 have h2:=hf 2 f2 rfl
 have h3:=hf 3 f3 rfl
 have h4:=hf 4 f4 rfl
 have h5:=hf 5 f5 rfl
 have h6:=hf 6 f6 rfl
 have h7:=hf 7 f7 rfl
 simp [o0,k0] at h0
 simp [o1,k1] at h1
 simp [o2,k2] at h2
 simp [o3,k3] at h3
 simp [o4,k4] at h4
 simp [o5,k5] at h5
 simp [o6,k6] at h6
 simp [o7,k7] at h7
 obtain ⟨a,e0,_,s0⟩:=DataW.trod_string u0 h0
 obtain ⟨m,e1,_,s1⟩:=DataW.trod_string u1 h1
 obtain ⟨p,e2,_,_⟩:=DataW.trod_int u2 h2
 obtain ⟨q,e3,_,_⟩:=DataW.trod_int u3 h3
 obtain ⟨r,e4,_,_⟩:=DataW.trod_int u4 h4
 obtain ⟨s,e5,_,_⟩:=DataW.trod_int u5 h5
 obtain ⟨ta,tl,tc,rfl⟩:=slice_of u6 h6
 obtain ⟨ha,hl',hc,rfl⟩:=slice_of u7 h7
 obtain ⟨q1,ts,rfl,q2,q3⟩:=tags_open u6 ut hCt h6
 obtain ⟨r1,hs',rfl,r3⟩:=hrs_open u7 hs2 hone2 hC2 v0 v1 h7
 simp only [List.cons.injEq,and_true] at e0 e1 e2 e3 e4 e5
 subst e0 e1 e2 e3 e4 e5
 exact ⟨⟨a,m,p,q,r,s,ts,hs'⟩,ta,tc,ha,hc,rfl,⟨s0,s1,q1,q2,r1⟩,q3,r3⟩
end
end WinR
end Go.Proofs.YtcilbmhkhllmjaaGreatDoor
namespace Go.Proofs.YtcilbmhkhllmjaaGreatDoor
open Go.RowKit
set_option linter.unusedVariables false
namespace CatR
def tU (ts:List Ti) (i:Nat):Int:=(ts.getD i Ti.zero).u
def tP (ts:List Ti) (i:Nat):Int:=(ts.getD i Ti.zero).p
def tA (ts:List Ti):Nat→Int
 | 0=>0
 | k+1=>tU ts k
def TOk (ts:List Ti) (k:Nat):Prop:=∀i,i<k→tA ts i<tU ts i∧0≤tP ts i∧tP ts i≤1000000
def TRight (ts:List Ti):Prop:=1≤ts.length∧ts.length≤5∧TOk ts ts.length∧tA ts ts.length=1000000000000
theorem TOk.zero (ts:List Ti):TOk ts 0:=fun i h=>absurd h (by omega)
theorem TOk.more {ts:List Ti} {k:Nat} (h:TOk ts k) (h1:tA ts k<tU ts k) (h2:0≤tP ts k) (h3:tP ts k≤1000000):TOk ts (k+1):=by
 intro i hi
 by_cases e:i=k
 ·subst e;exact ⟨h1,h2,h3⟩
 ·exact h i (by omega)
theorem TOk.rise {ts:List Ti} {n:Nat} (h:TOk ts n):∀i,i≤n→0≤tA ts i∧∀j,j≤i→tA ts j≤tA ts i
 | 0,_=>⟨by simp [tA],fun j hj=>by
  obtain rfl:j=0:=by omega
  exact Int.le_refl _⟩
 | i+1,hi=>by
  obtain ⟨a,b⟩:=TOk.rise h i (by omega)
  have c:=(h i (by omega)).1
  have d:tA ts (i+1)=tU ts i:=rfl
  refine ⟨by omega,fun j hj=>?_⟩
  by_cases e:j=i+1
  ·subst e;exact Int.le_refl _
  ·have:=b j (by omega)
   omega
theorem TRight.upto {ts:List Ti} (h:TRight ts) (k:Nat) (hk:k<ts.length):1≤tU ts k∧tU ts k≤1000000000000:=by
 obtain ⟨_,_,h3,h4⟩:=h
 have a:=(h3.rise ts.length (Nat.le_refl _)).2 (k+1) (by omega)
 have b:=(h3.rise k (by omega)).1
 have c:=(h3 k hk).1
 have d:tA ts (k+1)=tU ts k:=rfl
 omega
def MRight (m:Me):Prop:=NameR.nameB m.n=true∧(1≤m.g∧m.g≤4)∧(0≤m.f∧m.f≤1000000000)∧(0≤m.l∧m.l≤1000000000000)∧TRight m.ts
def TOkDec (ts:List Ti) (k:Nat):Decidable (TOk ts k):=inferInstanceAs (Decidable (∀i,i<k→tA ts i<tU ts i∧0≤tP ts i∧tP ts i≤1000000))
def TRightDec (ts:List Ti):Decidable (TRight ts) :=
 haveI:=TOkDec ts ts.length
 inferInstanceAs (Decidable (1≤ts.length∧ts.length≤5∧TOk ts ts.length∧tA ts ts.length=1000000000000))
def MRightDec (m:Me):Decidable (MRight m) :=
 haveI:=TRightDec m.ts
 inferInstanceAs (Decidable (NameR.nameB m.n=true∧(1≤m.g∧m.g≤4)∧(0≤m.f∧m.f≤1000000000)∧(0≤m.l∧m.l≤1000000000000)∧TRight m.ts))
def tB (ts:List Ti):Bool:=@decide (TRight ts) (TRightDec ts)
def mB (m:Me):Bool:=@decide (MRight m) (MRightDec m)
theorem tB_no {ts:List Ti} (h:¬TRight ts):tB ts=false:=by unfold tB;exact @decide_eq_false _ (TRightDec ts) h
theorem tB_yes {ts:List Ti} (h:TRight ts):tB ts=true:=by unfold tB;exact @decide_eq_true _ (TRightDec ts) h
theorem tB_false {ts:List Ti} {k:Nat} (hk:k<ts.length) (h:¬(tA ts k<tU ts k∧0≤tP ts k∧tP ts k≤1000000)):tB ts=false:=tB_no (fun hr=>h (hr.2.2.1 k hk))
theorem tB_over {ts:List Ti} {k:Nat} (hk:k<ts.length) (h:¬(1≤tU ts k∧tU ts k≤1000000000000)):tB ts=false:=tB_no (fun hr=>h (hr.upto k hk))
theorem tB_end {ts:List Ti} (h1:1≤ts.length) (h5:ts.length≤5) (h:TOk ts ts.length):tB ts=decide (tA ts ts.length=1000000000000):=by
 by_cases e:tA ts ts.length=1000000000000
 ·rw [decide_eq_true e];exact tB_yes ⟨h1,h5,h,e⟩
 ·rw [decide_eq_false e];exact tB_no (fun hr=>e hr.2.2.2)
theorem mB_eq (m:Me):mB m=(NameR.nameB m.n&&decide (1≤m.g∧m.g≤4)&&decide (0≤m.f∧m.f≤1000000000)&&decide (0≤m.l∧m.l≤1000000000000)&&tB m.ts):=by
 unfold mB tB
 rw [Bool.eq_iff_iff]
 simp only [decide_eq_true_eq,Bool.and_eq_true]
 unfold MRight
 constructor
 ·rintro ⟨a,b,c,d,e⟩;exact ⟨⟨⟨⟨a,b⟩,c⟩,d⟩,e⟩
 ·rintro ⟨⟨⟨⟨a,b⟩,c⟩,d⟩,e⟩;exact ⟨a,b,c,d,e⟩
end CatR
end Go.Proofs.YtcilbmhkhllmjaaGreatDoor
namespace Go.Proofs.YtcilbmhkhllmjaaGreatDoor
open Go.ChangeShapes Go.WideShapes Go.ChangeAt Go.RowKit
set_option linter.unusedVariables false
namespace CatR
theorem hid_intro {p:Prop} (h:p):Hid p:=h
theorem within64 (n low high:Int) (w:World) :
 Calls Tryz.prog 66 #[.int .i64 n,.int .i64 low,.int .i64 high] w fun e w'=>e=.returned (.bool (decide (low≤n∧n≤high)))∧w'=w:=by
 rcases (show (¬low≤n)∨(low≤n∧¬n≤high)∨(low≤n∧n≤high) by omega) with h|⟨h1,h2⟩|⟨h1,h2⟩
 all_goals
  go_enter Tryz.func66,Tryz.ntmps66
  go_wp2
  go_ret
  exact ⟨ret_bool (by first|(simp [*];done)|(simp;omega)),rfl⟩
theorem withinI (n low high:Int) (w:World) :
 Calls Tryz.prog 182 #[.int .i64 n,.int .i64 low,.int .i64 high] w fun e w'=>e=.returned (.bool (decide (low≤n∧n≤high)))∧w'=w:=by
 rcases (show (¬low≤n)∨(low≤n∧¬n≤high)∨(low≤n∧n≤high) by omega) with h|⟨h1,h2⟩|⟨h1,h2⟩
 all_goals
  go_enter Tryz.func182,Tryz.ntmps182
  go_wp2
  go_ret
  exact ⟨ret_bool (by first|(simp [*];done)|(simp;omega)),rfl⟩
theorem isS (n low high:Int) (w:World) :
 Calls Tryz.prog 69 #[.int .i64 n,.int .i64 low,.int .i64 high] w fun e w'=>e=.returned (.bool (decide (low≤n∧n≤high)))∧w'=w:=by
 rcases (show (¬low≤n)∨(low≤n∧¬n≤high)∨(low≤n∧n≤high) by omega) with h|⟨h1,h2⟩|⟨h1,h2⟩
 all_goals
  go_enter Tryz.func69,Tryz.ntmps69
  go_wp2
  go_ret
  exact ⟨ret_bool (by first|(simp [*];done)|(simp;omega)),rfl⟩
set_option maxRecDepth 100000 in
set_option maxHeartbeats 4000000 in
theorem impl_tiers (ao:Option Addr) (len cap:Nat) (ts:List Ti) (w:World) (hlen:len≤1048576) (hI:Tis ao len ts w) :
 Calls Tryz.prog 144 #[.slice ao len cap] w fun e w'=>e=.returned (.bool (tB ts))∧Below w.heap.size w w':=by
 have hz:=hI.1
 have HWI:=hid_intro (fun w=>withinI len 1 5 w)
 by_cases h15:1≤len∧len≤5
 ·rw [decide_eq_true (by omega)] at HWI
  have HI:=hid_intro hI
  have HZ:=hid_intro hz
  have HT0:=hid_intro (fun k (hk:k<ts.length)=>tB_false (ts:=ts) hk)
  have HTE:=hid_intro (fun h=>tB_end (ts:=ts) (by omega) (by omega) h)
  generalize tB ts=R at *
  clear hI hz
  go_enter Tryz.func144,Tryz.ntmps144
  go_wp2_with (go_at_call 182;refine (HWI.out _).mono ?_;rintro e w0 ⟨rfl,rfl⟩)
  go_loopw [3,12] (fun x z wr=>∃k:Nat,k≤len∧x=.int .i64 (tA ts k)∧z=.int .i64 k∧Hid (TOk ts k)∧Hid (Below w0.heap.size w0 wr)) (fun x z _=>len-(intOf z).toNat)
  case atStart=>exact ⟨0,by omega,rfl,rfl,hid_intro (TOk.zero ts),hid_intro (Below.refl _ _)⟩
  case round =>
   obtain ⟨k,hk,rfl,rfl,HK,HB⟩:=hrel
   by_cases hlt:k<len
   ·have hlt2:(k:Int)<(len:Int):=by omega
    obtain ⟨b,off,rfl,hbl,d0,d1⟩:=tis_at (HI.out.below HB.out) k hlt
    have c0:wr.cell? ⟨b,off+k*2,none⟩=some (.int .i64 (tU ts k)):=d0
    have c1:wr.cell? ⟨b,off+k*2+1,none⟩=some (.int .i64 (tP ts k)):=d1
    clear d0 d1
    have HT:=hid_intro (HT0.out k (by have:=HZ.out;omega))
    have HM:=hid_intro (fun h1 h2 h3=>HK.out.more (k:=k) h1 h2 h3)
    have HU:Hid (tA ts (k+1)=tU ts k):=rfl
    have HW2:=hid_intro (fun w=>within64 (tP ts k) 0 1000000 w)
    generalize tA ts k=A at *
    generalize tU ts k=U at *
    generalize tP ts k=P at *
    have HAl:=hid_intro (fun o=>HB.out.alloc HB.out.size o)
    rcases (show (U≤A)∨(¬U≤A∧¬(0≤P∧P≤1000000))∨(¬U≤A∧(0≤P∧P≤1000000)) by omega) with q|⟨q,q2⟩|⟨q,q2⟩
    ·have HR:Hid (R=false):=hid_intro (HT.out (by omega))
     go_wp2_with fail
     go_ret
     exact ⟨ret_bool HR.out.symm,HAl.out _⟩
    ·have HR:Hid (R=false):=hid_intro (HT.out (fun h=>q2 h.2))
     rw [decide_eq_false q2] at HW2
     go_wp2_with (go_at_call 66;refine (HW2.out _).mono ?_;rintro e w' ⟨rfl,rfl⟩)
     go_ret
     exact ⟨ret_bool HR.out.symm,HAl.out _⟩
    ·have HM2:=hid_intro (HM.out (by omega) q2.1 q2.2)
     rw [decide_eq_true q2] at HW2
     go_wp2_with (go_at_call 66;refine (HW2.out _).mono ?_;rintro e w' ⟨rfl,rfl⟩)
     go_roundw
     case rel=>exact ⟨k+1,by omega,by rw [HU.out],by go_num,HM2,hid_intro (HAl.out _)⟩
     case measure=>simp [intOf];omega
   ·obtain rfl:k=len:=by omega
    have HR:Hid (R=decide (tA ts k=1000000000000)):=hid_intro (by have h:=HTE.out;rw [HZ.out] at h;exact h HK.out)
    generalize tA ts k=A at *
    by_cases q:A=1000000000000
    ·rw [decide_eq_true q] at HR
     go_wp2_with fail
     go_ret
     exact ⟨ret_bool (by rw [HR.out];try simp [q]),HB.out⟩
    ·rw [decide_eq_false q] at HR
     go_wp2_with fail
     go_ret
     exact ⟨ret_bool (by rw [HR.out];try simp [q]),HB.out⟩
 ·rw [decide_eq_false (by omega)] at HWI
  have HR:Hid (tB ts=false):=hid_intro (tB_no (fun h=>by have:=h.1;have:=h.2.1;omega))
  clear hI hz
  go_enter Tryz.func144,Tryz.ntmps144
  go_wp2_with (go_at_call 182;refine (HWI.out _).mono ?_;rintro e w0 ⟨rfl,rfl⟩)
  go_ret
  exact ⟨ret_bool HR.out.symm,Below.refl _ _⟩
end CatR
end Go.Proofs.YtcilbmhkhllmjaaGreatDoor
