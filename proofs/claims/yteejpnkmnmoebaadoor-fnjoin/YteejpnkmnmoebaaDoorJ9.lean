/-
  Two windows joined: the model's way. The condition: what the callees ask for.
-/
import Derived.Deep.CutRange
import Derived.Deep.AppendSrc
import Derived.Test.YteejpnkmnmoebaaDoorJ8
namespace Go.Proofs.YteejpnkmnmoebaaDoor
open Go.ChangeShapes Go.WideShapes Go.ChangeAt Go.RowKit
set_option linter.unusedVariables false
namespace LinStep
theorem step_append_own {P:Program} {w:World} {ops:Array Oper} {o:Oper} {a:Act} {K:Act→World→Prop} {Q:Exit→Act→World→Prop} {E:Prop} (hgd:o.guard=none) (s x:Operand) (t:TypeId)
 (ho:o.op=.call {callee:=.builtin .append,args:=#[s,x],argTypes:=#[t,t]})
 (base:Nat) (e:TypeId) (i:TypeInfo) (z:Value) (size bytes:Nat) (ht:P.underlying t=some (.slice e)) (hi:P.info? e=some i) (hz:i.zero=some z)
 (hsize:i.size=size) (hby:i.bytes=bytes) (hzs:z.cells.size=size) (hsz:0<size)
 (v:Value) (n:Nat) (xs:List Value) (hs:a.eval s=v) (hown:w.ownsRow base e size v n xs)
 (ad:Addr) (m c:Nat) (news:List Value) (hx:a.eval x=.slice (some ad) m c) (hl:news.length=m*size) (hnews:∀j u,news[j]? = some u→w.cell? (ad.add j)=some u) (h1:∀u∈news,u.oneCell'=true)
 (h63:n+m≤maxLen) (hbytes:(n+m)*bytes≤140737488355328) (hbase:base≤w.heap.size)
 (h:∀v' w',w'.ownsRow base e size v' (n+m) (xs++news)→w.grownBy w' v.ownBlock→(v'=.slice none 0 0↔v=.slice none 0 0∧m=0)→K (a.put o.dst v') w'):if Region.wanted o (yielded ops a.tmps)=true then Oper.wp P o a w K Q else E:=by
 have hw:Region.wanted o (yielded ops a.tmps)=true:=by simp [Region.wanted,hgd]
 rw [if_pos hw]
 exact wp_append_own w s x t ho base e i z size bytes ht hi hz hsize hby hzs hsz v n xs hs hown ad m c news hx hl hnews h1 h63 hbytes hbase h
theorem step_append_whole {P:Program} {w:World} {ops:Array Oper} {o:Oper} {a:Act} {K:Act→World→Prop} {Q:Exit→Act→World→Prop} {E:Prop} (hgd:o.guard=none) (s x:Operand) (t:TypeId)
 (ho:o.op=.call {callee:=.builtin .append,args:=#[s,x],argTypes:=#[t,t]})
 (base:Nat) (e:TypeId) (i:TypeInfo) (z:Value) (size bytes:Nat) (ht:P.underlying t=some (.slice e)) (hi:P.info? e=some i) (hz:i.zero=some z)
 (hsize:i.size=size) (hby:i.bytes=bytes) (hzs:z.cells.size=size) (hsz:0<size)
 (g:Nat) (hs:a.eval s=.slice (some ⟨g,0,none⟩) 0 0) (hown:w.ownsRow base e size (.slice (some ⟨g,0,none⟩) 0 0) 0 [])
 (la:Option Addr) (m c:Nat) (news:List Value) (hx:a.eval x=.slice la m c) (hl:news.length=m*size) (hla:m=0∨∃ad,la=some ad∧∀j u,news[j]? = some u→w.cell? (ad.add j)=some u) (h1:∀u∈news,u.oneCell'=true)
 (h63:m≤maxLen) (hbytes:m*bytes≤140737488355328) (hbase:base≤w.heap.size)
 (h:∀v' w',w'.ownsRow base e size v' m news→w.grownBy w' (some g)→v'≠.slice none 0 0→K (a.put o.dst v') w'):if Region.wanted o (yielded ops a.tmps)=true then Oper.wp P o a w K Q else E:=by
 cases la with
 | none =>
  have hm:m=0:=by
   rcases hla with h0|⟨ad,e,_⟩
   ·exact h0
   ·cases e
  subst hm
  obtain rfl:news=[]:=List.eq_nil_of_length_eq_zero (by simpa using hl)
  have hrun:=run_append_room_src (P:=P) w t t o.type e i ht hi g 0 0 0 (.slice none 0 c) 0 [] (Src.ofNil w ht c) (by omega) (fun j hj=>by simp at hj) (fun j hj=>by simp at hj)
  have hw:Region.wanted o (yielded ops a.tmps)=true:=by simp [Region.wanted,hgd]
  rw [if_pos hw]
  unfold Oper.wp
  simp only [execOp,ho,resolve,invoke,builtin,Sem.run_bind,Sem.run_pure,Result.andThen_ok,List.map_toArray,List.map_cons,List.map_nil,hs,hx,hrun]
  exact h _ _ hown ⟨rfl,rfl,rfl,Nat.le_refl _,fun _ _ _=>rfl⟩ (by simp)
 | some ad =>
  refine step_append_own hgd s x t ho base e i z size bytes ht hi hz hsize hby hzs hsz _ 0 [] hs hown ad m c news hx hl ?_ h1 (by rw [Nat.zero_add];exact h63) (by rw [Nat.zero_add];exact hbytes) hbase ?_
  ·rcases hla with h0|⟨ad',e,hc⟩
   ·subst h0
    obtain rfl:news=[]:=List.eq_nil_of_length_eq_zero (by simpa using hl)
    intro j u hj
    simp at hj
   ·cases e
    exact hc
  ·intro v' w' hv hg hn
   refine h v' w' (by simpa using hv) hg (fun e=>?_)
   have:=(hn.1 e).1
   cases this
end LinStep
namespace WinR
open MemoR
open RowG (MadeG Rws)
open EvtR (Pt)
open LtR (lt)
open CatR (Blk Blk.new)
theorem sill (c:Int) (w:World):Calls Tryd.prog 21 #[.int .i64 c] w fun e w'=>e=.returned (.agg #[.string ⟨#[]⟩,.string ⟨#[]⟩,.int .i64 0,.int .i64 0,.int .i64 0,.int .i64 0,.slice none 0 0,.slice none 0 0,.int .i64 c])∧Below w.heap.size w w':=by
 go_enter Tryd.func21,Tryd.ntmps21
 go_wp2
 refine bodyPost_ret (v:=.agg #[.string ⟨#[]⟩,.string ⟨#[]⟩,.int .i64 0,.int .i64 0,.int .i64 0,.int .i64 0,.slice none 0 0,.slice none 0 0,.int .i64 c]) (by simp [results,Tryd.results21,go_sem]) rfl ⟨rfl,?_⟩
 repeat' first|exact Below.refl _ _|apply Below.setCell|apply Below.alloc
 all_goals first|omega|(simp;done)|(simp;omega)
theorem lt_heap {w:World} {b:Nat} {o:Obj} (h:w.heap[b]? = some o):b<w.heap.size:=(Array.getElem?_eq_some_iff.1 h).1
theorem own_ne_heap {w:World} {base e size n b T:Nat} {v:Value} {xs:List Value} {cs:Array Value} (h:w.ownsRow base e size v n xs) (ho:w.heap[b]? = some (.cells cs T (0,0))) (hT:T≠e):∀g,v.ownBlock=some g→g≠b:=by
 intro g hg q
 subst q
 rcases h.2 with ⟨h0,_⟩|⟨g',cap,cur,hv,_,hh,_⟩
 ·rw [h0] at hg;simp [Value.ownBlock] at hg
 ·rw [hv] at hg
  simp [Value.ownBlock] at hg
  subst hg
  rw [ho] at hh
  simp at hh
  exact hT hh.2
theorem own_ne_own {w:World} {base e size n base' e' size' n':Nat} {v v':Value} {xs xs':List Value} (h:w.ownsRow base e size v n xs) (h':w.ownsRow base' e' size' v' n' xs') (hT:e'≠e):∀g,v.ownBlock=some g→∀g',v'.ownBlock=some g'→g≠g':=by
 intro g hg g' hg' q
 rcases h'.2 with ⟨h0,_⟩|⟨g2,cap,cur,hv,_,hh,_⟩
 ·rw [h0] at hg';simp [Value.ownBlock] at hg'
 ·rw [hv] at hg'
  simp [Value.ownBlock] at hg'
  subst hg'
  exact own_ne_heap h hh hT g hg q
theorem own_far {w w':World} {base e size n g:Nat} {v:Value} {xs:List Value} (h:w.ownsRow base e size v n xs) (hg:w.grownBy w' (some g)) (hne:∀b,v.ownBlock=some b→b≠g):w'.ownsRow base e size v n xs:=by
 refine h.kept hg ?_
 rcases hob:v.ownBlock with _|b
 ·exact .inl rfl
 ·exact .inr (fun e=>hne b hob (by simpa using e))
theorem pt_heap {w:World} {b T:Nat} {cs:Array Value} (h:w.heap[b]? = some (.cells cs T (0,0))):Pt b cs.size w :=
 ⟨lt_heap h,fun o ho=>⟨cs[o],by simp [World.cell?,h,ho]⟩,fun o ho=>by simp [World.frozen?,h]⟩
theorem own_some2 {w:World} {base e size n:Nat} {v:Value} {xs:List Value} (h:w.ownsRow base e size v n xs) (hv:v≠.slice none 0 0):∃b c,v=.slice (some ⟨b,0,none⟩) n c∧n≤c∧c≤maxLen:=by
 rcases h.2 with ⟨h0,_⟩|⟨g,cap,cur,h1,_,_,hc,hm,_⟩
 ·exact absurd h0 hv
 ·exact ⟨g,cap,h1,hc,hm⟩
theorem own_tgs2 {w:World} {base n:Nat} {ao:Option Addr} {c:Nat} {ts:List ByteArray} (h:w.ownsRow base 9 1 (.slice ao n c) n (RowG.cellsAll tcells ts)) (hn:n=ts.length):Tgs ao ts w:=by
 subst hn
 obtain ⟨ao',cap,e,hm⟩:=RowG.own_made (z:=tz) t_len h
 cases e
 exact hm.rws
theorem tgo_of {w:World} {base n:Nat} {ao:Option Addr} {c:Nat} {ts:List ByteArray} (h:w.ownsRow base 9 1 (.slice ao n c) n (RowG.cellsAll tcells ts)) (hn:n=ts.length):TgO base ao ts c w:=by
 subst hn
 exact ⟨own_tgs2 h rfl,h⟩
theorem own_hrs2 {w:World} {base n:Nat} {ao:Option Addr} {c:Nat} {hs:List H} (h:w.ownsRow base 87 2 (.slice ao n c) n (RowG.cellsAll H.cells hs)) (hn:n=hs.length):Hrs ao hs w:=by
 subst hn
 obtain ⟨ao',cap,e,hm⟩:=RowG.own_made (z:=H.zero) H.len h
 cases e
 exact hm.rws
theorem tgs_cells {b off:Nat} {ts:List ByteArray} {w:World} (h:Tgs (some ⟨b,off,none⟩) ts w):∀j u,(RowG.cellsAll tcells ts)[j]? = some u→w.cell? ⟨b,off+j,none⟩=some u:=by
 intro j u hj
 have hlt:=(List.getElem?_eq_some_iff.1 hj).1
 rw [RowG.cellsAll_len t_len ts] at hlt
 have hi:j<ts.length:=by omega
 have hg:=RowG.cellsAll_get (z:=tz) t_len ts j 0 hi (by omega)
 rw [Nat.mul_one,Nat.add_zero,hj] at hg
 rcases h with h0|⟨b',off',he,_,hc⟩
 ·omega
 ·simp only [Option.some.injEq,Addr.mk.injEq,and_true] at he
  obtain ⟨rfl,rfl⟩:=he
  have:=hc j hi 0 (by omega)
  rw [Nat.mul_one,Nat.add_zero] at this
  rw [this]
  exact hg.symm
theorem tone (ts:List ByteArray):∀v∈RowG.cellsAll tcells ts,v.oneCell'=true:=by
 intro v hv
 simp only [RowG.cellsAll,List.mem_flatMap,tcells,List.mem_cons,List.not_mem_nil,or_false] at hv
 obtain ⟨x,_,rfl⟩:=hv
 rfl
theorem tnews {ta:Option Addr} {ts:List ByteArray} {w w':World} {n:Nat} (h:Tgs ta ts w) (hb:Below w.heap.size w w') (e:n=ts.length):n=0∨∃ad,ta=some ad∧∀j u,(RowG.cellsAll tcells ts)[j]? = some u→w'.cell? (ad.add j)=some u:=by
 have h2:=Tgs.below h hb
 have h3:=h2
 rcases h2 with h0|⟨b,off,rfl,_⟩
 ·exact .inl (by omega)
 ·exact .inr ⟨_,rfl,fun j u hj=>by rw [Addr.add_lit];exact tgs_cells h3 j u hj⟩
theorem hnews {b off:Nat} {hs:List H} {w w':World} (h:Hrs (some ⟨b,off,none⟩) hs w) (hb:Below w.heap.size w w'):∀j u,(RowG.cellsAll H.cells hs)[j]? = some u→w'.cell? ((⟨b,off,none⟩:Addr).add j)=some u:=fun j u hj=>by
 rw [Addr.add_lit];exact hrs_cells (Hrs.below h hb) j u hj
def lt2 (ts1 ts2:List ByteArray) (k:Nat):List ByteArray:=(ts2.take k).foldl (ins lt fstT) ts1
def lh2 (hs1 hs2:List H) (k:Nat):List H:=(hs2.take k).foldl (ins hlt addH) hs1
theorem lt2_more (ts1 ts2:List ByteArray) (k:Nat) (h:k<ts2.length):lt2 ts1 ts2 (k+1)=ins lt fstT (lt2 ts1 ts2 k) (ts2.getD k tz):=by
 unfold lt2
 rw [RowG.take_more (z:=tz) ts2 k h,List.foldl_append]
 rfl
theorem lh2_more (hs1 hs2:List H) (k:Nat) (h:k<hs2.length):lh2 hs1 hs2 (k+1)=ins hlt addH (lh2 hs1 hs2 k) (hs2.getD k H.zero):=by
 unfold lh2
 rw [RowG.take_more (z:=H.zero) hs2 k h,List.foldl_append]
 rfl
theorem ins_le {α:Type} (r:α→α→Bool) (f:α→α→α):∀(xs:List α) (y:α),(ins r f xs y).length≤xs.length+1
 | [],_=>by simp [ins]
 | x::xs,y=>by
  have:=ins_le r f xs y
  unfold ins
  split
  ·simp only [List.length_cons];omega
  ·split<;>simp only [List.length_cons]<;>omega
theorem ins_pos {α:Type} (r:α→α→Bool) (f:α→α→α) (xs:List α) (y:α):1≤(ins r f xs y).length:=by
 cases xs with
 | nil=>simp [ins]
 | cons x xs =>
  unfold ins
  split
  ·simp
  ·split<;>simp
theorem lh2_pos {hs1 hs2:List H} (h1:1≤hs1.length) (k:Nat) (hk:k≤hs2.length):1≤(lh2 hs1 hs2 k).length:=by
 cases k with
 | zero=>simpa [lh2] using h1
 | succ k=>rw [lh2_more hs1 hs2 k (by omega)];exact ins_pos _ _ _ _
theorem hrs_lt {b o:Nat} {hs:List H} {w:World} (h:Hrs (some ⟨b,o,none⟩) hs w) (hp:1≤hs.length):b<w.heap.size:=by
 obtain ⟨b',o',e,hb,_⟩:=h.at 0 (by omega)
 cases e
 exact hb
theorem lt2_len (ts1 ts2:List ByteArray):∀k,k≤ts2.length→(lt2 ts1 ts2 k).length≤ts1.length+k
 | 0,_=>by simp [lt2]
 | k+1,h=>by
  rw [lt2_more ts1 ts2 k (by omega)]
  have h1:=lt2_len ts1 ts2 k (by omega)
  have h2:=ins_le lt fstT (lt2 ts1 ts2 k) (ts2.getD k tz)
  omega
theorem lh2_len (hs1 hs2:List H):∀k,k≤hs2.length→(lh2 hs1 hs2 k).length≤hs1.length+k
 | 0,_=>by simp [lh2]
 | k+1,h=>by
  rw [lh2_more hs1 hs2 k (by omega)]
  have h1:=lh2_len hs1 hs2 k (by omega)
  have h2:=ins_le hlt addH (lh2 hs1 hs2 k) (hs2.getD k H.zero)
  omega
theorem ins_sm {B C:Int} (hB:0≤B):∀(xs:List H) (y:H),(∀z∈xs,0≤z.s∧z.s≤B)→(0≤y.s∧y.s≤C)→∀z∈ins hlt addH xs y,0≤z.s∧z.s≤B+C
 | [],y,_,hy,z,hz=>by
  simp only [ins,List.mem_singleton] at hz
  subst hz;omega
 | x::xs,y,hx,hy,z,hz=>by
  have h0:=hx x (by simp)
  unfold ins at hz
  split at hz
  ·rcases List.mem_cons.1 hz with rfl|hz
   ·omega
   ·exact ins_sm hB xs y (fun q hq=>hx q (by simp [hq])) hy z hz
  ·split at hz
   ·rcases List.mem_cons.1 hz with rfl|hz
    ·omega
    ·have:=hx z hz;omega
   ·rcases List.mem_cons.1 hz with rfl|hz
    ·simp only [addH];omega
    ·have:=hx z (by simp [hz]);omega
theorem lh2_sm {hs1 hs2:List H} {C:Int} (hC:0≤C) (h1:∀z∈hs1,0≤z.s∧z.s≤C) (h2:∀z∈hs2,0≤z.s∧z.s≤C):∀k:Nat,k≤hs2.length→∀z∈lh2 hs1 hs2 k,0≤z.s∧z.s≤C*(k+1:Int)
 | 0,_,z,hz=>by
  have:=h1 z (by simpa [lh2] using hz)
  simpa using this
 | k+1,hk,z,hz=>by
  rw [lh2_more hs1 hs2 k (by omega)] at hz
  have:=ins_sm (B:=C*(k+1:Int)) (C:=C) (Int.mul_nonneg hC (by omega)) _ _ (lh2_sm hC h1 h2 k (by omega)) (h2 _ (RowG.getD_mem (z:=H.zero) hs2 k (by omega))) z hz
  rw [show C*((k+1:Nat)+1:Int)=C*(k+1:Int)+C by push_cast;rw [Int.mul_add,Int.mul_one]]
  exact this
theorem rws_set {α:Type} {k:Nat} {cells:α→List Value} {z:α} {ao:Option Addr} {xs:List α} {w:World} {O o:Nat} {u v:Value} (h:Rws k cells z ao xs w) (ho:w.cell? ⟨O,o,none⟩=some u) (hu:∀x j,j<k→(cells x)[j]?≠some u):Rws k cells z ao xs (w.setCell ⟨O,o,none⟩ v):=by
 rcases h with h0|⟨b,off,rfl,hlt,hc⟩
 ·exact .inl h0
 ·refine .inr ⟨b,off,rfl,by simpa using hlt,fun j hj i hi=>?_⟩
  have e:=hc j hj i hi
  by_cases q:b=O∧off+j*k+i=o
  ·obtain ⟨rfl,rfl⟩:=q
   rw [ho] at e
   exact absurd e.symm (hu _ i hi)
  ·by_cases q1:b=O
   ·subst q1
    rw [EvtR.cell_far o _ (fun e2=>q ⟨rfl,e2.symm⟩)]
    exact e
   ·exact (World.cell?_of_block (a:=⟨b,off+j*k+i,none⟩) ((RowG.grown_set w O o v).block b hlt (by simpa using q1))).trans e
theorem h_ne (ao:Option Addr) (n c:Nat):∀(x:H) j,j<2→(H.cells x)[j]?≠some (.slice ao n c):=by
 intro x j hj
 match j,hj with
 | 0,_=>simp [H.cells]
 | 1,_=>simp [H.cells]
theorem blk_set {O:Nat} {cs:List Value} {w:World} (h:Blk O cs w) (hp:Pt O cs.length w) (i:Nat) (hi:i<cs.length) (v:Value):Blk O (cs.set i v) (w.setCell ⟨O,i,none⟩ v):=by
 refine ⟨by simpa using h.1,fun j hj=>?_⟩
 rw [List.length_set] at hj
 by_cases e:i=j
 ·subst e
  rw [EvtR.cell_put hp i hi v,List.getElem?_set_self hi]
 ·rw [EvtR.cell_far i j e v,List.getElem?_set_ne e]
  exact h.2 j hj
def SPost (base:Nat) (same:Prop) (r3:Bool) (a1 m1:ByteArray) (mo1 EV SU MX:Int) (LT:List ByteArray) (LH:List H) (e:Ending) (w':World):Prop :=
 (¬same∧e=.returned (.agg #[.string ⟨#[]⟩,.string ⟨#[]⟩,.int .i64 0,.int .i64 0,.int .i64 0,.int .i64 0,.slice none 0 0,.slice none 0 0,.int .i64 10]))∨(same∧r3=false∧e=.returned (.agg #[.string ⟨#[]⟩,.string ⟨#[]⟩,.int .i64 0,.int .i64 0,.int .i64 0,.int .i64 0,.slice none 0 0,.slice none 0 0,.int .i64 9])) ∨
 (same∧r3=true∧∃ta tc ha hc,e=.returned (.agg #[.string a1,.string m1,.int .i64 mo1,.int .i64 EV,.int .i64 SU,.int .i64 MX,.slice ta LT.length tc,.slice ha LH.length hc,.int .i64 0])∧TgO base ta LT tc w'∧Hrs ha LH w'∧(∀b off,ta=some ⟨b,off,none⟩→base≤b)∧(∀b off,ha=some ⟨b,off,none⟩→base≤b)∧(∀b off b' off',ta=some ⟨b,off,none⟩→ha=some ⟨b',off',none⟩→b≠b')∧SlOk ta LT.length tc∧SlOk ha LH.length hc)
set_option maxRecDepth 100000 in
set_option maxHeartbeats 16000000 in
theorem sjoin_in (EV SU MX:Int) (a1 m1:ByteArray) (mo1 ev1 su1 mx1:Int) (ta1:Option Addr) (tl1 tc1:Nat) (hb hf:Nat) (hl1 hc1:Nat) (a2 m2:ByteArray) (mo2 ev2 su2 mx2:Int) (ta2:Option Addr) (tl2 tc2:Nat) (ha2:Option Addr) (hl2 hc2:Nat) (ts1 ts2:List ByteArray) (hs1 hs2:List H) (w:World) (et1:tl1=ts1.length) (et2:tl2=ts2.length) (eh1:hl1=hs1.length) (eh2:hl2=hs2.length)
 (lt1:tl1≤1048575) (lh1:hl1≤1048575) (hev:wrap64 (ev1+ev2)=EV) (hev':IntKind.i64.wrap (ev1+ev2)=EV) (hsu:wrap64 (su1+su2)=SU) (hsu':IntKind.i64.wrap (su1+su2)=SU) (hmx:max mx1 mx2=MX)
 (hTA:Tgs ta1 ts1 w) (hHA:Hrs (some ⟨hb,hf,none⟩) hs1 w) (hTB:Tgs ta2 ts2 w) (hHB:Hrs ha2 hs2 w) (ltt:ts1.length+ts2.length≤1048575) (lhh:hs1.length+hs2.length≤1048575)
 (hsA:∀z∈hs1,0≤z.s∧z.s≤1000000000000) (hsB:∀z∈hs2,0≤z.s∧z.s≤1000000000000) (h12:hs2.length≤12) (h11:1≤hs1.length) (r3:Bool)
 (hwr:(a1=a2∧m1=m2∧mo1=mo2)→∀ta tc ha hc W,Tgs ta (lt2 ts1 ts2 ts2.length) W→Hrs ha (lh2 hs1 hs2 hs2.length) W→Calls Tryd.prog 12 #[.agg #[.string a1,.string m1,.int .i64 mo1,.int .i64 EV,.int .i64 SU,.int .i64 MX,.slice ta (lt2 ts1 ts2 ts2.length).length tc,.slice ha (lh2 hs1 hs2 hs2.length).length hc]] W fun e w'=>e=.returned (.bool r3)∧Below W.heap.size W w') :
 Calls Tryd.prog 22 #[.agg #[.string a1,.string m1,.int .i64 mo1,.int .i64 ev1,.int .i64 su1,.int .i64 mx1,.slice ta1 tl1 tc1,.slice (some ⟨hb,hf,none⟩) hl1 hc1],.agg #[.string a2,.string m2,.int .i64 mo2,.int .i64 ev2,.int .i64 su2,.int .i64 mx2,.slice ta2 tl2 tc2,.slice ha2 hl2 hc2]] w fun e w'=>SPost w.heap.size (a1=a2∧m1=m2∧mo1=mo2) r3 a1 m1 mo1 EV SU MX (lt2 ts1 ts2 ts2.length) (lh2 hs1 hs2 hs2.length) e w'∧Below w.heap.size w w':=by
 obtain ⟨i0,hi,hz0,hz1,hz2⟩:=info_parts infoT
 obtain ⟨j0,gi,gz0,gz1,gz2⟩:=info_parts infoH
 have HTA:=H_ hTA
 have HHA:=H_ hHA
 have HTB:=H_ hTB
 have HHB:=H_ hHB
 have HWR:=H_ hwr
 have HSA:=H_ hsA
 have HSB:=H_ hsB
 have HH12:=H_ h12
 have HH1:=H_ h11
 have HTT:=H_ ltt
 have HHH:=H_ lhh
 have HIL:=H_ sill
 clear hTB hHB hwr hsA hsB h12 h11 ltt lhh
 have HMX:=H_ (fun w=>smax mx1 mx2 w)
 rw [hmx] at HMX
 have HLT:Hid ((RowG.cellsAll tcells ts1).length=tl1*1):=H_ (by rw [RowG.cellsAll_len t_len,et1])
 have HLH:Hid ((RowG.cellsAll H.cells hs1).length=hl1*2):=H_ (by rw [RowG.cellsAll_len H.len,eh1])
 have szT1:tl1≤maxLen:=by unfold maxLen;omega
 have szT2:tl1*16≤140737488355328:=by omega
 have szT3:0<1:=by omega
 have szH1:0+hl1≤maxLen:=by unfold maxLen;omega
 have szH2:(0+hl1)*16≤140737488355328:=by omega
 have szH3:0<2:=by omega
 have HET:=H_ et1
 have HEH:=H_ eh1
 have HET2:=H_ et2
 have HEH2:=H_ eh2
 clear hTA hHA hmx et1 eh1 et2 eh2
 obtain ⟨W0,hW0⟩:∃W0,W0=(((w.alloc (.cells #[.string a1,.string m1,.int .i64 mo1,.int .i64 ev1,.int .i64 su1,.int .i64 mx1,.slice ta1 tl1 tc1,.slice (some ⟨hb,hf,none⟩) hl1 hc1] 26)).alloc (.cells #[.string a2,.string m2,.int .i64 mo2,.int .i64 ev2,.int .i64 su2,.int .i64 mx2,.slice ta2 tl2 tc2,.slice ha2 hl2 hc2] 26)).alloc (.cells #[.string ⟨#[]⟩,.string ⟨#[]⟩,.int .i64 0,.int .i64 0,.int .i64 0,.int .i64 0,.slice none 0 0,.slice none 0 0,.int .i64 0] 30)):=⟨_,rfl⟩
 have HB0:Hid (Below w.heap.size w W0):=H_ (by rw [hW0];exact (((Below.refl _ _).alloc (by simp;try omega) _).alloc (by simp;try omega) _).alloc (by simp;try omega) _)
 have hsz:W0.heap.size=w.heap.size+3:=by rw [hW0];simp
 have HX0:Hid (JX W0 w.heap.size (w.heap.size+1) (w.heap.size+1+1) a1 m1 mo1 ev1 su1 mx1 ta1 tl1 tc1 (some ⟨hb,hf,none⟩) hl1 hc1 a2 m2 mo2 ev2 su2 mx2 ta2 tl2 tc2 ha2 hl2 hc2 W0):=H_ (by
  refine ⟨Below.refl _ _,by omega,by omega,by rw [hW0];simp [go_sem],by rw [hW0];simp [go_sem],by rw [hW0];simp [go_sem],by rw [hW0];simp [go_sem],by rw [hW0];simp [go_sem],by rw [hW0];simp [go_sem],by rw [hW0];simp [go_sem],by rw [hW0];simp [go_sem],by rw [hW0];simp [go_sem],by rw [hW0];simp [go_sem],by rw [hW0];simp [go_sem],by rw [hW0];simp [go_sem],by rw [hW0];simp [go_sem],by rw [hW0];simp [go_sem],by rw [hW0];simp [go_sem],by rw [hW0];simp [go_sem],?_⟩
  have:=StR.pt_new ((w.alloc (.cells #[.string a1,.string m1,.int .i64 mo1,.int .i64 ev1,.int .i64 su1,.int .i64 mx1,.slice ta1 tl1 tc1,.slice (some ⟨hb,hf,none⟩) hl1 hc1] 26)).alloc (.cells #[.string a2,.string m2,.int .i64 mo2,.int .i64 ev2,.int .i64 su2,.int .i64 mx2,.slice ta2 tl2 tc2,.slice ha2 hl2 hc2] 26)) [.string ⟨#[]⟩,.string ⟨#[]⟩,.int .i64 0,.int .i64 0,.int .i64 0,.int .i64 0,.slice none 0 0,.slice none 0 0,.int .i64 0] 30
  rw [hW0]
  simp only [World.size_alloc] at this
  exact this)
 have HW:=H_ hW0
 have HSZ:=H_ hsz
 clear hW0 hsz
 have HX1:Hid (JX W0 w.heap.size (w.heap.size+1) (w.heap.size+1+1) a1 m1 mo1 ev1 su1 mx1 ta1 tl1 tc1 (some ⟨hb,hf,none⟩) hl1 hc1 a2 m2 mo2 ev2 su2 mx2 ta2 tl2 tc2 ha2 hl2 hc2 W0.drew):=H_ HX0.out.drew
 by_cases hs:a1=a2∧m1=m2∧mo1=mo2
 rotate_left
 ·have HSN:=H_ hs
  have p0:W0.cell? ⟨w.heap.size,0,none⟩=some (.string a1):=HX0.out.2.2.2.1
  have p1:W0.cell? ⟨w.heap.size,1,none⟩=some (.string m1):=HX0.out.2.2.2.2.1
  have p2:W0.cell? ⟨w.heap.size,2,none⟩=some (.int .i64 mo1):=HX0.out.2.2.2.2.2.1
  have hpt:=H_ HX0.out.pt
  clear p0 p1 p2
  by_cases hsa:a1=a2
  rotate_left
  ·have na:a1.toList≠a2.toList:=fun q=>hsa (LtR.toList_inj q)
   have na2:(a1.toList==a2.toList)=false:=by simpa using na
   go_enter Tryd.func22,Tryd.ntmps22
   go_wp2_with fail
   rw [←HW.out]
   refine (HIL.out 10 _).mono ?_
   rintro e w6 ⟨rfl,hb6⟩
   have HB6:=H_ (HB0.out.trans (hb6.mono HB0.out.size))
   have HE6:=H_ (HX0.out.below hb6)
   have r0:w.heap.size+1+1<W0.heap.size:=by have:=HSZ.out;omega
   clear hb6
   have hp9:=HE6.out.pt
   have hl9:=hp9.lt
   obtain ⟨ov0,r0⟩:=hp9.has 0 (by omega)
   have f0:=hp9.free 0 (by omega)
   obtain ⟨ov1,r1⟩:=hp9.has 1 (by omega)
   have f1:=hp9.free 1 (by omega)
   obtain ⟨ov2,r2⟩:=hp9.has 2 (by omega)
   have f2:=hp9.free 2 (by omega)
   obtain ⟨ov3,r3⟩:=hp9.has 3 (by omega)
   have f3:=hp9.free 3 (by omega)
   obtain ⟨ov4,r4⟩:=hp9.has 4 (by omega)
   have f4:=hp9.free 4 (by omega)
   obtain ⟨ov5,r5⟩:=hp9.has 5 (by omega)
   have f5:=hp9.free 5 (by omega)
   obtain ⟨ov6,r6⟩:=hp9.has 6 (by omega)
   have f6:=hp9.free 6 (by omega)
   obtain ⟨ov7,r7⟩:=hp9.has 7 (by omega)
   have f7:=hp9.free 7 (by omega)
   obtain ⟨ov8,r8⟩:=hp9.has 8 (by omega)
   have f8:=hp9.free 8 (by omega)
   have hgf:=StR.stL_grown (w.heap.size+1+1) [.string ⟨#[]⟩,.string ⟨#[]⟩,.int .i64 0,.int .i64 0,.int .i64 0,.int .i64 0,.slice none 0 0,.slice none 0 0,.int .i64 10] 0 w6
   have HBF:=H_ (HB6.out.grown hgf HB6.out.size (fun k e=>by simp only [Option.some.injEq] at e;omega))
   have HGF:=H_ hgf
   simp only [StR.stL,Nat.zero_add,Nat.reduceAdd] at HBF HGF
   clear hgf hp9
   go_wp2_with fail
   refine bodyPost_ret (v:=.agg #[.string ⟨#[]⟩,.string ⟨#[]⟩,.int .i64 0,.int .i64 0,.int .i64 0,.int .i64 0,.slice none 0 0,.slice none 0 0,.int .i64 10]) (by simp [results,Tryd.results22,go_sem,r0,r1,r2,r3,r4,r5,r6,r7,r8]) rfl ⟨.inl ⟨HSN.out,rfl⟩,HBF.out⟩
  have hsa2:(a1.toList==a2.toList)=true:=by rw [hsa];simp
  by_cases hsb:m1=m2
  rotate_left
  ·have na:m1.toList≠m2.toList:=fun q=>hsb (LtR.toList_inj q)
   have na2:(m1.toList==m2.toList)=false:=by simpa using na
   have hsa3:a1.toList=a2.toList:=by rw [hsa]
   clear hsa
   go_enter Tryd.func22,Tryd.ntmps22
   go_wp2_with fail
   rw [←HW.out]
   refine (HIL.out 10 _).mono ?_
   rintro e w6 ⟨rfl,hb6⟩
   have HB6:=H_ (HB0.out.trans (hb6.mono HB0.out.size))
   have HE6:=H_ (HX0.out.below hb6)
   have r0:w.heap.size+1+1<W0.heap.size:=by have:=HSZ.out;omega
   clear hb6
   have hp9:=HE6.out.pt
   have hl9:=hp9.lt
   obtain ⟨ov0,r0⟩:=hp9.has 0 (by omega)
   have f0:=hp9.free 0 (by omega)
   obtain ⟨ov1,r1⟩:=hp9.has 1 (by omega)
   have f1:=hp9.free 1 (by omega)
   obtain ⟨ov2,r2⟩:=hp9.has 2 (by omega)
   have f2:=hp9.free 2 (by omega)
   obtain ⟨ov3,r3⟩:=hp9.has 3 (by omega)
   have f3:=hp9.free 3 (by omega)
   obtain ⟨ov4,r4⟩:=hp9.has 4 (by omega)
   have f4:=hp9.free 4 (by omega)
   obtain ⟨ov5,r5⟩:=hp9.has 5 (by omega)
   have f5:=hp9.free 5 (by omega)
   obtain ⟨ov6,r6⟩:=hp9.has 6 (by omega)
   have f6:=hp9.free 6 (by omega)
   obtain ⟨ov7,r7⟩:=hp9.has 7 (by omega)
   have f7:=hp9.free 7 (by omega)
   obtain ⟨ov8,r8⟩:=hp9.has 8 (by omega)
   have f8:=hp9.free 8 (by omega)
   have hgf:=StR.stL_grown (w.heap.size+1+1) [.string ⟨#[]⟩,.string ⟨#[]⟩,.int .i64 0,.int .i64 0,.int .i64 0,.int .i64 0,.slice none 0 0,.slice none 0 0,.int .i64 10] 0 w6
   have HBF:=H_ (HB6.out.grown hgf HB6.out.size (fun k e=>by simp only [Option.some.injEq] at e;omega))
   have HGF:=H_ hgf
   simp only [StR.stL,Nat.zero_add,Nat.reduceAdd] at HBF HGF
   clear hgf hp9
   go_wp2_with fail
   refine bodyPost_ret (v:=.agg #[.string ⟨#[]⟩,.string ⟨#[]⟩,.int .i64 0,.int .i64 0,.int .i64 0,.int .i64 0,.slice none 0 0,.slice none 0 0,.int .i64 10]) (by simp [results,Tryd.results22,go_sem,r0,r1,r2,r3,r4,r5,r6,r7,r8]) rfl ⟨.inl ⟨HSN.out,rfl⟩,HBF.out⟩
  by_cases hsc:mo1=mo2
  ·exact absurd ⟨hsa,hsb,hsc⟩ hs
  ·have na2:(mo1==mo2)=false:=by simpa using hsc
   have hsa3:a1.toList=a2.toList:=by rw [hsa]
   have hsb3:m1.toList=m2.toList:=by rw [hsb]
   have hsb2:(m1.toList==m2.toList)=true:=by rw [hsb];simp
   clear hsa hsb
   go_enter Tryd.func22,Tryd.ntmps22
   go_wp2_with fail
   rw [←HW.out]
   refine (HIL.out 10 _).mono ?_
   rintro e w6 ⟨rfl,hb6⟩
   have HB6:=H_ (HB0.out.trans (hb6.mono HB0.out.size))
   have HE6:=H_ (HX0.out.below hb6)
   have r0:w.heap.size+1+1<W0.heap.size:=by have:=HSZ.out;omega
   clear hb6
   have hp9:=HE6.out.pt
   have hl9:=hp9.lt
   obtain ⟨ov0,r0⟩:=hp9.has 0 (by omega)
   have f0:=hp9.free 0 (by omega)
   obtain ⟨ov1,r1⟩:=hp9.has 1 (by omega)
   have f1:=hp9.free 1 (by omega)
   obtain ⟨ov2,r2⟩:=hp9.has 2 (by omega)
   have f2:=hp9.free 2 (by omega)
   obtain ⟨ov3,r3⟩:=hp9.has 3 (by omega)
   have f3:=hp9.free 3 (by omega)
   obtain ⟨ov4,r4⟩:=hp9.has 4 (by omega)
   have f4:=hp9.free 4 (by omega)
   obtain ⟨ov5,r5⟩:=hp9.has 5 (by omega)
   have f5:=hp9.free 5 (by omega)
   obtain ⟨ov6,r6⟩:=hp9.has 6 (by omega)
   have f6:=hp9.free 6 (by omega)
   obtain ⟨ov7,r7⟩:=hp9.has 7 (by omega)
   have f7:=hp9.free 7 (by omega)
   obtain ⟨ov8,r8⟩:=hp9.has 8 (by omega)
   have f8:=hp9.free 8 (by omega)
   have hgf:=StR.stL_grown (w.heap.size+1+1) [.string ⟨#[]⟩,.string ⟨#[]⟩,.int .i64 0,.int .i64 0,.int .i64 0,.int .i64 0,.slice none 0 0,.slice none 0 0,.int .i64 10] 0 w6
   have HBF:=H_ (HB6.out.grown hgf HB6.out.size (fun k e=>by simp only [Option.some.injEq] at e;omega))
   have HGF:=H_ hgf
   simp only [StR.stL,Nat.zero_add,Nat.reduceAdd] at HBF HGF
   clear hgf hp9
   go_wp2_with fail
   refine bodyPost_ret (v:=.agg #[.string ⟨#[]⟩,.string ⟨#[]⟩,.int .i64 0,.int .i64 0,.int .i64 0,.int .i64 0,.slice none 0 0,.slice none 0 0,.int .i64 10]) (by simp [results,Tryd.results22,go_sem,r0,r1,r2,r3,r4,r5,r6,r7,r8]) rfl ⟨.inl ⟨HSN.out,rfl⟩,HBF.out⟩
 have HWQ:=H_ (HWR.out hs)
 clear HWR
 obtain ⟨rfl,rfl,rfl⟩:=hs
 go_enter Tryd.func22,Tryd.ntmps22
 go_wp2_with fail
 rw [←HW.out]
 go_cut [5] from 28 (fun v5 wx=>∃bO bT' cT' bH' cH',v5=.pointer (some ⟨bO,0,none⟩)∧Hid (Blk bO [.string a1,.string m1,.int .i64 mo1,.int .i64 EV,.int .i64 SU,.int .i64 MX,.slice (some ⟨bT',0,none⟩) tl1 cT',.slice (some ⟨bH',0,none⟩) hl1 cH'] wx)∧Hid (Pt bO 8 wx)∧Hid (TgO W0.heap.size (some ⟨bT',0,none⟩) ts1 cT' wx)∧Hid (Hrs (some ⟨bH',0,none⟩) hs1 wx)∧Hid (JX W0 w.heap.size (w.heap.size+1) (w.heap.size+1+1) a1 m1 mo1 ev1 su1 mx1 ta1 tl1 tc1 (some ⟨hb,hf,none⟩) hl1 hc1 a1 m1 mo1 ev2 su2 mx2 ta2 tl2 tc2 ha2 hl2 hc2 wx)∧Hid (tl1≤cT'∧cT'≤maxLen∧hl1≤cH'∧cH'≤maxLen∧W0.heap.size≤bO∧W0.heap.size≤bT'∧W0.heap.size≤bH'∧bT'≠bO∧bT'≠bH'))
 case first =>
  have a0:w.heap.size<W0.heap.size:=by have:=HSZ.out;omega
  have b0:w.heap.size+1<W0.heap.size:=by have:=HSZ.out;omega
  have r0:w.heap.size+1+1<W0.heap.size:=by have:=HSZ.out;omega
  refine wp_region_held_drew (S:=(fun W=>Below W0.heap.size W0 W∧w.heap.size<W.heap.size∧w.heap.size+1<W.heap.size∧W.cell? ⟨w.heap.size,0,none⟩=some (.string a1)∧W.cell? ⟨w.heap.size,1,none⟩=some (.string m1)∧W.cell? ⟨w.heap.size,2,none⟩=some (.int .i64 mo1)∧W.cell? ⟨w.heap.size,3,none⟩=some (.int .i64 ev1)∧W.cell? ⟨w.heap.size,4,none⟩=some (.int .i64 su1)∧W.cell? ⟨w.heap.size,5,none⟩=some (.int .i64 mx1)∧W.cell? ⟨w.heap.size,6,none⟩=some (.slice ta1 tl1 tc1)∧W.cell? ⟨w.heap.size,7,none⟩=some (.slice (some ⟨hb,hf,none⟩) hl1 hc1)∧W.cell? ⟨w.heap.size+1,0,none⟩=some (.string a1)∧W.cell? ⟨w.heap.size+1,1,none⟩=some (.string m1)∧W.cell? ⟨w.heap.size+1,2,none⟩=some (.int .i64 mo1)∧W.cell? ⟨w.heap.size+1,3,none⟩=some (.int .i64 ev2)∧W.cell? ⟨w.heap.size+1,4,none⟩=some (.int .i64 su2)∧W.cell? ⟨w.heap.size+1,5,none⟩=some (.int .i64 mx2)∧W.cell? ⟨w.heap.size+1,6,none⟩=some (.slice ta2 tl2 tc2)∧W.cell? ⟨w.heap.size+1,7,none⟩=some (.slice ha2 hl2 hc2)∧Pt (w.heap.size+1+1) 9 W)) (by kernel_rfl) HX1.out (fun hHeld=>?_)
  have hSW:=HX1.out
  generalize W0.drew=kd at *
  apply memo7 (fun bT bT' cT' bH bH' cH' bO W=>(JX W0 w.heap.size (w.heap.size+1) (w.heap.size+1+1) a1 m1 mo1 ev1 su1 mx1 ta1 tl1 tc1 (some ⟨hb,hf,none⟩) hl1 hc1 a1 m1 mo1 ev2 su2 mx2 ta2 tl2 tc2 ha2 hl2 hc2 W)∧(W.ownsRow W0.heap.size 9 1 (.slice (some ⟨bT',0,none⟩) tl1 cT') tl1 (RowG.cellsAll tcells ts1))∧(tl1≤cT')∧(cT'≤maxLen)∧(W.ownsRow W0.heap.size 87 2 (.slice (some ⟨bH',0,none⟩) hl1 cH') hl1 (RowG.cellsAll H.cells hs1))∧(hl1≤cH')∧(cH'≤maxLen)∧(W0.heap.size≤bO)∧(W.heap[bO]? = some (.cells #[.string ⟨#[]⟩,.string ⟨#[]⟩,.int .i64 0,.int .i64 0,.int .i64 0,.int .i64 0,.slice none 0 0,.slice none 0 0] 26 (0,0)))∧True)
  intro N20_21_24_25_28_30
  apply memo6 (fun bT bT' cT' bH bH' cH' W=>(JX W0 w.heap.size (w.heap.size+1) (w.heap.size+1+1) a1 m1 mo1 ev1 su1 mx1 ta1 tl1 tc1 (some ⟨hb,hf,none⟩) hl1 hc1 a1 m1 mo1 ev2 su2 mx2 ta2 tl2 tc2 ha2 hl2 hc2 W)∧(W.ownsRow W0.heap.size 9 1 (.slice (some ⟨bT',0,none⟩) tl1 cT') tl1 (RowG.cellsAll tcells ts1))∧(tl1≤cT')∧(cT'≤maxLen)∧(W.ownsRow W0.heap.size 87 2 (.slice (some ⟨bH',0,none⟩) hl1 cH') hl1 (RowG.cellsAll H.cells hs1))∧(hl1≤cH')∧(cH'≤maxLen)∧True)
  intro N20_21_24_25_28
  apply memo5 (fun bT bT' cT' bH bO W=>(JX W0 w.heap.size (w.heap.size+1) (w.heap.size+1+1) a1 m1 mo1 ev1 su1 mx1 ta1 tl1 tc1 (some ⟨hb,hf,none⟩) hl1 hc1 a1 m1 mo1 ev2 su2 mx2 ta2 tl2 tc2 ha2 hl2 hc2 W)∧(W.ownsRow W0.heap.size 9 1 (.slice (some ⟨bT',0,none⟩) tl1 cT') tl1 (RowG.cellsAll tcells ts1))∧(tl1≤cT')∧(cT'≤maxLen)∧(W0.heap.size≤bH)∧(W.ownsRow W0.heap.size 87 2 (.slice (some ⟨bH,0,none⟩) 0 0) 0 [])∧(W0.heap.size≤bO)∧(W.heap[bO]? = some (.cells #[.string ⟨#[]⟩,.string ⟨#[]⟩,.int .i64 0,.int .i64 0,.int .i64 0,.int .i64 0,.slice none 0 0,.slice none 0 0] 26 (0,0)))∧True)
  intro N20_21_24_25_30
  apply memo4 (fun bT bT' cT' bH W=>(JX W0 w.heap.size (w.heap.size+1) (w.heap.size+1+1) a1 m1 mo1 ev1 su1 mx1 ta1 tl1 tc1 (some ⟨hb,hf,none⟩) hl1 hc1 a1 m1 mo1 ev2 su2 mx2 ta2 tl2 tc2 ha2 hl2 hc2 W)∧(W.ownsRow W0.heap.size 9 1 (.slice (some ⟨bT',0,none⟩) tl1 cT') tl1 (RowG.cellsAll tcells ts1))∧(tl1≤cT')∧(cT'≤maxLen)∧(W0.heap.size≤bH)∧(W.ownsRow W0.heap.size 87 2 (.slice (some ⟨bH,0,none⟩) 0 0) 0 [])∧True)
  intro N20_21_24_25
  apply memo4 (fun bT bT' cT' bO W=>(JX W0 w.heap.size (w.heap.size+1) (w.heap.size+1+1) a1 m1 mo1 ev1 su1 mx1 ta1 tl1 tc1 (some ⟨hb,hf,none⟩) hl1 hc1 a1 m1 mo1 ev2 su2 mx2 ta2 tl2 tc2 ha2 hl2 hc2 W)∧(W.ownsRow W0.heap.size 9 1 (.slice (some ⟨bT',0,none⟩) tl1 cT') tl1 (RowG.cellsAll tcells ts1))∧(tl1≤cT')∧(cT'≤maxLen)∧(W0.heap.size≤bO)∧(W.heap[bO]? = some (.cells #[.string ⟨#[]⟩,.string ⟨#[]⟩,.int .i64 0,.int .i64 0,.int .i64 0,.int .i64 0,.slice none 0 0,.slice none 0 0] 26 (0,0)))∧True)
  intro N20_21_24_30
  apply memo3 (fun bT bH bO W=>(JX W0 w.heap.size (w.heap.size+1) (w.heap.size+1+1) a1 m1 mo1 ev1 su1 mx1 ta1 tl1 tc1 (some ⟨hb,hf,none⟩) hl1 hc1 a1 m1 mo1 ev2 su2 mx2 ta2 tl2 tc2 ha2 hl2 hc2 W)∧(W0.heap.size≤bT)∧(W.ownsRow W0.heap.size 9 1 (.slice (some ⟨bT,0,none⟩) 0 0) 0 [])∧(W0.heap.size≤bH)∧(W.ownsRow W0.heap.size 87 2 (.slice (some ⟨bH,0,none⟩) 0 0) 0 [])∧(W0.heap.size≤bO)∧(W.heap[bO]? = some (.cells #[.string ⟨#[]⟩,.string ⟨#[]⟩,.int .i64 0,.int .i64 0,.int .i64 0,.int .i64 0,.slice none 0 0,.slice none 0 0] 26 (0,0)))∧True)
  intro N20_21_25_30
  apply memo3 (fun bT bT' cT' W=>(JX W0 w.heap.size (w.heap.size+1) (w.heap.size+1+1) a1 m1 mo1 ev1 su1 mx1 ta1 tl1 tc1 (some ⟨hb,hf,none⟩) hl1 hc1 a1 m1 mo1 ev2 su2 mx2 ta2 tl2 tc2 ha2 hl2 hc2 W)∧(W.ownsRow W0.heap.size 9 1 (.slice (some ⟨bT',0,none⟩) tl1 cT') tl1 (RowG.cellsAll tcells ts1))∧(tl1≤cT')∧(cT'≤maxLen)∧True)
  intro N20_21_24
  apply memo2 (fun bT bH W=>(JX W0 w.heap.size (w.heap.size+1) (w.heap.size+1+1) a1 m1 mo1 ev1 su1 mx1 ta1 tl1 tc1 (some ⟨hb,hf,none⟩) hl1 hc1 a1 m1 mo1 ev2 su2 mx2 ta2 tl2 tc2 ha2 hl2 hc2 W)∧(W0.heap.size≤bT)∧(W.ownsRow W0.heap.size 9 1 (.slice (some ⟨bT,0,none⟩) 0 0) 0 [])∧(W0.heap.size≤bH)∧(W.ownsRow W0.heap.size 87 2 (.slice (some ⟨bH,0,none⟩) 0 0) 0 [])∧True)
  intro N20_21_25
  apply memo2 (fun bT bO W=>(JX W0 w.heap.size (w.heap.size+1) (w.heap.size+1+1) a1 m1 mo1 ev1 su1 mx1 ta1 tl1 tc1 (some ⟨hb,hf,none⟩) hl1 hc1 a1 m1 mo1 ev2 su2 mx2 ta2 tl2 tc2 ha2 hl2 hc2 W)∧(W0.heap.size≤bT)∧(W.ownsRow W0.heap.size 9 1 (.slice (some ⟨bT,0,none⟩) 0 0) 0 [])∧(W0.heap.size≤bO)∧(W.heap[bO]? = some (.cells #[.string ⟨#[]⟩,.string ⟨#[]⟩,.int .i64 0,.int .i64 0,.int .i64 0,.int .i64 0,.slice none 0 0,.slice none 0 0] 26 (0,0)))∧True)
  intro N20_21_30
  apply memo2 (fun bH bO W=>(JX W0 w.heap.size (w.heap.size+1) (w.heap.size+1+1) a1 m1 mo1 ev1 su1 mx1 ta1 tl1 tc1 (some ⟨hb,hf,none⟩) hl1 hc1 a1 m1 mo1 ev2 su2 mx2 ta2 tl2 tc2 ha2 hl2 hc2 W)∧(W0.heap.size≤bH)∧(W.ownsRow W0.heap.size 87 2 (.slice (some ⟨bH,0,none⟩) 0 0) 0 [])∧(W0.heap.size≤bO)∧(W.heap[bO]? = some (.cells #[.string ⟨#[]⟩,.string ⟨#[]⟩,.int .i64 0,.int .i64 0,.int .i64 0,.int .i64 0,.slice none 0 0,.slice none 0 0] 26 (0,0)))∧True)
  intro N20_25_30
  apply memo3 (fun bT bH bO W=>(JX W0 w.heap.size (w.heap.size+1) (w.heap.size+1+1) a1 m1 mo1 ev1 su1 mx1 ta1 tl1 tc1 (some ⟨hb,hf,none⟩) hl1 hc1 a1 m1 mo1 ev2 su2 mx2 ta2 tl2 tc2 ha2 hl2 hc2 W)∧(W0.heap.size≤bT)∧(W.ownsRow W0.heap.size 9 1 (.slice (some ⟨bT,0,none⟩) 0 0) 0 [])∧(W0.heap.size≤bH)∧(W.ownsRow W0.heap.size 87 2 (.slice (some ⟨bH,0,none⟩) 0 0) 0 [])∧(W0.heap.size≤bO)∧(W.heap[bO]? = some (.cells #[.string ⟨#[]⟩,.string ⟨#[]⟩,.int .i64 0,.int .i64 0,.int .i64 0,.int .i64 0,.slice none 0 0,.slice none 0 0] 26 (0,0)))∧True)
  intro N21_25_30
  apply memo1 (fun bT W=>(JX W0 w.heap.size (w.heap.size+1) (w.heap.size+1+1) a1 m1 mo1 ev1 su1 mx1 ta1 tl1 tc1 (some ⟨hb,hf,none⟩) hl1 hc1 a1 m1 mo1 ev2 su2 mx2 ta2 tl2 tc2 ha2 hl2 hc2 W)∧(W0.heap.size≤bT)∧(W.ownsRow W0.heap.size 9 1 (.slice (some ⟨bT,0,none⟩) 0 0) 0 [])∧True)
  intro N20_21
  apply memo1 (fun bH W=>(JX W0 w.heap.size (w.heap.size+1) (w.heap.size+1+1) a1 m1 mo1 ev1 su1 mx1 ta1 tl1 tc1 (some ⟨hb,hf,none⟩) hl1 hc1 a1 m1 mo1 ev2 su2 mx2 ta2 tl2 tc2 ha2 hl2 hc2 W)∧(W0.heap.size≤bH)∧(W.ownsRow W0.heap.size 87 2 (.slice (some ⟨bH,0,none⟩) 0 0) 0 [])∧True)
  intro N20_25
  apply memo1 (fun bO W=>(JX W0 w.heap.size (w.heap.size+1) (w.heap.size+1+1) a1 m1 mo1 ev1 su1 mx1 ta1 tl1 tc1 (some ⟨hb,hf,none⟩) hl1 hc1 a1 m1 mo1 ev2 su2 mx2 ta2 tl2 tc2 ha2 hl2 hc2 W)∧(W0.heap.size≤bO)∧(W.heap[bO]? = some (.cells #[.string ⟨#[]⟩,.string ⟨#[]⟩,.int .i64 0,.int .i64 0,.int .i64 0,.int .i64 0,.slice none 0 0,.slice none 0 0] 26 (0,0)))∧True)
  intro N20_30
  apply memo2 (fun bT bH W=>(JX W0 w.heap.size (w.heap.size+1) (w.heap.size+1+1) a1 m1 mo1 ev1 su1 mx1 ta1 tl1 tc1 (some ⟨hb,hf,none⟩) hl1 hc1 a1 m1 mo1 ev2 su2 mx2 ta2 tl2 tc2 ha2 hl2 hc2 W)∧(W0.heap.size≤bT)∧(W.ownsRow W0.heap.size 9 1 (.slice (some ⟨bT,0,none⟩) 0 0) 0 [])∧(W0.heap.size≤bH)∧(W.ownsRow W0.heap.size 87 2 (.slice (some ⟨bH,0,none⟩) 0 0) 0 [])∧True)
  intro N21_25
  apply memo2 (fun bT bO W=>(JX W0 w.heap.size (w.heap.size+1) (w.heap.size+1+1) a1 m1 mo1 ev1 su1 mx1 ta1 tl1 tc1 (some ⟨hb,hf,none⟩) hl1 hc1 a1 m1 mo1 ev2 su2 mx2 ta2 tl2 tc2 ha2 hl2 hc2 W)∧(W0.heap.size≤bT)∧(W.ownsRow W0.heap.size 9 1 (.slice (some ⟨bT,0,none⟩) 0 0) 0 [])∧(W0.heap.size≤bO)∧(W.heap[bO]? = some (.cells #[.string ⟨#[]⟩,.string ⟨#[]⟩,.int .i64 0,.int .i64 0,.int .i64 0,.int .i64 0,.slice none 0 0,.slice none 0 0] 26 (0,0)))∧True)
  intro N21_30
  apply memo2 (fun bH bO W=>(JX W0 w.heap.size (w.heap.size+1) (w.heap.size+1+1) a1 m1 mo1 ev1 su1 mx1 ta1 tl1 tc1 (some ⟨hb,hf,none⟩) hl1 hc1 a1 m1 mo1 ev2 su2 mx2 ta2 tl2 tc2 ha2 hl2 hc2 W)∧(W0.heap.size≤bH)∧(W.ownsRow W0.heap.size 87 2 (.slice (some ⟨bH,0,none⟩) 0 0) 0 [])∧(W0.heap.size≤bO)∧(W.heap[bO]? = some (.cells #[.string ⟨#[]⟩,.string ⟨#[]⟩,.int .i64 0,.int .i64 0,.int .i64 0,.int .i64 0,.slice none 0 0,.slice none 0 0] 26 (0,0)))∧True)
  intro N25_30
  apply memo0 (fun W=>(JX W0 w.heap.size (w.heap.size+1) (w.heap.size+1+1) a1 m1 mo1 ev1 su1 mx1 ta1 tl1 tc1 (some ⟨hb,hf,none⟩) hl1 hc1 a1 m1 mo1 ev2 su2 mx2 ta2 tl2 tc2 ha2 hl2 hc2 W)∧True)
  intro N20
  apply memo1 (fun bT W=>(JX W0 w.heap.size (w.heap.size+1) (w.heap.size+1+1) a1 m1 mo1 ev1 su1 mx1 ta1 tl1 tc1 (some ⟨hb,hf,none⟩) hl1 hc1 a1 m1 mo1 ev2 su2 mx2 ta2 tl2 tc2 ha2 hl2 hc2 W)∧(W0.heap.size≤bT)∧(W.ownsRow W0.heap.size 9 1 (.slice (some ⟨bT,0,none⟩) 0 0) 0 [])∧True)
  intro N21
  apply memo1 (fun bH W=>(JX W0 w.heap.size (w.heap.size+1) (w.heap.size+1+1) a1 m1 mo1 ev1 su1 mx1 ta1 tl1 tc1 (some ⟨hb,hf,none⟩) hl1 hc1 a1 m1 mo1 ev2 su2 mx2 ta2 tl2 tc2 ha2 hl2 hc2 W)∧(W0.heap.size≤bH)∧(W.ownsRow W0.heap.size 87 2 (.slice (some ⟨bH,0,none⟩) 0 0) 0 [])∧True)
  intro N25
  apply memo1 (fun bO W=>(JX W0 w.heap.size (w.heap.size+1) (w.heap.size+1+1) a1 m1 mo1 ev1 su1 mx1 ta1 tl1 tc1 (some ⟨hb,hf,none⟩) hl1 hc1 a1 m1 mo1 ev2 su2 mx2 ta2 tl2 tc2 ha2 hl2 hc2 W)∧(W0.heap.size≤bO)∧(W.heap[bO]? = some (.cells #[.string ⟨#[]⟩,.string ⟨#[]⟩,.int .i64 0,.int .i64 0,.int .i64 0,.int .i64 0,.slice none 0 0,.slice none 0 0] 26 (0,0)))∧True)
  intro N30
  ·refine tk 0 (⟨some 28,.fieldAddr 26 (.tmp 2) 0,0,"l07_window.go:85",#[],none⟩) ?_
   refine tk 1 (⟨some 29,.load 9 (.tmp 28),9,"l07_window.go:85",#[⟨0,.data⟩],none⟩) ?_
   refine tk 2 (⟨some 30,.fieldAddr 26 (.tmp 2) 1,0,"l07_window.go:85",#[],none⟩) ?_
   refine tk 3 (⟨some 31,.load 9 (.tmp 30),9,"l07_window.go:85",#[⟨2,.data⟩],none⟩) ?_
   refine tk 4 (⟨some 32,.fieldAddr 26 (.tmp 2) 2,0,"l07_window.go:85",#[],none⟩) ?_
   refine tk 5 (⟨some 33,.load 2 (.tmp 32),2,"l07_window.go:85",#[⟨4,.data⟩],none⟩) ?_
   refine tk 6 (⟨some 34,.fieldAddr 26 (.tmp 2) 3,0,"l07_window.go:85",#[],none⟩) ?_
   refine tk 7 (⟨some 35,.load 2 (.tmp 34),2,"l07_window.go:85",#[⟨6,.data⟩],none⟩) ?_
   refine tk 8 (⟨some 36,.fieldAddr 26 (.tmp 3) 3,0,"l07_window.go:85",#[],none⟩) ?_
   refine tk 9 (⟨some 37,.load 2 (.tmp 36),2,"l07_window.go:85",#[⟨8,.data⟩],none⟩) ?_
   refine tk 10 (⟨some 38,.binOp BinOp.add 2 (.tmp 35) (.tmp 37) 2,2,"l07_window.go:85",#[⟨7,.data⟩,⟨9,.data⟩],none⟩) ?_
   refine tk 11 (⟨some 39,.fieldAddr 26 (.tmp 2) 4,0,"l07_window.go:85",#[],none⟩) ?_
   refine tk 12 (⟨some 40,.load 2 (.tmp 39),2,"l07_window.go:85",#[⟨11,.data⟩],none⟩) ?_
   refine tk 13 (⟨some 41,.fieldAddr 26 (.tmp 3) 4,0,"l07_window.go:85",#[],none⟩) ?_
   refine tk 14 (⟨some 42,.load 2 (.tmp 41),2,"l07_window.go:85",#[⟨13,.data⟩],none⟩) ?_
   refine tk 15 (⟨some 43,.binOp BinOp.add 2 (.tmp 40) (.tmp 42) 2,2,"l07_window.go:85",#[⟨12,.data⟩,⟨14,.data⟩],none⟩) ?_
   refine tk 16 (⟨some 44,.fieldAddr 26 (.tmp 2) 5,0,"l07_window.go:85",#[],none⟩) ?_
   refine tk 17 (⟨some 45,.load 2 (.tmp 44),2,"l07_window.go:85",#[⟨16,.data⟩],none⟩) ?_
   refine tk 18 (⟨some 46,.fieldAddr 26 (.tmp 3) 5,0,"l07_window.go:85",#[],none⟩) ?_
   refine tk 19 (⟨some 47,.load 2 (.tmp 46),2,"l07_window.go:85",#[⟨18,.data⟩],none⟩) ?_
   refine tk 22 (⟨some 50,.fieldAddr 26 (.tmp 2) 6,0,"l07_window.go:85",#[],none⟩) ?_
   refine tk 23 (⟨some 51,.load 23 (.tmp 50),23,"l07_window.go:85",#[⟨22,.data⟩],none⟩) ?_
   refine tk 26 (⟨some 54,.fieldAddr 26 (.tmp 2) 7,0,"l07_window.go:85",#[],none⟩) ?_
   refine tk 27 (⟨some 55,.load 24 (.tmp 54),24,"l07_window.go:85",#[⟨26,.data⟩],none⟩) ?_
   refine wpAnyH_ready (rs:=[20,21,25,30]) (by kernel_rfl) (by simp) ?_
   refine AllReadyH.cons (o:=⟨some 48,.call {callee:=Callee.value (.func 47),args:=#[.tmp 45,.tmp 47],argTypes:=#[2,2]},2,"l07_window.go:85",#[⟨17,.data⟩,⟨19,.data⟩],none⟩) rfl (fun K hK=>?_) (AllReadyH.cons (o:=⟨some 49,.buildSlice 23 0 #[],23,"l07_window.go:85",#[],none⟩) rfl (fun K hK=>?_) (AllReadyH.cons (o:=⟨some 53,.buildSlice 24 0 #[],24,"l07_window.go:85",#[],none⟩) rfl (fun K hK=>?_) (AllReadyH.cons (o:=⟨some 5,.alloc 26,0,"l07_window.go:85",#[],none⟩) rfl (fun K hK=>?_) AllReadyH.nil)))
   ·go_simp
    go_at_call 47
    refine (HMX.out _).mono ?_
    rintro e q1 ⟨rfl,hq1⟩
    have hqb1:Below kd.heap.size kd q1:=by rw [hq1];exact Below.refl _ _
    clear hq1
    try go_wp2_with fail
    have hh1:=hSW.below hqb1
    refine hK.out _ _ hh1 (fun _=>?_)
    clear hK K
    try simp only [Act.put,SL]
    exact N20.out q1 ⟨hh1,trivial⟩
   ·go_simp
    try go_wp2_with fail
    have hloT:W0.heap.size≤kd.heap.size:=(hSW).1.size
    have hh1:=hSW.below ((Below.refl kd.heap.size kd).alloc (Nat.le_refl _) (Obj.cells #[] 9))
    have ownT_1:(kd.alloc (Obj.cells #[] 9)).ownsRow W0.heap.size 9 1 (.slice (some ⟨kd.heap.size,0,none⟩) 0 0) 0 []:=World.ownsRow_made kd #[] 0 hloT (by unfold maxLen;omega) (by simp)
    refine hK.out _ _ hh1 (fun _=>?_)
    clear hK K
    try simp only [Act.put,SL]
    generalize (kd.alloc (Obj.cells #[] 9))=k1 at *
    obtain ⟨bT,hbTx⟩:∃z,z=kd.heap.size:=⟨_,rfl⟩
    rw [←hbTx] at hloT ownT_1 ⊢
    exact N21.out bT k1 ⟨hh1,hloT,ownT_1,trivial⟩
   ·go_simp
    try go_wp2_with fail
    have hloH:W0.heap.size≤kd.heap.size:=(hSW).1.size
    have hh1:=hSW.below ((Below.refl kd.heap.size kd).alloc (Nat.le_refl _) (Obj.cells #[] 87))
    have ownH_1:(kd.alloc (Obj.cells #[] 87)).ownsRow W0.heap.size 87 2 (.slice (some ⟨kd.heap.size,0,none⟩) 0 0) 0 []:=World.ownsRow_made kd #[] 0 hloH (by unfold maxLen;omega) (by simp)
    refine hK.out _ _ hh1 (fun _=>?_)
    clear hK K
    try simp only [Act.put,SL]
    generalize (kd.alloc (Obj.cells #[] 87))=k1 at *
    obtain ⟨bH,hbHx⟩:∃z,z=kd.heap.size:=⟨_,rfl⟩
    rw [←hbHx] at hloH ownH_1 ⊢
    exact N25.out bH k1 ⟨hh1,hloH,ownH_1,trivial⟩
   ·go_simp
    try go_wp2_with fail
    have hloO:W0.heap.size≤kd.heap.size:=(hSW).1.size
    have hh1:=hSW.below ((Below.refl kd.heap.size kd).alloc (Nat.le_refl _) (Obj.cells #[.string ⟨#[]⟩,.string ⟨#[]⟩,.int .i64 0,.int .i64 0,.int .i64 0,.int .i64 0,.slice none 0 0,.slice none 0 0] 26))
    have hO_1:(kd.alloc (Obj.cells #[.string ⟨#[]⟩,.string ⟨#[]⟩,.int .i64 0,.int .i64 0,.int .i64 0,.int .i64 0,.slice none 0 0,.slice none 0 0] 26)).heap[kd.heap.size]? = some (.cells #[.string ⟨#[]⟩,.string ⟨#[]⟩,.int .i64 0,.int .i64 0,.int .i64 0,.int .i64 0,.slice none 0 0,.slice none 0 0] 26 (0,0)):=heap_alloc_new kd _
    refine hK.out _ _ hh1 (fun _=>?_)
    clear hK K
    try simp only [Act.put,SL]
    generalize (kd.alloc (Obj.cells #[.string ⟨#[]⟩,.string ⟨#[]⟩,.int .i64 0,.int .i64 0,.int .i64 0,.int .i64 0,.slice none 0 0,.slice none 0 0] 26))=k1 at *
    obtain ⟨bO,hbOx⟩:∃z,z=kd.heap.size:=⟨_,rfl⟩
    rw [←hbOx] at hloO hO_1 ⊢
    exact N30.out bO k1 ⟨hh1,hloO,hO_1,trivial⟩
  ·rintro bO W ⟨hSW,hloO,hO0,_⟩
   refine wpAnyH_ready (rs:=[20,21,25]) (by kernel_rfl) (by simp) ?_
   refine AllReadyH.cons (o:=⟨some 48,.call {callee:=Callee.value (.func 47),args:=#[.tmp 45,.tmp 47],argTypes:=#[2,2]},2,"l07_window.go:85",#[⟨17,.data⟩,⟨19,.data⟩],none⟩) rfl (fun K hK=>?_) (AllReadyH.cons (o:=⟨some 49,.buildSlice 23 0 #[],23,"l07_window.go:85",#[],none⟩) rfl (fun K hK=>?_) (AllReadyH.cons (o:=⟨some 53,.buildSlice 24 0 #[],24,"l07_window.go:85",#[],none⟩) rfl (fun K hK=>?_) AllReadyH.nil))
   ·go_simp
    go_at_call 47
    refine (HMX.out _).mono ?_
    rintro e q1 ⟨rfl,hq1⟩
    have hqb1:Below W.heap.size W q1:=by rw [hq1];exact Below.refl _ _
    clear hq1
    try go_wp2_with fail
    have hh1:=hSW.below hqb1
    have hO_1:=(hqb1.block bO (lt_heap hO0)).trans hO0
    refine hK.out _ _ hh1 (fun _=>?_)
    clear hK K
    try simp only [Act.put,SL]
    exact N20_30.out bO q1 ⟨hh1,hloO,hO_1,trivial⟩
   ·go_simp
    try go_wp2_with fail
    have hloT:W0.heap.size≤W.heap.size:=(hSW).1.size
    have hh1:=hSW.below ((Below.refl W.heap.size W).alloc (Nat.le_refl _) (Obj.cells #[] 9))
    have hO_1:=(((Below.refl W.heap.size W).alloc (Nat.le_refl _) (Obj.cells #[] 9)).block bO (lt_heap hO0)).trans hO0
    have ownT_1:(W.alloc (Obj.cells #[] 9)).ownsRow W0.heap.size 9 1 (.slice (some ⟨W.heap.size,0,none⟩) 0 0) 0 []:=World.ownsRow_made W #[] 0 hloT (by unfold maxLen;omega) (by simp)
    refine hK.out _ _ hh1 (fun _=>?_)
    clear hK K
    try simp only [Act.put,SL]
    generalize (W.alloc (Obj.cells #[] 9))=k1 at *
    obtain ⟨bT,hbTx⟩:∃z,z=W.heap.size:=⟨_,rfl⟩
    rw [←hbTx] at hloT ownT_1 ⊢
    exact N21_30.out bT bO k1 ⟨hh1,hloT,ownT_1,hloO,hO_1,trivial⟩
   ·go_simp
    try go_wp2_with fail
    have hloH:W0.heap.size≤W.heap.size:=(hSW).1.size
    have hh1:=hSW.below ((Below.refl W.heap.size W).alloc (Nat.le_refl _) (Obj.cells #[] 87))
    have hO_1:=(((Below.refl W.heap.size W).alloc (Nat.le_refl _) (Obj.cells #[] 87)).block bO (lt_heap hO0)).trans hO0
    have ownH_1:(W.alloc (Obj.cells #[] 87)).ownsRow W0.heap.size 87 2 (.slice (some ⟨W.heap.size,0,none⟩) 0 0) 0 []:=World.ownsRow_made W #[] 0 hloH (by unfold maxLen;omega) (by simp)
    refine hK.out _ _ hh1 (fun _=>?_)
    clear hK K
    try simp only [Act.put,SL]
    generalize (W.alloc (Obj.cells #[] 87))=k1 at *
    obtain ⟨bH,hbHx⟩:∃z,z=W.heap.size:=⟨_,rfl⟩
    rw [←hbHx] at hloH ownH_1 ⊢
    exact N25_30.out bH bO k1 ⟨hh1,hloH,ownH_1,hloO,hO_1,trivial⟩
  ·rintro bH W ⟨hSW,hloH,ownH0,_⟩
   refine wpAnyH_ready (rs:=[20,21,30]) (by kernel_rfl) (by simp) ?_
   refine AllReadyH.cons (o:=⟨some 48,.call {callee:=Callee.value (.func 47),args:=#[.tmp 45,.tmp 47],argTypes:=#[2,2]},2,"l07_window.go:85",#[⟨17,.data⟩,⟨19,.data⟩],none⟩) rfl (fun K hK=>?_) (AllReadyH.cons (o:=⟨some 49,.buildSlice 23 0 #[],23,"l07_window.go:85",#[],none⟩) rfl (fun K hK=>?_) (AllReadyH.cons (o:=⟨some 5,.alloc 26,0,"l07_window.go:85",#[],none⟩) rfl (fun K hK=>?_) AllReadyH.nil))
   ·go_simp
    go_at_call 47
    refine (HMX.out _).mono ?_
    rintro e q1 ⟨rfl,hq1⟩
    have hqb1:Below W.heap.size W q1:=by rw [hq1];exact Below.refl _ _
    clear hq1
    try go_wp2_with fail
    have hh1:=hSW.below hqb1
    have ownH_1:=RowG.own_below ownH0 hqb1
    refine hK.out _ _ hh1 (fun _=>?_)
    clear hK K
    try simp only [Act.put,SL]
    exact N20_25.out bH q1 ⟨hh1,hloH,ownH_1,trivial⟩
   ·go_simp
    try go_wp2_with fail
    have hloT:W0.heap.size≤W.heap.size:=(hSW).1.size
    have hh1:=hSW.below ((Below.refl W.heap.size W).alloc (Nat.le_refl _) (Obj.cells #[] 9))
    have ownH_1:=RowG.own_below ownH0 ((Below.refl W.heap.size W).alloc (Nat.le_refl _) (Obj.cells #[] 9))
    have ownT_1:(W.alloc (Obj.cells #[] 9)).ownsRow W0.heap.size 9 1 (.slice (some ⟨W.heap.size,0,none⟩) 0 0) 0 []:=World.ownsRow_made W #[] 0 hloT (by unfold maxLen;omega) (by simp)
    refine hK.out _ _ hh1 (fun _=>?_)
    clear hK K
    try simp only [Act.put,SL]
    generalize (W.alloc (Obj.cells #[] 9))=k1 at *
    obtain ⟨bT,hbTx⟩:∃z,z=W.heap.size:=⟨_,rfl⟩
    rw [←hbTx] at hloT ownT_1 ⊢
    exact N21_25.out bT bH k1 ⟨hh1,hloT,ownT_1,hloH,ownH_1,trivial⟩
   ·go_simp
    try go_wp2_with fail
    have hloO:W0.heap.size≤W.heap.size:=(hSW).1.size
    have hh1:=hSW.below ((Below.refl W.heap.size W).alloc (Nat.le_refl _) (Obj.cells #[.string ⟨#[]⟩,.string ⟨#[]⟩,.int .i64 0,.int .i64 0,.int .i64 0,.int .i64 0,.slice none 0 0,.slice none 0 0] 26))
    have ownH_1:=RowG.own_below ownH0 ((Below.refl W.heap.size W).alloc (Nat.le_refl _) (Obj.cells #[.string ⟨#[]⟩,.string ⟨#[]⟩,.int .i64 0,.int .i64 0,.int .i64 0,.int .i64 0,.slice none 0 0,.slice none 0 0] 26))
    have hO_1:(W.alloc (Obj.cells #[.string ⟨#[]⟩,.string ⟨#[]⟩,.int .i64 0,.int .i64 0,.int .i64 0,.int .i64 0,.slice none 0 0,.slice none 0 0] 26)).heap[W.heap.size]? = some (.cells #[.string ⟨#[]⟩,.string ⟨#[]⟩,.int .i64 0,.int .i64 0,.int .i64 0,.int .i64 0,.slice none 0 0,.slice none 0 0] 26 (0,0)):=heap_alloc_new W _
    refine hK.out _ _ hh1 (fun _=>?_)
    clear hK K
    try simp only [Act.put,SL]
    generalize (W.alloc (Obj.cells #[.string ⟨#[]⟩,.string ⟨#[]⟩,.int .i64 0,.int .i64 0,.int .i64 0,.int .i64 0,.slice none 0 0,.slice none 0 0] 26))=k1 at *
    obtain ⟨bO,hbOx⟩:∃z,z=W.heap.size:=⟨_,rfl⟩
    rw [←hbOx] at hloO hO_1 ⊢
    exact N25_30.out bH bO k1 ⟨hh1,hloH,ownH_1,hloO,hO_1,trivial⟩
  ·rintro bT W ⟨hSW,hloT,ownT0,_⟩
   refine wpAnyH_ready (rs:=[20,25,30]) (by kernel_rfl) (by simp) ?_
   refine AllReadyH.cons (o:=⟨some 48,.call {callee:=Callee.value (.func 47),args:=#[.tmp 45,.tmp 47],argTypes:=#[2,2]},2,"l07_window.go:85",#[⟨17,.data⟩,⟨19,.data⟩],none⟩) rfl (fun K hK=>?_) (AllReadyH.cons (o:=⟨some 53,.buildSlice 24 0 #[],24,"l07_window.go:85",#[],none⟩) rfl (fun K hK=>?_) (AllReadyH.cons (o:=⟨some 5,.alloc 26,0,"l07_window.go:85",#[],none⟩) rfl (fun K hK=>?_) AllReadyH.nil))
   ·go_simp
    go_at_call 47
    refine (HMX.out _).mono ?_
    rintro e q1 ⟨rfl,hq1⟩
    have hqb1:Below W.heap.size W q1:=by rw [hq1];exact Below.refl _ _
    clear hq1
    try go_wp2_with fail
    have hh1:=hSW.below hqb1
    have ownT_1:=RowG.own_below ownT0 hqb1
    refine hK.out _ _ hh1 (fun _=>?_)
    clear hK K
    try simp only [Act.put,SL]
    exact N20_21.out bT q1 ⟨hh1,hloT,ownT_1,trivial⟩
   ·go_simp
    try go_wp2_with fail
    have hloH:W0.heap.size≤W.heap.size:=(hSW).1.size
    have hh1:=hSW.below ((Below.refl W.heap.size W).alloc (Nat.le_refl _) (Obj.cells #[] 87))
    have ownT_1:=RowG.own_below ownT0 ((Below.refl W.heap.size W).alloc (Nat.le_refl _) (Obj.cells #[] 87))
    have ownH_1:(W.alloc (Obj.cells #[] 87)).ownsRow W0.heap.size 87 2 (.slice (some ⟨W.heap.size,0,none⟩) 0 0) 0 []:=World.ownsRow_made W #[] 0 hloH (by unfold maxLen;omega) (by simp)
    refine hK.out _ _ hh1 (fun _=>?_)
    clear hK K
    try simp only [Act.put,SL]
    generalize (W.alloc (Obj.cells #[] 87))=k1 at *
    obtain ⟨bH,hbHx⟩:∃z,z=W.heap.size:=⟨_,rfl⟩
    rw [←hbHx] at hloH ownH_1 ⊢
    exact N21_25.out bT bH k1 ⟨hh1,hloT,ownT_1,hloH,ownH_1,trivial⟩
   ·go_simp
    try go_wp2_with fail
    have hloO:W0.heap.size≤W.heap.size:=(hSW).1.size
    have hh1:=hSW.below ((Below.refl W.heap.size W).alloc (Nat.le_refl _) (Obj.cells #[.string ⟨#[]⟩,.string ⟨#[]⟩,.int .i64 0,.int .i64 0,.int .i64 0,.int .i64 0,.slice none 0 0,.slice none 0 0] 26))
    have ownT_1:=RowG.own_below ownT0 ((Below.refl W.heap.size W).alloc (Nat.le_refl _) (Obj.cells #[.string ⟨#[]⟩,.string ⟨#[]⟩,.int .i64 0,.int .i64 0,.int .i64 0,.int .i64 0,.slice none 0 0,.slice none 0 0] 26))
    have hO_1:(W.alloc (Obj.cells #[.string ⟨#[]⟩,.string ⟨#[]⟩,.int .i64 0,.int .i64 0,.int .i64 0,.int .i64 0,.slice none 0 0,.slice none 0 0] 26)).heap[W.heap.size]? = some (.cells #[.string ⟨#[]⟩,.string ⟨#[]⟩,.int .i64 0,.int .i64 0,.int .i64 0,.int .i64 0,.slice none 0 0,.slice none 0 0] 26 (0,0)):=heap_alloc_new W _
    refine hK.out _ _ hh1 (fun _=>?_)
    clear hK K
    try simp only [Act.put,SL]
    generalize (W.alloc (Obj.cells #[.string ⟨#[]⟩,.string ⟨#[]⟩,.int .i64 0,.int .i64 0,.int .i64 0,.int .i64 0,.slice none 0 0,.slice none 0 0] 26))=k1 at *
    obtain ⟨bO,hbOx⟩:∃z,z=W.heap.size:=⟨_,rfl⟩
    rw [←hbOx] at hloO hO_1 ⊢
    exact N21_30.out bT bO k1 ⟨hh1,hloT,ownT_1,hloO,hO_1,trivial⟩
  ·rintro W ⟨hSW,_⟩
   refine wpAnyH_ready (rs:=[21,25,30]) (by kernel_rfl) (by simp) ?_
   refine AllReadyH.cons (o:=⟨some 49,.buildSlice 23 0 #[],23,"l07_window.go:85",#[],none⟩) rfl (fun K hK=>?_) (AllReadyH.cons (o:=⟨some 53,.buildSlice 24 0 #[],24,"l07_window.go:85",#[],none⟩) rfl (fun K hK=>?_) (AllReadyH.cons (o:=⟨some 5,.alloc 26,0,"l07_window.go:85",#[],none⟩) rfl (fun K hK=>?_) AllReadyH.nil))
   ·go_simp
    try go_wp2_with fail
    have hloT:W0.heap.size≤W.heap.size:=(hSW).1.size
    have hh1:=hSW.below ((Below.refl W.heap.size W).alloc (Nat.le_refl _) (Obj.cells #[] 9))
    have ownT_1:(W.alloc (Obj.cells #[] 9)).ownsRow W0.heap.size 9 1 (.slice (some ⟨W.heap.size,0,none⟩) 0 0) 0 []:=World.ownsRow_made W #[] 0 hloT (by unfold maxLen;omega) (by simp)
    refine hK.out _ _ hh1 (fun _=>?_)
    clear hK K
    try simp only [Act.put,SL]
    generalize (W.alloc (Obj.cells #[] 9))=k1 at *
    obtain ⟨bT,hbTx⟩:∃z,z=W.heap.size:=⟨_,rfl⟩
    rw [←hbTx] at hloT ownT_1 ⊢
    exact N20_21.out bT k1 ⟨hh1,hloT,ownT_1,trivial⟩
   ·go_simp
    try go_wp2_with fail
    have hloH:W0.heap.size≤W.heap.size:=(hSW).1.size
    have hh1:=hSW.below ((Below.refl W.heap.size W).alloc (Nat.le_refl _) (Obj.cells #[] 87))
    have ownH_1:(W.alloc (Obj.cells #[] 87)).ownsRow W0.heap.size 87 2 (.slice (some ⟨W.heap.size,0,none⟩) 0 0) 0 []:=World.ownsRow_made W #[] 0 hloH (by unfold maxLen;omega) (by simp)
    refine hK.out _ _ hh1 (fun _=>?_)
    clear hK K
    try simp only [Act.put,SL]
    generalize (W.alloc (Obj.cells #[] 87))=k1 at *
    obtain ⟨bH,hbHx⟩:∃z,z=W.heap.size:=⟨_,rfl⟩
    rw [←hbHx] at hloH ownH_1 ⊢
    exact N20_25.out bH k1 ⟨hh1,hloH,ownH_1,trivial⟩
   ·go_simp
    try go_wp2_with fail
    have hloO:W0.heap.size≤W.heap.size:=(hSW).1.size
    have hh1:=hSW.below ((Below.refl W.heap.size W).alloc (Nat.le_refl _) (Obj.cells #[.string ⟨#[]⟩,.string ⟨#[]⟩,.int .i64 0,.int .i64 0,.int .i64 0,.int .i64 0,.slice none 0 0,.slice none 0 0] 26))
    have hO_1:(W.alloc (Obj.cells #[.string ⟨#[]⟩,.string ⟨#[]⟩,.int .i64 0,.int .i64 0,.int .i64 0,.int .i64 0,.slice none 0 0,.slice none 0 0] 26)).heap[W.heap.size]? = some (.cells #[.string ⟨#[]⟩,.string ⟨#[]⟩,.int .i64 0,.int .i64 0,.int .i64 0,.int .i64 0,.slice none 0 0,.slice none 0 0] 26 (0,0)):=heap_alloc_new W _
    refine hK.out _ _ hh1 (fun _=>?_)
    clear hK K
    try simp only [Act.put,SL]
    generalize (W.alloc (Obj.cells #[.string ⟨#[]⟩,.string ⟨#[]⟩,.int .i64 0,.int .i64 0,.int .i64 0,.int .i64 0,.slice none 0 0,.slice none 0 0] 26))=k1 at *
    obtain ⟨bO,hbOx⟩:∃z,z=W.heap.size:=⟨_,rfl⟩
    rw [←hbOx] at hloO hO_1 ⊢
    exact N20_30.out bO k1 ⟨hh1,hloO,hO_1,trivial⟩
  ·rintro bH bO W ⟨hSW,hloH,ownH0,hloO,hO0,_⟩
   refine wpAnyH_ready (rs:=[20,21]) (by kernel_rfl) (by simp) ?_
   refine AllReadyH.cons (o:=⟨some 48,.call {callee:=Callee.value (.func 47),args:=#[.tmp 45,.tmp 47],argTypes:=#[2,2]},2,"l07_window.go:85",#[⟨17,.data⟩,⟨19,.data⟩],none⟩) rfl (fun K hK=>?_) (AllReadyH.cons (o:=⟨some 49,.buildSlice 23 0 #[],23,"l07_window.go:85",#[],none⟩) rfl (fun K hK=>?_) AllReadyH.nil)
   ·go_simp
    go_at_call 47
    refine (HMX.out _).mono ?_
    rintro e q1 ⟨rfl,hq1⟩
    have hqb1:Below W.heap.size W q1:=by rw [hq1];exact Below.refl _ _
    clear hq1
    try go_wp2_with fail
    have hh1:=hSW.below hqb1
    have ownH_1:=RowG.own_below ownH0 hqb1
    have hO_1:=(hqb1.block bO (lt_heap hO0)).trans hO0
    refine hK.out _ _ hh1 (fun _=>?_)
    clear hK K
    try simp only [Act.put,SL]
    exact N20_25_30.out bH bO q1 ⟨hh1,hloH,ownH_1,hloO,hO_1,trivial⟩
   ·go_simp
    try go_wp2_with fail
    have hloT:W0.heap.size≤W.heap.size:=(hSW).1.size
    have hh1:=hSW.below ((Below.refl W.heap.size W).alloc (Nat.le_refl _) (Obj.cells #[] 9))
    have ownH_1:=RowG.own_below ownH0 ((Below.refl W.heap.size W).alloc (Nat.le_refl _) (Obj.cells #[] 9))
    have hO_1:=(((Below.refl W.heap.size W).alloc (Nat.le_refl _) (Obj.cells #[] 9)).block bO (lt_heap hO0)).trans hO0
    have ownT_1:(W.alloc (Obj.cells #[] 9)).ownsRow W0.heap.size 9 1 (.slice (some ⟨W.heap.size,0,none⟩) 0 0) 0 []:=World.ownsRow_made W #[] 0 hloT (by unfold maxLen;omega) (by simp)
    refine hK.out _ _ hh1 (fun _=>?_)
    clear hK K
    try simp only [Act.put,SL]
    generalize (W.alloc (Obj.cells #[] 9))=k1 at *
    obtain ⟨bT,hbTx⟩:∃z,z=W.heap.size:=⟨_,rfl⟩
    rw [←hbTx] at hloT ownT_1 ⊢
    exact N21_25_30.out bT bH bO k1 ⟨hh1,hloT,ownT_1,hloH,ownH_1,hloO,hO_1,trivial⟩
  ·rintro bT bO W ⟨hSW,hloT,ownT0,hloO,hO0,_⟩
   refine wpAnyH_ready (rs:=[20,25]) (by kernel_rfl) (by simp) ?_
   refine AllReadyH.cons (o:=⟨some 48,.call {callee:=Callee.value (.func 47),args:=#[.tmp 45,.tmp 47],argTypes:=#[2,2]},2,"l07_window.go:85",#[⟨17,.data⟩,⟨19,.data⟩],none⟩) rfl (fun K hK=>?_) (AllReadyH.cons (o:=⟨some 53,.buildSlice 24 0 #[],24,"l07_window.go:85",#[],none⟩) rfl (fun K hK=>?_) AllReadyH.nil)
   ·go_simp
    go_at_call 47
    refine (HMX.out _).mono ?_
    rintro e q1 ⟨rfl,hq1⟩
    have hqb1:Below W.heap.size W q1:=by rw [hq1];exact Below.refl _ _
    clear hq1
    try go_wp2_with fail
    have hh1:=hSW.below hqb1
    have ownT_1:=RowG.own_below ownT0 hqb1
    have hO_1:=(hqb1.block bO (lt_heap hO0)).trans hO0
    refine hK.out _ _ hh1 (fun _=>?_)
    clear hK K
    try simp only [Act.put,SL]
    exact N20_21_30.out bT bO q1 ⟨hh1,hloT,ownT_1,hloO,hO_1,trivial⟩
   ·go_simp
    try go_wp2_with fail
    have hloH:W0.heap.size≤W.heap.size:=(hSW).1.size
    have hh1:=hSW.below ((Below.refl W.heap.size W).alloc (Nat.le_refl _) (Obj.cells #[] 87))
    have ownT_1:=RowG.own_below ownT0 ((Below.refl W.heap.size W).alloc (Nat.le_refl _) (Obj.cells #[] 87))
    have hO_1:=(((Below.refl W.heap.size W).alloc (Nat.le_refl _) (Obj.cells #[] 87)).block bO (lt_heap hO0)).trans hO0
    have ownH_1:(W.alloc (Obj.cells #[] 87)).ownsRow W0.heap.size 87 2 (.slice (some ⟨W.heap.size,0,none⟩) 0 0) 0 []:=World.ownsRow_made W #[] 0 hloH (by unfold maxLen;omega) (by simp)
    refine hK.out _ _ hh1 (fun _=>?_)
    clear hK K
    try simp only [Act.put,SL]
    generalize (W.alloc (Obj.cells #[] 87))=k1 at *
    obtain ⟨bH,hbHx⟩:∃z,z=W.heap.size:=⟨_,rfl⟩
    rw [←hbHx] at hloH ownH_1 ⊢
    exact N21_25_30.out bT bH bO k1 ⟨hh1,hloT,ownT_1,hloH,ownH_1,hloO,hO_1,trivial⟩
  ·rintro bT bH W ⟨hSW,hloT,ownT0,hloH,ownH0,_⟩
   refine wpAnyH_ready (rs:=[20,30]) (by kernel_rfl) (by simp) ?_
   refine AllReadyH.cons (o:=⟨some 48,.call {callee:=Callee.value (.func 47),args:=#[.tmp 45,.tmp 47],argTypes:=#[2,2]},2,"l07_window.go:85",#[⟨17,.data⟩,⟨19,.data⟩],none⟩) rfl (fun K hK=>?_) (AllReadyH.cons (o:=⟨some 5,.alloc 26,0,"l07_window.go:85",#[],none⟩) rfl (fun K hK=>?_) AllReadyH.nil)
   ·go_simp
    go_at_call 47
    refine (HMX.out _).mono ?_
    rintro e q1 ⟨rfl,hq1⟩
    have hqb1:Below W.heap.size W q1:=by rw [hq1];exact Below.refl _ _
    clear hq1
    try go_wp2_with fail
    have hh1:=hSW.below hqb1
    have ownT_1:=RowG.own_below ownT0 hqb1
    have ownH_1:=RowG.own_below ownH0 hqb1
    refine hK.out _ _ hh1 (fun _=>?_)
    clear hK K
    try simp only [Act.put,SL]
    exact N20_21_25.out bT bH q1 ⟨hh1,hloT,ownT_1,hloH,ownH_1,trivial⟩
   ·go_simp
    try go_wp2_with fail
    have hloO:W0.heap.size≤W.heap.size:=(hSW).1.size
    have hh1:=hSW.below ((Below.refl W.heap.size W).alloc (Nat.le_refl _) (Obj.cells #[.string ⟨#[]⟩,.string ⟨#[]⟩,.int .i64 0,.int .i64 0,.int .i64 0,.int .i64 0,.slice none 0 0,.slice none 0 0] 26))
    have ownT_1:=RowG.own_below ownT0 ((Below.refl W.heap.size W).alloc (Nat.le_refl _) (Obj.cells #[.string ⟨#[]⟩,.string ⟨#[]⟩,.int .i64 0,.int .i64 0,.int .i64 0,.int .i64 0,.slice none 0 0,.slice none 0 0] 26))
    have ownH_1:=RowG.own_below ownH0 ((Below.refl W.heap.size W).alloc (Nat.le_refl _) (Obj.cells #[.string ⟨#[]⟩,.string ⟨#[]⟩,.int .i64 0,.int .i64 0,.int .i64 0,.int .i64 0,.slice none 0 0,.slice none 0 0] 26))
    have hO_1:(W.alloc (Obj.cells #[.string ⟨#[]⟩,.string ⟨#[]⟩,.int .i64 0,.int .i64 0,.int .i64 0,.int .i64 0,.slice none 0 0,.slice none 0 0] 26)).heap[W.heap.size]? = some (.cells #[.string ⟨#[]⟩,.string ⟨#[]⟩,.int .i64 0,.int .i64 0,.int .i64 0,.int .i64 0,.slice none 0 0,.slice none 0 0] 26 (0,0)):=heap_alloc_new W _
    refine hK.out _ _ hh1 (fun _=>?_)
    clear hK K
    try simp only [Act.put,SL]
    generalize (W.alloc (Obj.cells #[.string ⟨#[]⟩,.string ⟨#[]⟩,.int .i64 0,.int .i64 0,.int .i64 0,.int .i64 0,.slice none 0 0,.slice none 0 0] 26))=k1 at *
    obtain ⟨bO,hbOx⟩:∃z,z=W.heap.size:=⟨_,rfl⟩
    rw [←hbOx] at hloO hO_1 ⊢
    exact N21_25_30.out bT bH bO k1 ⟨hh1,hloT,ownT_1,hloH,ownH_1,hloO,hO_1,trivial⟩
  ·rintro bO W ⟨hSW,hloO,hO0,_⟩
   refine wpAnyH_ready (rs:=[21,25]) (by kernel_rfl) (by simp) ?_
   refine AllReadyH.cons (o:=⟨some 49,.buildSlice 23 0 #[],23,"l07_window.go:85",#[],none⟩) rfl (fun K hK=>?_) (AllReadyH.cons (o:=⟨some 53,.buildSlice 24 0 #[],24,"l07_window.go:85",#[],none⟩) rfl (fun K hK=>?_) AllReadyH.nil)
   ·go_simp
    try go_wp2_with fail
    have hloT:W0.heap.size≤W.heap.size:=(hSW).1.size
    have hh1:=hSW.below ((Below.refl W.heap.size W).alloc (Nat.le_refl _) (Obj.cells #[] 9))
    have hO_1:=(((Below.refl W.heap.size W).alloc (Nat.le_refl _) (Obj.cells #[] 9)).block bO (lt_heap hO0)).trans hO0
    have ownT_1:(W.alloc (Obj.cells #[] 9)).ownsRow W0.heap.size 9 1 (.slice (some ⟨W.heap.size,0,none⟩) 0 0) 0 []:=World.ownsRow_made W #[] 0 hloT (by unfold maxLen;omega) (by simp)
    refine hK.out _ _ hh1 (fun _=>?_)
    clear hK K
    try simp only [Act.put,SL]
    generalize (W.alloc (Obj.cells #[] 9))=k1 at *
    obtain ⟨bT,hbTx⟩:∃z,z=W.heap.size:=⟨_,rfl⟩
    rw [←hbTx] at hloT ownT_1 ⊢
    exact N20_21_30.out bT bO k1 ⟨hh1,hloT,ownT_1,hloO,hO_1,trivial⟩
   ·go_simp
    try go_wp2_with fail
    have hloH:W0.heap.size≤W.heap.size:=(hSW).1.size
    have hh1:=hSW.below ((Below.refl W.heap.size W).alloc (Nat.le_refl _) (Obj.cells #[] 87))
    have hO_1:=(((Below.refl W.heap.size W).alloc (Nat.le_refl _) (Obj.cells #[] 87)).block bO (lt_heap hO0)).trans hO0
    have ownH_1:(W.alloc (Obj.cells #[] 87)).ownsRow W0.heap.size 87 2 (.slice (some ⟨W.heap.size,0,none⟩) 0 0) 0 []:=World.ownsRow_made W #[] 0 hloH (by unfold maxLen;omega) (by simp)
    refine hK.out _ _ hh1 (fun _=>?_)
    clear hK K
    try simp only [Act.put,SL]
    generalize (W.alloc (Obj.cells #[] 87))=k1 at *
    obtain ⟨bH,hbHx⟩:∃z,z=W.heap.size:=⟨_,rfl⟩
    rw [←hbHx] at hloH ownH_1 ⊢
    exact N20_25_30.out bH bO k1 ⟨hh1,hloH,ownH_1,hloO,hO_1,trivial⟩
  ·rintro bH W ⟨hSW,hloH,ownH0,_⟩
   refine wpAnyH_ready (rs:=[21,30]) (by kernel_rfl) (by simp) ?_
   refine AllReadyH.cons (o:=⟨some 49,.buildSlice 23 0 #[],23,"l07_window.go:85",#[],none⟩) rfl (fun K hK=>?_) (AllReadyH.cons (o:=⟨some 5,.alloc 26,0,"l07_window.go:85",#[],none⟩) rfl (fun K hK=>?_) AllReadyH.nil)
   ·go_simp
    try go_wp2_with fail
    have hloT:W0.heap.size≤W.heap.size:=(hSW).1.size
    have hh1:=hSW.below ((Below.refl W.heap.size W).alloc (Nat.le_refl _) (Obj.cells #[] 9))
    have ownH_1:=RowG.own_below ownH0 ((Below.refl W.heap.size W).alloc (Nat.le_refl _) (Obj.cells #[] 9))
    have ownT_1:(W.alloc (Obj.cells #[] 9)).ownsRow W0.heap.size 9 1 (.slice (some ⟨W.heap.size,0,none⟩) 0 0) 0 []:=World.ownsRow_made W #[] 0 hloT (by unfold maxLen;omega) (by simp)
    refine hK.out _ _ hh1 (fun _=>?_)
    clear hK K
    try simp only [Act.put,SL]
    generalize (W.alloc (Obj.cells #[] 9))=k1 at *
    obtain ⟨bT,hbTx⟩:∃z,z=W.heap.size:=⟨_,rfl⟩
    rw [←hbTx] at hloT ownT_1 ⊢
    exact N20_21_25.out bT bH k1 ⟨hh1,hloT,ownT_1,hloH,ownH_1,trivial⟩
   ·go_simp
    try go_wp2_with fail
    have hloO:W0.heap.size≤W.heap.size:=(hSW).1.size
    have hh1:=hSW.below ((Below.refl W.heap.size W).alloc (Nat.le_refl _) (Obj.cells #[.string ⟨#[]⟩,.string ⟨#[]⟩,.int .i64 0,.int .i64 0,.int .i64 0,.int .i64 0,.slice none 0 0,.slice none 0 0] 26))
    have ownH_1:=RowG.own_below ownH0 ((Below.refl W.heap.size W).alloc (Nat.le_refl _) (Obj.cells #[.string ⟨#[]⟩,.string ⟨#[]⟩,.int .i64 0,.int .i64 0,.int .i64 0,.int .i64 0,.slice none 0 0,.slice none 0 0] 26))
    have hO_1:(W.alloc (Obj.cells #[.string ⟨#[]⟩,.string ⟨#[]⟩,.int .i64 0,.int .i64 0,.int .i64 0,.int .i64 0,.slice none 0 0,.slice none 0 0] 26)).heap[W.heap.size]? = some (.cells #[.string ⟨#[]⟩,.string ⟨#[]⟩,.int .i64 0,.int .i64 0,.int .i64 0,.int .i64 0,.slice none 0 0,.slice none 0 0] 26 (0,0)):=heap_alloc_new W _
    refine hK.out _ _ hh1 (fun _=>?_)
    clear hK K
    try simp only [Act.put,SL]
    generalize (W.alloc (Obj.cells #[.string ⟨#[]⟩,.string ⟨#[]⟩,.int .i64 0,.int .i64 0,.int .i64 0,.int .i64 0,.slice none 0 0,.slice none 0 0] 26))=k1 at *
    obtain ⟨bO,hbOx⟩:∃z,z=W.heap.size:=⟨_,rfl⟩
    rw [←hbOx] at hloO hO_1 ⊢
    exact N20_25_30.out bH bO k1 ⟨hh1,hloH,ownH_1,hloO,hO_1,trivial⟩
  ·rintro bT W ⟨hSW,hloT,ownT0,_⟩
   refine wpAnyH_ready (rs:=[24,25,30]) (by kernel_rfl) (by simp) ?_
   refine AllReadyH.cons (o:=⟨some 52,.call {callee:=Callee.builtin Builtin.append,args:=#[.tmp 49,.tmp 51],argTypes:=#[23,23]},23,"l07_window.go:85",#[⟨21,.data⟩,⟨23,.data⟩,⟨20,.chain⟩],none⟩) rfl (fun K hK=>?_) (AllReadyH.cons (o:=⟨some 53,.buildSlice 24 0 #[],24,"l07_window.go:85",#[],none⟩) rfl (fun K hK=>?_) (AllReadyH.cons (o:=⟨some 5,.alloc 26,0,"l07_window.go:85",#[],none⟩) rfl (fun K hK=>?_) AllReadyH.nil))
   ·refine LinStep.step_append_whole rfl _ _ 23 rfl W0.heap.size 9 i0 (.string ⟨#[]⟩) 1 16 Tryd.underlying23 hi hz0 hz1 hz2 rfl szT3 bT rfl ownT0 ta1 tl1 tc1 (RowG.cellsAll tcells ts1) rfl HLT.out (tnews HTA.out (HB0.out.trans ((hSW).1.mono HB0.out.size)) HET.out) (tone ts1) szT1 szT2 ((hSW).1.size) ?_
    intro vT g1 hown hgrow hnnT
    have hgr1:W.grownBy g1 (some bT):=hgrow
    have ownT_1:g1.ownsRow W0.heap.size 9 1 vT tl1 (RowG.cellsAll tcells ts1):=by simpa using hown
    obtain ⟨bT',cT',rfl,hleT,hcmT⟩:=own_some2 ownT_1 hnnT
    have hh1:=hSW.grown hloT a0 b0 r0 hgr1
    clear hown hgrow hnnT
    refine hK.out _ _ hh1 (fun _=>?_)
    clear hK K
    try simp only [Act.put,SL]
    exact N20_21_24.out bT bT' cT' g1 ⟨hh1,ownT_1,hleT,hcmT,trivial⟩
   ·go_simp
    try go_wp2_with fail
    have hloH:W0.heap.size≤W.heap.size:=(hSW).1.size
    have hh1:=hSW.below ((Below.refl W.heap.size W).alloc (Nat.le_refl _) (Obj.cells #[] 87))
    have ownT_1:=RowG.own_below ownT0 ((Below.refl W.heap.size W).alloc (Nat.le_refl _) (Obj.cells #[] 87))
    have ownH_1:(W.alloc (Obj.cells #[] 87)).ownsRow W0.heap.size 87 2 (.slice (some ⟨W.heap.size,0,none⟩) 0 0) 0 []:=World.ownsRow_made W #[] 0 hloH (by unfold maxLen;omega) (by simp)
    refine hK.out _ _ hh1 (fun _=>?_)
    clear hK K
    try simp only [Act.put,SL]
    generalize (W.alloc (Obj.cells #[] 87))=k1 at *
    obtain ⟨bH,hbHx⟩:∃z,z=W.heap.size:=⟨_,rfl⟩
    rw [←hbHx] at hloH ownH_1 ⊢
    exact N20_21_25.out bT bH k1 ⟨hh1,hloT,ownT_1,hloH,ownH_1,trivial⟩
   ·go_simp
    try go_wp2_with fail
    have hloO:W0.heap.size≤W.heap.size:=(hSW).1.size
    have hh1:=hSW.below ((Below.refl W.heap.size W).alloc (Nat.le_refl _) (Obj.cells #[.string ⟨#[]⟩,.string ⟨#[]⟩,.int .i64 0,.int .i64 0,.int .i64 0,.int .i64 0,.slice none 0 0,.slice none 0 0] 26))
    have ownT_1:=RowG.own_below ownT0 ((Below.refl W.heap.size W).alloc (Nat.le_refl _) (Obj.cells #[.string ⟨#[]⟩,.string ⟨#[]⟩,.int .i64 0,.int .i64 0,.int .i64 0,.int .i64 0,.slice none 0 0,.slice none 0 0] 26))
    have hO_1:(W.alloc (Obj.cells #[.string ⟨#[]⟩,.string ⟨#[]⟩,.int .i64 0,.int .i64 0,.int .i64 0,.int .i64 0,.slice none 0 0,.slice none 0 0] 26)).heap[W.heap.size]? = some (.cells #[.string ⟨#[]⟩,.string ⟨#[]⟩,.int .i64 0,.int .i64 0,.int .i64 0,.int .i64 0,.slice none 0 0,.slice none 0 0] 26 (0,0)):=heap_alloc_new W _
    refine hK.out _ _ hh1 (fun _=>?_)
    clear hK K
    try simp only [Act.put,SL]
    generalize (W.alloc (Obj.cells #[.string ⟨#[]⟩,.string ⟨#[]⟩,.int .i64 0,.int .i64 0,.int .i64 0,.int .i64 0,.slice none 0 0,.slice none 0 0] 26))=k1 at *
    obtain ⟨bO,hbOx⟩:∃z,z=W.heap.size:=⟨_,rfl⟩
    rw [←hbOx] at hloO hO_1 ⊢
    exact N20_21_30.out bT bO k1 ⟨hh1,hloT,ownT_1,hloO,hO_1,trivial⟩
  ·rintro bT bH bO W ⟨hSW,hloT,ownT0,hloH,ownH0,hloO,hO0,_⟩
   refine rd 20 (⟨some 48,.call {callee:=Callee.value (.func 47),args:=#[.tmp 45,.tmp 47],argTypes:=#[2,2]},2,"l07_window.go:85",#[⟨17,.data⟩,⟨19,.data⟩],none⟩) (fun K hK=>?_)
   go_simp
   go_at_call 47
   refine (HMX.out _).mono ?_
   rintro e q1 ⟨rfl,hq1⟩
   have hqb1:Below W.heap.size W q1:=by rw [hq1];exact Below.refl _ _
   clear hq1
   try go_wp2_with fail
   have hh1:=hSW.below hqb1
   have ownT_1:=RowG.own_below ownT0 hqb1
   have ownH_1:=RowG.own_below ownH0 hqb1
   have hO_1:=(hqb1.block bO (lt_heap hO0)).trans hO0
   refine hK.out _ _ hh1 (fun _=>?_)
   clear hK K
   try simp only [Act.put,SL]
   exact N20_21_25_30.out bT bH bO q1 ⟨hh1,hloT,ownT_1,hloH,ownH_1,hloO,hO_1,trivial⟩
  ·rintro bH bO W ⟨hSW,hloH,ownH0,hloO,hO0,_⟩
   refine rd 21 (⟨some 49,.buildSlice 23 0 #[],23,"l07_window.go:85",#[],none⟩) (fun K hK=>?_)
   go_simp
   try go_wp2_with fail
   have hloT:W0.heap.size≤W.heap.size:=(hSW).1.size
   have hh1:=hSW.below ((Below.refl W.heap.size W).alloc (Nat.le_refl _) (Obj.cells #[] 9))
   have ownH_1:=RowG.own_below ownH0 ((Below.refl W.heap.size W).alloc (Nat.le_refl _) (Obj.cells #[] 9))
   have hO_1:=(((Below.refl W.heap.size W).alloc (Nat.le_refl _) (Obj.cells #[] 9)).block bO (lt_heap hO0)).trans hO0
   have ownT_1:(W.alloc (Obj.cells #[] 9)).ownsRow W0.heap.size 9 1 (.slice (some ⟨W.heap.size,0,none⟩) 0 0) 0 []:=World.ownsRow_made W #[] 0 hloT (by unfold maxLen;omega) (by simp)
   refine hK.out _ _ hh1 (fun _=>?_)
   clear hK K
   try simp only [Act.put,SL]
   generalize (W.alloc (Obj.cells #[] 9))=k1 at *
   obtain ⟨bT,hbTx⟩:∃z,z=W.heap.size:=⟨_,rfl⟩
   rw [←hbTx] at hloT ownT_1 ⊢
   exact N20_21_25_30.out bT bH bO k1 ⟨hh1,hloT,ownT_1,hloH,ownH_1,hloO,hO_1,trivial⟩
  ·rintro bT bO W ⟨hSW,hloT,ownT0,hloO,hO0,_⟩
   refine wpAnyH_ready (rs:=[24,25]) (by kernel_rfl) (by simp) ?_
   refine AllReadyH.cons (o:=⟨some 52,.call {callee:=Callee.builtin Builtin.append,args:=#[.tmp 49,.tmp 51],argTypes:=#[23,23]},23,"l07_window.go:85",#[⟨21,.data⟩,⟨23,.data⟩,⟨20,.chain⟩],none⟩) rfl (fun K hK=>?_) (AllReadyH.cons (o:=⟨some 53,.buildSlice 24 0 #[],24,"l07_window.go:85",#[],none⟩) rfl (fun K hK=>?_) AllReadyH.nil)
   ·refine LinStep.step_append_whole rfl _ _ 23 rfl W0.heap.size 9 i0 (.string ⟨#[]⟩) 1 16 Tryd.underlying23 hi hz0 hz1 hz2 rfl szT3 bT rfl ownT0 ta1 tl1 tc1 (RowG.cellsAll tcells ts1) rfl HLT.out (tnews HTA.out (HB0.out.trans ((hSW).1.mono HB0.out.size)) HET.out) (tone ts1) szT1 szT2 ((hSW).1.size) ?_
    intro vT g1 hown hgrow hnnT
    have hgr1:W.grownBy g1 (some bT):=hgrow
    have ownT_1:g1.ownsRow W0.heap.size 9 1 vT tl1 (RowG.cellsAll tcells ts1):=by simpa using hown
    obtain ⟨bT',cT',rfl,hleT,hcmT⟩:=own_some2 ownT_1 hnnT
    have hh1:=hSW.grown hloT a0 b0 r0 hgr1
    have hO_1:=(hgr1.block bO (lt_heap hO0) (fun e=>own_ne_heap ownT0 hO0 (by decide) _ rfl (by simpa using e.symm))).trans hO0
    clear hown hgrow hnnT
    refine hK.out _ _ hh1 (fun _=>?_)
    clear hK K
    try simp only [Act.put,SL]
    exact N20_21_24_30.out bT bT' cT' bO g1 ⟨hh1,ownT_1,hleT,hcmT,hloO,hO_1,trivial⟩
   ·go_simp
    try go_wp2_with fail
    have hloH:W0.heap.size≤W.heap.size:=(hSW).1.size
    have hh1:=hSW.below ((Below.refl W.heap.size W).alloc (Nat.le_refl _) (Obj.cells #[] 87))
    have ownT_1:=RowG.own_below ownT0 ((Below.refl W.heap.size W).alloc (Nat.le_refl _) (Obj.cells #[] 87))
    have hO_1:=(((Below.refl W.heap.size W).alloc (Nat.le_refl _) (Obj.cells #[] 87)).block bO (lt_heap hO0)).trans hO0
    have ownH_1:(W.alloc (Obj.cells #[] 87)).ownsRow W0.heap.size 87 2 (.slice (some ⟨W.heap.size,0,none⟩) 0 0) 0 []:=World.ownsRow_made W #[] 0 hloH (by unfold maxLen;omega) (by simp)
    refine hK.out _ _ hh1 (fun _=>?_)
    clear hK K
    try simp only [Act.put,SL]
    generalize (W.alloc (Obj.cells #[] 87))=k1 at *
    obtain ⟨bH,hbHx⟩:∃z,z=W.heap.size:=⟨_,rfl⟩
    rw [←hbHx] at hloH ownH_1 ⊢
    exact N20_21_25_30.out bT bH bO k1 ⟨hh1,hloT,ownT_1,hloH,ownH_1,hloO,hO_1,trivial⟩
  ·rintro bT bH W ⟨hSW,hloT,ownT0,hloH,ownH0,_⟩
   refine wpAnyH_ready (rs:=[24,30]) (by kernel_rfl) (by simp) ?_
   refine AllReadyH.cons (o:=⟨some 52,.call {callee:=Callee.builtin Builtin.append,args:=#[.tmp 49,.tmp 51],argTypes:=#[23,23]},23,"l07_window.go:85",#[⟨21,.data⟩,⟨23,.data⟩,⟨20,.chain⟩],none⟩) rfl (fun K hK=>?_) (AllReadyH.cons (o:=⟨some 5,.alloc 26,0,"l07_window.go:85",#[],none⟩) rfl (fun K hK=>?_) AllReadyH.nil)
   ·refine LinStep.step_append_whole rfl _ _ 23 rfl W0.heap.size 9 i0 (.string ⟨#[]⟩) 1 16 Tryd.underlying23 hi hz0 hz1 hz2 rfl szT3 bT rfl ownT0 ta1 tl1 tc1 (RowG.cellsAll tcells ts1) rfl HLT.out (tnews HTA.out (HB0.out.trans ((hSW).1.mono HB0.out.size)) HET.out) (tone ts1) szT1 szT2 ((hSW).1.size) ?_
    intro vT g1 hown hgrow hnnT
    have hgr1:W.grownBy g1 (some bT):=hgrow
    have ownT_1:g1.ownsRow W0.heap.size 9 1 vT tl1 (RowG.cellsAll tcells ts1):=by simpa using hown
    obtain ⟨bT',cT',rfl,hleT,hcmT⟩:=own_some2 ownT_1 hnnT
    have hh1:=hSW.grown hloT a0 b0 r0 hgr1
    have ownH_1:=own_far ownH0 hgr1 (fun b hb=>own_ne_own ownH0 ownT0 (by decide) b hb _ rfl)
    clear hown hgrow hnnT
    refine hK.out _ _ hh1 (fun _=>?_)
    clear hK K
    try simp only [Act.put,SL]
    exact N20_21_24_25.out bT bT' cT' bH g1 ⟨hh1,ownT_1,hleT,hcmT,hloH,ownH_1,trivial⟩
   ·go_simp
    try go_wp2_with fail
    have hloO:W0.heap.size≤W.heap.size:=(hSW).1.size
    have hh1:=hSW.below ((Below.refl W.heap.size W).alloc (Nat.le_refl _) (Obj.cells #[.string ⟨#[]⟩,.string ⟨#[]⟩,.int .i64 0,.int .i64 0,.int .i64 0,.int .i64 0,.slice none 0 0,.slice none 0 0] 26))
    have ownT_1:=RowG.own_below ownT0 ((Below.refl W.heap.size W).alloc (Nat.le_refl _) (Obj.cells #[.string ⟨#[]⟩,.string ⟨#[]⟩,.int .i64 0,.int .i64 0,.int .i64 0,.int .i64 0,.slice none 0 0,.slice none 0 0] 26))
    have ownH_1:=RowG.own_below ownH0 ((Below.refl W.heap.size W).alloc (Nat.le_refl _) (Obj.cells #[.string ⟨#[]⟩,.string ⟨#[]⟩,.int .i64 0,.int .i64 0,.int .i64 0,.int .i64 0,.slice none 0 0,.slice none 0 0] 26))
    have hO_1:(W.alloc (Obj.cells #[.string ⟨#[]⟩,.string ⟨#[]⟩,.int .i64 0,.int .i64 0,.int .i64 0,.int .i64 0,.slice none 0 0,.slice none 0 0] 26)).heap[W.heap.size]? = some (.cells #[.string ⟨#[]⟩,.string ⟨#[]⟩,.int .i64 0,.int .i64 0,.int .i64 0,.int .i64 0,.slice none 0 0,.slice none 0 0] 26 (0,0)):=heap_alloc_new W _
    refine hK.out _ _ hh1 (fun _=>?_)
    clear hK K
    try simp only [Act.put,SL]
    generalize (W.alloc (Obj.cells #[.string ⟨#[]⟩,.string ⟨#[]⟩,.int .i64 0,.int .i64 0,.int .i64 0,.int .i64 0,.slice none 0 0,.slice none 0 0] 26))=k1 at *
    obtain ⟨bO,hbOx⟩:∃z,z=W.heap.size:=⟨_,rfl⟩
    rw [←hbOx] at hloO hO_1 ⊢
    exact N20_21_25_30.out bT bH bO k1 ⟨hh1,hloT,ownT_1,hloH,ownH_1,hloO,hO_1,trivial⟩
  ·rintro bT bT' cT' W ⟨hSW,ownT0,hleT,hcmT,_⟩
   refine wpAnyH_ready (rs:=[25,30]) (by kernel_rfl) (by simp) ?_
   refine AllReadyH.cons (o:=⟨some 53,.buildSlice 24 0 #[],24,"l07_window.go:85",#[],none⟩) rfl (fun K hK=>?_) (AllReadyH.cons (o:=⟨some 5,.alloc 26,0,"l07_window.go:85",#[],none⟩) rfl (fun K hK=>?_) AllReadyH.nil)
   ·go_simp
    try go_wp2_with fail
    have hloH:W0.heap.size≤W.heap.size:=(hSW).1.size
    have hh1:=hSW.below ((Below.refl W.heap.size W).alloc (Nat.le_refl _) (Obj.cells #[] 87))
    have ownT_1:=RowG.own_below ownT0 ((Below.refl W.heap.size W).alloc (Nat.le_refl _) (Obj.cells #[] 87))
    have ownH_1:(W.alloc (Obj.cells #[] 87)).ownsRow W0.heap.size 87 2 (.slice (some ⟨W.heap.size,0,none⟩) 0 0) 0 []:=World.ownsRow_made W #[] 0 hloH (by unfold maxLen;omega) (by simp)
    refine hK.out _ _ hh1 (fun _=>?_)
    clear hK K
    try simp only [Act.put,SL]
    generalize (W.alloc (Obj.cells #[] 87))=k1 at *
    obtain ⟨bH,hbHx⟩:∃z,z=W.heap.size:=⟨_,rfl⟩
    rw [←hbHx] at hloH ownH_1 ⊢
    exact N20_21_24_25.out bT bT' cT' bH k1 ⟨hh1,ownT_1,hleT,hcmT,hloH,ownH_1,trivial⟩
   ·go_simp
    try go_wp2_with fail
    have hloO:W0.heap.size≤W.heap.size:=(hSW).1.size
    have hh1:=hSW.below ((Below.refl W.heap.size W).alloc (Nat.le_refl _) (Obj.cells #[.string ⟨#[]⟩,.string ⟨#[]⟩,.int .i64 0,.int .i64 0,.int .i64 0,.int .i64 0,.slice none 0 0,.slice none 0 0] 26))
    have ownT_1:=RowG.own_below ownT0 ((Below.refl W.heap.size W).alloc (Nat.le_refl _) (Obj.cells #[.string ⟨#[]⟩,.string ⟨#[]⟩,.int .i64 0,.int .i64 0,.int .i64 0,.int .i64 0,.slice none 0 0,.slice none 0 0] 26))
    have hO_1:(W.alloc (Obj.cells #[.string ⟨#[]⟩,.string ⟨#[]⟩,.int .i64 0,.int .i64 0,.int .i64 0,.int .i64 0,.slice none 0 0,.slice none 0 0] 26)).heap[W.heap.size]? = some (.cells #[.string ⟨#[]⟩,.string ⟨#[]⟩,.int .i64 0,.int .i64 0,.int .i64 0,.int .i64 0,.slice none 0 0,.slice none 0 0] 26 (0,0)):=heap_alloc_new W _
    refine hK.out _ _ hh1 (fun _=>?_)
    clear hK K
    try simp only [Act.put,SL]
    generalize (W.alloc (Obj.cells #[.string ⟨#[]⟩,.string ⟨#[]⟩,.int .i64 0,.int .i64 0,.int .i64 0,.int .i64 0,.slice none 0 0,.slice none 0 0] 26))=k1 at *
    obtain ⟨bO,hbOx⟩:∃z,z=W.heap.size:=⟨_,rfl⟩
    rw [←hbOx] at hloO hO_1 ⊢
    exact N20_21_24_30.out bT bT' cT' bO k1 ⟨hh1,ownT_1,hleT,hcmT,hloO,hO_1,trivial⟩
  ·rintro bT bH bO W ⟨hSW,hloT,ownT0,hloH,ownH0,hloO,hO0,_⟩
   refine rd 24 (⟨some 52,.call {callee:=Callee.builtin Builtin.append,args:=#[.tmp 49,.tmp 51],argTypes:=#[23,23]},23,"l07_window.go:85",#[⟨21,.data⟩,⟨23,.data⟩,⟨20,.chain⟩],none⟩) (fun K hK=>?_)
   refine LinStep.step_append_whole rfl _ _ 23 rfl W0.heap.size 9 i0 (.string ⟨#[]⟩) 1 16 Tryd.underlying23 hi hz0 hz1 hz2 rfl szT3 bT rfl ownT0 ta1 tl1 tc1 (RowG.cellsAll tcells ts1) rfl HLT.out (tnews HTA.out (HB0.out.trans ((hSW).1.mono HB0.out.size)) HET.out) (tone ts1) szT1 szT2 ((hSW).1.size) ?_
   intro vT g1 hown hgrow hnnT
   have hgr1:W.grownBy g1 (some bT):=hgrow
   have ownT_1:g1.ownsRow W0.heap.size 9 1 vT tl1 (RowG.cellsAll tcells ts1):=by simpa using hown
   obtain ⟨bT',cT',rfl,hleT,hcmT⟩:=own_some2 ownT_1 hnnT
   have hh1:=hSW.grown hloT a0 b0 r0 hgr1
   have ownH_1:=own_far ownH0 hgr1 (fun b hb=>own_ne_own ownH0 ownT0 (by decide) b hb _ rfl)
   have hO_1:=(hgr1.block bO (lt_heap hO0) (fun e=>own_ne_heap ownT0 hO0 (by decide) _ rfl (by simpa using e.symm))).trans hO0
   clear hown hgrow hnnT
   refine hK.out _ _ hh1 (fun _=>?_)
   clear hK K
   try simp only [Act.put,SL]
   exact N20_21_24_25_30.out bT bT' cT' bH bO g1 ⟨hh1,ownT_1,hleT,hcmT,hloH,ownH_1,hloO,hO_1,trivial⟩
  ·rintro bT bT' cT' bO W ⟨hSW,ownT0,hleT,hcmT,hloO,hO0,_⟩
   refine rd 25 (⟨some 53,.buildSlice 24 0 #[],24,"l07_window.go:85",#[],none⟩) (fun K hK=>?_)
   go_simp
   try go_wp2_with fail
   have hloH:W0.heap.size≤W.heap.size:=(hSW).1.size
   have hh1:=hSW.below ((Below.refl W.heap.size W).alloc (Nat.le_refl _) (Obj.cells #[] 87))
   have ownT_1:=RowG.own_below ownT0 ((Below.refl W.heap.size W).alloc (Nat.le_refl _) (Obj.cells #[] 87))
   have hO_1:=(((Below.refl W.heap.size W).alloc (Nat.le_refl _) (Obj.cells #[] 87)).block bO (lt_heap hO0)).trans hO0
   have ownH_1:(W.alloc (Obj.cells #[] 87)).ownsRow W0.heap.size 87 2 (.slice (some ⟨W.heap.size,0,none⟩) 0 0) 0 []:=World.ownsRow_made W #[] 0 hloH (by unfold maxLen;omega) (by simp)
   refine hK.out _ _ hh1 (fun _=>?_)
   clear hK K
   try simp only [Act.put,SL]
   generalize (W.alloc (Obj.cells #[] 87))=k1 at *
   obtain ⟨bH,hbHx⟩:∃z,z=W.heap.size:=⟨_,rfl⟩
   rw [←hbHx] at hloH ownH_1 ⊢
   exact N20_21_24_25_30.out bT bT' cT' bH bO k1 ⟨hh1,ownT_1,hleT,hcmT,hloH,ownH_1,hloO,hO_1,trivial⟩
  ·rintro bT bT' cT' bH W ⟨hSW,ownT0,hleT,hcmT,hloH,ownH0,_⟩
   refine wpAnyH_ready (rs:=[28,30]) (by kernel_rfl) (by simp) ?_
   refine AllReadyH.cons (o:=⟨some 56,.call {callee:=Callee.builtin Builtin.append,args:=#[.tmp 53,.tmp 55],argTypes:=#[24,24]},24,"l07_window.go:85",#[⟨25,.data⟩,⟨27,.data⟩,⟨24,.chain⟩],none⟩) rfl (fun K hK=>?_) (AllReadyH.cons (o:=⟨some 5,.alloc 26,0,"l07_window.go:85",#[],none⟩) rfl (fun K hK=>?_) AllReadyH.nil)
   ·refine LinStep.step_append_own rfl _ _ 24 rfl W0.heap.size 87 j0 (.agg #[.int .i64 0,.int .i64 0]) 2 16 Tryd.underlying24 gi gz0 gz1 gz2 rfl szH3 _ _ _ rfl ownH0 ⟨hb,hf,none⟩ hl1 hc1 (RowG.cellsAll H.cells hs1) rfl HLH.out (hnews HHA.out (HB0.out.trans ((hSW).1.mono HB0.out.size))) (hrs_one hs1) szH1 szH2 ((hSW).1.size) ?_
    intro vH g1 hown hgrow hne
    have hgr1:W.grownBy g1 (some bH):=hgrow
    have ownH_1:g1.ownsRow W0.heap.size 87 2 vH hl1 (RowG.cellsAll H.cells hs1):=by simpa using hown
    have hnnH:vH≠.slice none 0 0:=fun h=>by
     have e:Value.slice (some ⟨bH,0,none⟩) 0 0=.slice none 0 0:=(hne.1 h).1
     cases e
    obtain ⟨bH',cH',rfl,hleH,hcmH⟩:=own_some2 ownH_1 hnnH
    have hh1:=hSW.grown hloH a0 b0 r0 hgr1
    have ownT_1:=own_far ownT0 hgr1 (fun b hb=>own_ne_own ownT0 ownH0 (by decide) b hb _ rfl)
    clear hown hgrow hne hnnH
    refine hK.out _ _ hh1 (fun _=>?_)
    clear hK K
    try simp only [Act.put,SL]
    refine tk 29 (⟨some 57,.build 26 #[(0,.tmp 29),(1,.tmp 31),(2,.tmp 33),(3,.tmp 38),(4,.tmp 43),(5,.tmp 48),(6,.tmp 52),(7,.tmp 56)],26,"l07_window.go:85",#[⟨1,.data⟩,⟨3,.data⟩,⟨5,.data⟩,⟨10,.data⟩,⟨15,.data⟩,⟨20,.data⟩,⟨24,.data⟩,⟨28,.data⟩],none⟩) ?_
    exact N20_21_24_25_28.out bT bT' cT' bH bH' cH' g1 ⟨hh1,ownT_1,hleT,hcmT,ownH_1,hleH,hcmH,trivial⟩
   ·go_simp
    try go_wp2_with fail
    have hloO:W0.heap.size≤W.heap.size:=(hSW).1.size
    have hh1:=hSW.below ((Below.refl W.heap.size W).alloc (Nat.le_refl _) (Obj.cells #[.string ⟨#[]⟩,.string ⟨#[]⟩,.int .i64 0,.int .i64 0,.int .i64 0,.int .i64 0,.slice none 0 0,.slice none 0 0] 26))
    have ownT_1:=RowG.own_below ownT0 ((Below.refl W.heap.size W).alloc (Nat.le_refl _) (Obj.cells #[.string ⟨#[]⟩,.string ⟨#[]⟩,.int .i64 0,.int .i64 0,.int .i64 0,.int .i64 0,.slice none 0 0,.slice none 0 0] 26))
    have ownH_1:=RowG.own_below ownH0 ((Below.refl W.heap.size W).alloc (Nat.le_refl _) (Obj.cells #[.string ⟨#[]⟩,.string ⟨#[]⟩,.int .i64 0,.int .i64 0,.int .i64 0,.int .i64 0,.slice none 0 0,.slice none 0 0] 26))
    have hO_1:(W.alloc (Obj.cells #[.string ⟨#[]⟩,.string ⟨#[]⟩,.int .i64 0,.int .i64 0,.int .i64 0,.int .i64 0,.slice none 0 0,.slice none 0 0] 26)).heap[W.heap.size]? = some (.cells #[.string ⟨#[]⟩,.string ⟨#[]⟩,.int .i64 0,.int .i64 0,.int .i64 0,.int .i64 0,.slice none 0 0,.slice none 0 0] 26 (0,0)):=heap_alloc_new W _
    refine hK.out _ _ hh1 (fun _=>?_)
    clear hK K
    try simp only [Act.put,SL]
    generalize (W.alloc (Obj.cells #[.string ⟨#[]⟩,.string ⟨#[]⟩,.int .i64 0,.int .i64 0,.int .i64 0,.int .i64 0,.slice none 0 0,.slice none 0 0] 26))=k1 at *
    obtain ⟨bO,hbOx⟩:∃z,z=W.heap.size:=⟨_,rfl⟩
    rw [←hbOx] at hloO hO_1 ⊢
    exact N20_21_24_25_30.out bT bT' cT' bH bO k1 ⟨hh1,ownT_1,hleT,hcmT,hloH,ownH_1,hloO,hO_1,trivial⟩
  ·rintro bT bT' cT' bH bO W ⟨hSW,ownT0,hleT,hcmT,hloH,ownH0,hloO,hO0,_⟩
   refine rd 28 (⟨some 56,.call {callee:=Callee.builtin Builtin.append,args:=#[.tmp 53,.tmp 55],argTypes:=#[24,24]},24,"l07_window.go:85",#[⟨25,.data⟩,⟨27,.data⟩,⟨24,.chain⟩],none⟩) (fun K hK=>?_)
   refine LinStep.step_append_own rfl _ _ 24 rfl W0.heap.size 87 j0 (.agg #[.int .i64 0,.int .i64 0]) 2 16 Tryd.underlying24 gi gz0 gz1 gz2 rfl szH3 _ _ _ rfl ownH0 ⟨hb,hf,none⟩ hl1 hc1 (RowG.cellsAll H.cells hs1) rfl HLH.out (hnews HHA.out (HB0.out.trans ((hSW).1.mono HB0.out.size))) (hrs_one hs1) szH1 szH2 ((hSW).1.size) ?_
   intro vH g1 hown hgrow hne
   have hgr1:W.grownBy g1 (some bH):=hgrow
   have ownH_1:g1.ownsRow W0.heap.size 87 2 vH hl1 (RowG.cellsAll H.cells hs1):=by simpa using hown
   have hnnH:vH≠.slice none 0 0:=fun h=>by
    have e:Value.slice (some ⟨bH,0,none⟩) 0 0=.slice none 0 0:=(hne.1 h).1
    cases e
   obtain ⟨bH',cH',rfl,hleH,hcmH⟩:=own_some2 ownH_1 hnnH
   have hh1:=hSW.grown hloH a0 b0 r0 hgr1
   have ownT_1:=own_far ownT0 hgr1 (fun b hb=>own_ne_own ownT0 ownH0 (by decide) b hb _ rfl)
   have hO_1:=(hgr1.block bO (lt_heap hO0) (fun e=>own_ne_heap ownH0 hO0 (by decide) _ rfl (by simpa using e.symm))).trans hO0
   clear hown hgrow hne hnnH
   refine hK.out _ _ hh1 (fun _=>?_)
   clear hK K
   try simp only [Act.put,SL]
   refine tk 29 (⟨some 57,.build 26 #[(0,.tmp 29),(1,.tmp 31),(2,.tmp 33),(3,.tmp 38),(4,.tmp 43),(5,.tmp 48),(6,.tmp 52),(7,.tmp 56)],26,"l07_window.go:85",#[⟨1,.data⟩,⟨3,.data⟩,⟨5,.data⟩,⟨10,.data⟩,⟨15,.data⟩,⟨20,.data⟩,⟨24,.data⟩,⟨28,.data⟩],none⟩) ?_
   exact N20_21_24_25_28_30.out bT bT' cT' bH bH' cH' bO g1 ⟨hh1,ownT_1,hleT,hcmT,ownH_1,hleH,hcmH,hloO,hO_1,trivial⟩
  ·rintro bT bT' cT' bH bH' cH' W ⟨hSW,ownT0,hleT,hcmT,ownH0,hleH,hcmH,_⟩
   refine rd 30 (⟨some 5,.alloc 26,0,"l07_window.go:85",#[],none⟩) (fun K hK=>?_)
   go_simp
   try go_wp2_with fail
   have hloO:W0.heap.size≤W.heap.size:=(hSW).1.size
   have hh1:=hSW.below ((Below.refl W.heap.size W).alloc (Nat.le_refl _) (Obj.cells #[.string ⟨#[]⟩,.string ⟨#[]⟩,.int .i64 0,.int .i64 0,.int .i64 0,.int .i64 0,.slice none 0 0,.slice none 0 0] 26))
   have ownT_1:=RowG.own_below ownT0 ((Below.refl W.heap.size W).alloc (Nat.le_refl _) (Obj.cells #[.string ⟨#[]⟩,.string ⟨#[]⟩,.int .i64 0,.int .i64 0,.int .i64 0,.int .i64 0,.slice none 0 0,.slice none 0 0] 26))
   have ownH_1:=RowG.own_below ownH0 ((Below.refl W.heap.size W).alloc (Nat.le_refl _) (Obj.cells #[.string ⟨#[]⟩,.string ⟨#[]⟩,.int .i64 0,.int .i64 0,.int .i64 0,.int .i64 0,.slice none 0 0,.slice none 0 0] 26))
   have hO_1:(W.alloc (Obj.cells #[.string ⟨#[]⟩,.string ⟨#[]⟩,.int .i64 0,.int .i64 0,.int .i64 0,.int .i64 0,.slice none 0 0,.slice none 0 0] 26)).heap[W.heap.size]? = some (.cells #[.string ⟨#[]⟩,.string ⟨#[]⟩,.int .i64 0,.int .i64 0,.int .i64 0,.int .i64 0,.slice none 0 0,.slice none 0 0] 26 (0,0)):=heap_alloc_new W _
   refine hK.out _ _ hh1 (fun _=>?_)
   clear hK K
   try simp only [Act.put,SL]
   generalize (W.alloc (Obj.cells #[.string ⟨#[]⟩,.string ⟨#[]⟩,.int .i64 0,.int .i64 0,.int .i64 0,.int .i64 0,.slice none 0 0,.slice none 0 0] 26))=k1 at *
   obtain ⟨bO,hbOx⟩:∃z,z=W.heap.size:=⟨_,rfl⟩
   rw [←hbOx] at hloO hO_1 ⊢
   exact N20_21_24_25_28_30.out bT bT' cT' bH bH' cH' bO k1 ⟨hh1,ownT_1,hleT,hcmT,ownH_1,hleH,hcmH,hloO,hO_1,trivial⟩
  ·rintro bT bT' cT' bH bH' cH' bO W ⟨hSW,ownT0,hleT,hcmT,ownH0,hleH,hcmH,hloO,hO0,_⟩
   refine rd 31 (⟨none,.store 26 (.tmp 5) (.tmp 57),0,"l07_window.go:85",#[⟨30,.data⟩,⟨29,.data⟩,⟨28,.chain⟩,⟨0,.phase⟩,⟨1,.phase⟩,⟨2,.phase⟩,⟨3,.phase⟩,⟨4,.phase⟩,⟨5,.phase⟩,⟨6,.phase⟩,⟨7,.phase⟩,⟨8,.phase⟩,⟨9,.phase⟩,⟨10,.phase⟩,⟨11,.phase⟩,⟨12,.phase⟩,⟨13,.phase⟩,⟨14,.phase⟩,⟨15,.phase⟩,⟨16,.phase⟩,⟨17,.phase⟩,⟨18,.phase⟩,⟨19,.phase⟩,⟨20,.phase⟩,⟨21,.phase⟩,⟨22,.phase⟩,⟨23,.phase⟩,⟨24,.phase⟩,⟨25,.phase⟩,⟨26,.phase⟩,⟨27,.phase⟩,⟨28,.phase⟩,⟨29,.phase⟩,⟨30,.phase⟩],none⟩) (fun K hK=>?_)
   have hTO:=own_ne_heap ownT0 hO0 (by decide) _ rfl
   have hTH:=own_ne_own ownT0 ownH0 (by decide) _ rfl _ rfl
   have hpO:=pt_heap hO0
   have zl1:=hpO.lt
   obtain ⟨e1_0,u1_0⟩:=hpO.has 0 (by simp)
   have w1_0:=hpO.free 0 (by simp)
   obtain ⟨e1_1,u1_1⟩:=hpO.has 1 (by simp)
   have w1_1:=hpO.free 1 (by simp)
   obtain ⟨e1_2,u1_2⟩:=hpO.has 2 (by simp)
   have w1_2:=hpO.free 2 (by simp)
   obtain ⟨e1_3,u1_3⟩:=hpO.has 3 (by simp)
   have w1_3:=hpO.free 3 (by simp)
   obtain ⟨e1_4,u1_4⟩:=hpO.has 4 (by simp)
   have w1_4:=hpO.free 4 (by simp)
   obtain ⟨e1_5,u1_5⟩:=hpO.has 5 (by simp)
   have w1_5:=hpO.free 5 (by simp)
   obtain ⟨e1_6,u1_6⟩:=hpO.has 6 (by simp)
   have w1_6:=hpO.free 6 (by simp)
   obtain ⟨e1_7,u1_7⟩:=hpO.has 7 (by simp)
   have w1_7:=hpO.free 7 (by simp)
   go_simp
   try go_wp2_with fail
   have hg1:=StR.stL_grown bO [.string a1,.string m1,.int .i64 mo1,.int .i64 EV,.int .i64 SU,.int .i64 MX,.slice (some ⟨bT',0,none⟩) tl1 cT',.slice (some ⟨bH',0,none⟩) hl1 cH'] 0 W
   have hbO:=StR.stL_blk (vs:=[.string a1,.string m1,.int .i64 mo1,.int .i64 EV,.int .i64 SU,.int .i64 MX,.slice (some ⟨bT',0,none⟩) tl1 cT',.slice (some ⟨bH',0,none⟩) hl1 cH']) (W:=W) hpO (by simp)
   have hpP:=StR.stL_pt [.string a1,.string m1,.int .i64 mo1,.int .i64 EV,.int .i64 SU,.int .i64 MX,.slice (some ⟨bT',0,none⟩) tl1 cT',.slice (some ⟨bH',0,none⟩) hl1 cH'] 0 W hpO
   have hh1:=hSW.grown hloO a0 b0 r0 hg1
   have ownT_1:=own_far ownT0 hg1 (own_ne_heap ownT0 hO0 (by decide))
   have ownH_1:=own_far ownH0 hg1 (own_ne_heap ownH0 hO0 (by decide))
   simp only [StR.stL,Nat.zero_add,Nat.reduceAdd] at hh1 hg1 hbO hpP ownT_1 ownH_1
   refine hK.out _ _ hh1 (fun _=>?_)
   clear hK K
   try simp only [Act.put,SL]
   generalize ((((((((W.setCell ⟨bO,0,none⟩ (.string a1)).setCell ⟨bO,1,none⟩ (.string m1)).setCell ⟨bO,2,none⟩ (.int .i64 mo1)).setCell ⟨bO,3,none⟩ (.int .i64 EV)).setCell ⟨bO,4,none⟩ (.int .i64 SU)).setCell ⟨bO,5,none⟩ (.int .i64 MX)).setCell ⟨bO,6,none⟩ (.slice (some ⟨bT',0,none⟩) tl1 cT')).setCell ⟨bO,7,none⟩ (.slice (some ⟨bH',0,none⟩) hl1 cH'))=k1 at *
   refine wpAnyH_done (by kernel_rfl) ?_ _
   have HE:=H_ (show JX W0 w.heap.size (w.heap.size+1) (w.heap.size+1+1) a1 m1 mo1 ev1 su1 mx1 ta1 tl1 tc1 (some ⟨hb,hf,none⟩) hl1 hc1 a1 m1 mo1 ev2 su2 mx2 ta2 tl2 tc2 ha2 hl2 hc2 k1 from hh1)
   have HT:=H_ (tgo_of ownT_1 HET.out)
   have HH:=H_ (own_hrs2 ownH_1 HEH.out)
   have HBO:=H_ hbO
   have HPO:=H_ hpP
   have HLE:=H_ ((⟨hleT,hcmT,hleH,hcmH,hloO,(ownT_1.lt _ rfl).1,(ownH_1.lt _ rfl).1,hTO,hTH⟩:tl1≤cT'∧cT'≤maxLen∧hl1≤cH'∧cH'≤maxLen∧W0.heap.size≤bO∧W0.heap.size≤bT'∧W0.heap.size≤bH'∧bT'≠bO∧bT'≠bH'))
   try clear u1_7
   try clear u1_6
   try clear u1_5
   try clear u1_4
   try clear u1_3
   try clear u1_2
   try clear u1_1
   try clear u1_0
   try clear ownH_1
   try clear ownT_1
   try clear hh1
   try clear hpP
   try clear hbO
   try clear hg1
   try clear w1_7
   try clear w1_6
   try clear w1_5
   try clear w1_4
   try clear w1_3
   try clear w1_2
   try clear w1_1
   try clear w1_0
   try clear zl1
   try clear hpO
   try clear hTH
   try clear hTO
   go_wp2_with fail
   go_meet
   case rel=>exact ⟨_,_,_,_,_,rfl,HBO,HPO,HT,HH,HE,HLE⟩
 case rest =>
  obtain ⟨bO,bT',cT',bH',cH',rfl,HBO,HPO,HT,HH,HE,HLE⟩:=hcut
  clear HX0 HX1 HW
  have a0:w.heap.size<W0.heap.size:=by have:=HSZ.out;omega
  have b0:w.heap.size+1<W0.heap.size:=by have:=HSZ.out;omega
  have r0:w.heap.size+1+1<W0.heap.size:=by have:=HSZ.out;omega
  have HLO:=H_ HLE.out.2.2.2.2.1
  have HLE1:Hid ((lt2 ts1 ts2 0).length≤cT'∧cT'≤maxLen∧W0.heap.size≤bT'∧bT'≠bO∧bT'≠bH'):=H_ ⟨by have h1:=HLE.out.1;have h2:=HET.out;simp only [lt2,List.take_zero,List.foldl_nil];omega,HLE.out.2.1,HLE.out.2.2.2.2.2.1,HLE.out.2.2.2.2.2.2.2.1,HLE.out.2.2.2.2.2.2.2.2⟩
  have HLE2:Hid ((lh2 hs1 hs2 0).length≤cH'∧cH'≤maxLen∧W0.heap.size≤bH'):=H_ ⟨by have h1:=HLE.out.2.2.1;have h2:=HEH.out;simp only [lh2,List.take_zero,List.foldl_nil];omega,HLE.out.2.2.2.1,HLE.out.2.2.2.2.2.2.1⟩
  rw [show tl1=(lt2 ts1 ts2 0).length from HET.out] at HBO
  clear HLE HTA HHA HMX HLT HLH
  have ltl2:tl2≤1048575:=by have:=HTT.out;have:=HET2.out;omega
  have lhl2:hl2≤1048575:=by have:=HHH.out;have:=HEH2.out;omega
  go_wp2_with fail
  go_loopw [6] (fun z wr=>∃(k b1 o1 c1:Nat),k≤tl2∧z=.int .i64 k∧Hid (Blk bO [.string a1,.string m1,.int .i64 mo1,.int .i64 EV,.int .i64 SU,.int .i64 MX,.slice (some ⟨b1,o1,none⟩) (lt2 ts1 ts2 k).length c1,.slice (some ⟨bH',0,none⟩) hl1 cH'] wr)∧Hid (Pt bO 8 wr)∧Hid (TgO W0.heap.size (some ⟨b1,o1,none⟩) (lt2 ts1 ts2 k) c1 wr)∧Hid ((lt2 ts1 ts2 k).length≤c1∧c1≤maxLen∧W0.heap.size≤b1∧b1≠bO∧b1≠bH')∧Hid (Hrs (some ⟨bH',0,none⟩) hs1 wr)∧Hid (JX W0 w.heap.size (w.heap.size+1) (w.heap.size+1+1) a1 m1 mo1 ev1 su1 mx1 ta1 tl1 tc1 (some ⟨hb,hf,none⟩) hl1 hc1 a1 m1 mo1 ev2 su2 mx2 ta2 tl2 tc2 ha2 hl2 hc2 wr)) (fun z _=>tl2-(intOf z).toNat)
  case atStart=>exact ⟨0,bT',0,cT',by omega,rfl,HBO,HPO,HT,HLE1,HH,HE⟩
  case round =>
   obtain ⟨k,b1,o1,c1,hk,rfl,HBO,HPO,HT,HLC,HH,HE⟩:=hrel
   have lB:w.heap.size+1<wr.heap.size:=HE.out.2.2.1
   have y6:wr.cell? ⟨w.heap.size+1,6,none⟩=some (.slice ta2 tl2 tc2):=HE.out.2.2.2.2.2.2.2.2.2.2.2.2.2.2.2.2.2.1
   by_cases hlt:k<tl2
   ·have hlt2:(k:Int)<(tl2:Int):=by omega
    have HBWR:=H_ (HB0.out.trans (HE.out.1.mono HB0.out.size))
    obtain ⟨b3,o3,rfl,hbl,d0⟩:=(HTB.out.below HBWR.out).at k (by have:=HET2.out;omega)
    have HN:=H_ (lt2_more ts1 ts2 k (by have:=HET2.out;omega))
    have HLN:=H_ (lt2_len ts1 ts2 k (by have:=HET2.out;omega))
    have HC:=H_ (fun W (hb:Below wr.heap.size wr W)=>stext b1 o1 c1 (lt2 ts1 ts2 k) (ts2.getD k tz) W (by have:=HLN.out;have:=HTT.out;have:=HET2.out;omega) HLC.out.1 HLC.out.2.1 (HT.out.1.below hb) W0.heap.size (Nat.le_trans HE.out.1.size hb.size) (RowG.own_below HT.out.2 hb))
    rw [←HN.out] at HC
    generalize ts2.getD k tz=tg at *
    have hwd:=(Below.refl wr.heap.size wr).drew
    have o6':=HBO.out.2 6 (by simp)
    simp only [List.getElem?_cons_zero,List.getElem?_cons_succ] at o6'
    have p1:wr.drew.cell? ⟨bO,6,none⟩=some (.slice (some ⟨b1,o1,none⟩) (lt2 ts1 ts2 k).length c1):=o6'
    have p2:wr.drew.cell? ⟨w.heap.size+1,6,none⟩=some (.slice (some ⟨b3,o3,none⟩) tl2 tc2):=y6
    have p3:wr.drew.cell? ⟨b3,o3+k,none⟩=some (.string tg):=d0
    have s1:w.heap.size+1<wr.drew.heap.size:=lB
    have s2:b3<wr.drew.heap.size:=hbl
    have s3:bO<wr.drew.heap.size:=HPO.out.lt
    go_wp2_with fail
    refine wp_region_held_drew (S:=(fun W=>w.heap.size+1<W.heap.size∧b3<W.heap.size∧bO<W.heap.size)) (by kernel_rfl) ⟨s1,s2,s3⟩ (fun hHeld=>?_)
    generalize wr.drew=wd at *
    refine tk 0 (⟨some 65,.fieldAddr 26 (.tmp 5) 6,0,"l07_window.go:87",#[],none⟩) ?_
    refine tk 2 (⟨some 67,.fieldAddr 26 (.tmp 3) 6,0,"l07_window.go:87",#[],none⟩) ?_
    refine tk 4 (⟨some 69,.move (.tmp 6),3,"l07_window.go:87",#[],none⟩) ?_
    refine wpAnyH_ready (rs:=[1,3]) (by kernel_rfl) (by simp) ?_
    refine AllReadyH.cons (o:=⟨some 66,.load 23 (.tmp 65),23,"l07_window.go:87",#[⟨0,.data⟩],none⟩) rfl (fun K hK=>?_) (AllReadyH.cons (o:=⟨some 68,.load 23 (.tmp 67),23,"l07_window.go:87",#[⟨2,.data⟩],none⟩) rfl (fun K hK=>?_) AllReadyH.nil)
    ·go_simp
     try go_wp2_with fail
     refine hK.out _ _ ⟨s1,s2,s3⟩ (fun _=>?_)
     clear hK K
     try simp only [Act.put,SL]
     refine rd 3 (⟨some 68,.load 23 (.tmp 67),23,"l07_window.go:87",#[⟨2,.data⟩],none⟩) (fun K hK=>?_)
     go_simp
     try go_wp2_with fail
     refine hK.out _ _ ⟨s1,s2,s3⟩ (fun _=>?_)
     clear hK K
     try simp only [Act.put,SL]
     refine tk 5 (⟨some 70,.indexAddr 23 (.tmp 68) (.tmp 69),0,"l07_window.go:87",#[⟨3,.data⟩,⟨4,.data⟩],none⟩) ?_
     refine rd 6 (⟨some 71,.load 9 (.tmp 70),9,"l07_window.go:87",#[⟨5,.data⟩],none⟩) (fun K hK=>?_)
     go_simp
     try go_wp2_with fail
     refine hK.out _ _ ⟨s1,s2,s3⟩ (fun _=>?_)
     clear hK K
     try simp only [Act.put,SL]
     refine rd 7 (⟨some 72,.call {callee:=Callee.value (.func 48),args:=#[.tmp 66,.tmp 71],argTypes:=#[23,9]},23,"l07_window.go:87",#[⟨1,.data⟩,⟨6,.data⟩],none⟩) (fun K hK=>?_)
     go_simp
     go_at_call 48
     refine (HC.out _ hwd).mono ?_
     rintro e q1 ⟨b9,o9,c9,rfl,hT9,hl9,hm9,hn9,hq9⟩
     try go_wp2_with fail
     have s1':=Nat.lt_of_lt_of_le s1 hq9.size
     have s2':=Nat.lt_of_lt_of_le s2 hq9.size
     have s3':=Nat.lt_of_lt_of_le s3 hq9.size
     refine hK.out _ _ ⟨s1',s2',s3'⟩ (fun _=>?_)
     clear hK K
     try simp only [Act.put,SL]
     refine tk 8 (⟨some 73,.fieldAddr 26 (.tmp 5) 6,0,"l07_window.go:87",#[⟨0,.phase⟩,⟨1,.phase⟩,⟨2,.phase⟩,⟨3,.phase⟩,⟨4,.phase⟩,⟨5,.phase⟩,⟨6,.phase⟩,⟨7,.phase⟩],none⟩) ?_
     refine rd 9 (⟨none,.store 23 (.tmp 73) (.tmp 72),0,"l07_window.go:87",#[⟨8,.data⟩,⟨7,.data⟩,⟨7,.chain⟩,⟨0,.phase⟩,⟨1,.phase⟩,⟨2,.phase⟩,⟨3,.phase⟩,⟨4,.phase⟩,⟨5,.phase⟩,⟨6,.phase⟩,⟨7,.phase⟩],none⟩) (fun K hK=>?_)
     have hq0:Below wr.heap.size wr q1:=hwd.trans (hq9.mono hwd.size)
     have hpq:=HPO.out.below hq0
     have hbq:=HBO.out.below hq0
     have hHq:=HH.out.below hq0
     have hEq:=HE.out.below hq0
     have oq:=hbq.2 6 (by simp)
     simp only [List.getElem?_cons_zero,List.getElem?_cons_succ] at oq
     have fq:=hpq.free 6 (by omega)
     clear p1 p2 p3
     go_simp
     try go_wp2_with fail
     have hgq:=RowG.grown_set q1 bO 6 (.slice (some ⟨b9,o9,none⟩) (lt2 ts1 ts2 (k+1)).length c9)
     have hb2:=blk_set hbq hpq 6 (by simp) (.slice (some ⟨b9,o9,none⟩) (lt2 ts1 ts2 (k+1)).length c9)
     have hp2:=hpq.set 6 (.slice (some ⟨b9,o9,none⟩) (lt2 ts1 ts2 (k+1)).length c9)
     have hE2:=hEq.grown HLO.out a0 b0 r0 hgq
     have hT2:=TgO.far hT9 hgq (fun b off e=>by cases e;have:=HLC.out.2.2.2.1;omega)
     have hH2:=rws_set (v:=.slice (some ⟨b9,o9,none⟩) (lt2 ts1 ts2 (k+1)).length c9) hHq oq (h_ne _ _ _)
     refine hK.out _ _ ⟨by simpa using s1',by simpa using s2',by simpa using s3'⟩ (fun _=>?_)
     clear hK K
     try simp only [Act.put,SL]
     refine wpAnyH_done (by kernel_rfl) ?_ _
     have HB9:=H_ hb2
     have HP9:=H_ hp2
     have HT9:=H_ hT2
     have HH9:=H_ hH2
     have HE9:=H_ (show JX W0 w.heap.size (w.heap.size+1) (w.heap.size+1+1) a1 m1 mo1 ev1 su1 mx1 ta1 tl1 tc1 (some ⟨hb,hf,none⟩) hl1 hc1 a1 m1 mo1 ev2 su2 mx2 (some ⟨b3,o3,none⟩) tl2 tc2 ha2 hl2 hc2 _ from hE2)
     have hw0:W0.heap.size≤wd.heap.size:=Nat.le_trans HE.out.1.size hwd.size
     have hbh:=hrs_lt HH.out HH1.out
     have hbd:=hwd.size
     have HL9:=H_ ((⟨hl9,hm9,by have:=HLC.out.2.2.1;omega,by have:=HLC.out.2.2.2.1;omega,by have:=HLC.out.2.2.2.2;omega⟩:_∧_∧W0.heap.size≤b9∧b9≠bO∧b9≠bH'))
     clear hbh hbd
     clear hw0 hn9
     clear hb2 hp2 hT2 hH2 hE2 hgq oq fq hpq hbq hHq hEq hT9 hq9 hq0 s1 s2 s3 s1' s2' s3' hwd
     go_wp2_with fail
     go_roundw
     case rel=>exact ⟨k+1,b9,o9,c9,by omega,by go_num,HB9,HP9,HT9,HL9,HH9,HE9⟩
     case measure=>simp [intOf];omega
    ·go_simp
     try go_wp2_with fail
     refine hK.out _ _ ⟨s1,s2,s3⟩ (fun _=>?_)
     clear hK K
     try simp only [Act.put,SL]
     refine tk 5 (⟨some 70,.indexAddr 23 (.tmp 68) (.tmp 69),0,"l07_window.go:87",#[⟨3,.data⟩,⟨4,.data⟩],none⟩) ?_
     refine wpAnyH_ready (rs:=[1,6]) (by kernel_rfl) (by simp) ?_
     refine AllReadyH.cons (o:=⟨some 66,.load 23 (.tmp 65),23,"l07_window.go:87",#[⟨0,.data⟩],none⟩) rfl (fun K hK=>?_) (AllReadyH.cons (o:=⟨some 71,.load 9 (.tmp 70),9,"l07_window.go:87",#[⟨5,.data⟩],none⟩) rfl (fun K hK=>?_) AllReadyH.nil)
     ·go_simp
      try go_wp2_with fail
      refine hK.out _ _ ⟨s1,s2,s3⟩ (fun _=>?_)
      clear hK K
      try simp only [Act.put,SL]
      refine rd 6 (⟨some 71,.load 9 (.tmp 70),9,"l07_window.go:87",#[⟨5,.data⟩],none⟩) (fun K hK=>?_)
      go_simp
      try go_wp2_with fail
      refine hK.out _ _ ⟨s1,s2,s3⟩ (fun _=>?_)
      clear hK K
      try simp only [Act.put,SL]
      refine rd 7 (⟨some 72,.call {callee:=Callee.value (.func 48),args:=#[.tmp 66,.tmp 71],argTypes:=#[23,9]},23,"l07_window.go:87",#[⟨1,.data⟩,⟨6,.data⟩],none⟩) (fun K hK=>?_)
      go_simp
      go_at_call 48
      refine (HC.out _ hwd).mono ?_
      rintro e q1 ⟨b9,o9,c9,rfl,hT9,hl9,hm9,hn9,hq9⟩
      try go_wp2_with fail
      have s1':=Nat.lt_of_lt_of_le s1 hq9.size
      have s2':=Nat.lt_of_lt_of_le s2 hq9.size
      have s3':=Nat.lt_of_lt_of_le s3 hq9.size
      refine hK.out _ _ ⟨s1',s2',s3'⟩ (fun _=>?_)
      clear hK K
      try simp only [Act.put,SL]
      refine tk 8 (⟨some 73,.fieldAddr 26 (.tmp 5) 6,0,"l07_window.go:87",#[⟨0,.phase⟩,⟨1,.phase⟩,⟨2,.phase⟩,⟨3,.phase⟩,⟨4,.phase⟩,⟨5,.phase⟩,⟨6,.phase⟩,⟨7,.phase⟩],none⟩) ?_
      refine rd 9 (⟨none,.store 23 (.tmp 73) (.tmp 72),0,"l07_window.go:87",#[⟨8,.data⟩,⟨7,.data⟩,⟨7,.chain⟩,⟨0,.phase⟩,⟨1,.phase⟩,⟨2,.phase⟩,⟨3,.phase⟩,⟨4,.phase⟩,⟨5,.phase⟩,⟨6,.phase⟩,⟨7,.phase⟩],none⟩) (fun K hK=>?_)
      have hq0:Below wr.heap.size wr q1:=hwd.trans (hq9.mono hwd.size)
      have hpq:=HPO.out.below hq0
      have hbq:=HBO.out.below hq0
      have hHq:=HH.out.below hq0
      have hEq:=HE.out.below hq0
      have oq:=hbq.2 6 (by simp)
      simp only [List.getElem?_cons_zero,List.getElem?_cons_succ] at oq
      have fq:=hpq.free 6 (by omega)
      clear p1 p2 p3
      go_simp
      try go_wp2_with fail
      have hgq:=RowG.grown_set q1 bO 6 (.slice (some ⟨b9,o9,none⟩) (lt2 ts1 ts2 (k+1)).length c9)
      have hb2:=blk_set hbq hpq 6 (by simp) (.slice (some ⟨b9,o9,none⟩) (lt2 ts1 ts2 (k+1)).length c9)
      have hp2:=hpq.set 6 (.slice (some ⟨b9,o9,none⟩) (lt2 ts1 ts2 (k+1)).length c9)
      have hE2:=hEq.grown HLO.out a0 b0 r0 hgq
      have hT2:=TgO.far hT9 hgq (fun b off e=>by cases e;have:=HLC.out.2.2.2.1;omega)
      have hH2:=rws_set (v:=.slice (some ⟨b9,o9,none⟩) (lt2 ts1 ts2 (k+1)).length c9) hHq oq (h_ne _ _ _)
      refine hK.out _ _ ⟨by simpa using s1',by simpa using s2',by simpa using s3'⟩ (fun _=>?_)
      clear hK K
      try simp only [Act.put,SL]
      refine wpAnyH_done (by kernel_rfl) ?_ _
      have HB9:=H_ hb2
      have HP9:=H_ hp2
      have HT9:=H_ hT2
      have HH9:=H_ hH2
      have HE9:=H_ (show JX W0 w.heap.size (w.heap.size+1) (w.heap.size+1+1) a1 m1 mo1 ev1 su1 mx1 ta1 tl1 tc1 (some ⟨hb,hf,none⟩) hl1 hc1 a1 m1 mo1 ev2 su2 mx2 (some ⟨b3,o3,none⟩) tl2 tc2 ha2 hl2 hc2 _ from hE2)
      have hw0:W0.heap.size≤wd.heap.size:=Nat.le_trans HE.out.1.size hwd.size
      have hbh:=hrs_lt HH.out HH1.out
      have hbd:=hwd.size
      have HL9:=H_ ((⟨hl9,hm9,by have:=HLC.out.2.2.1;omega,by have:=HLC.out.2.2.2.1;omega,by have:=HLC.out.2.2.2.2;omega⟩:_∧_∧W0.heap.size≤b9∧b9≠bO∧b9≠bH'))
      clear hbh hbd
      clear hw0 hn9
      clear hb2 hp2 hT2 hH2 hE2 hgq oq fq hpq hbq hHq hEq hT9 hq9 hq0 s1 s2 s3 s1' s2' s3' hwd
      go_wp2_with fail
      go_roundw
      case rel=>exact ⟨k+1,b9,o9,c9,by omega,by go_num,HB9,HP9,HT9,HL9,HH9,HE9⟩
      case measure=>simp [intOf];omega
     ·go_simp
      try go_wp2_with fail
      refine hK.out _ _ ⟨s1,s2,s3⟩ (fun _=>?_)
      clear hK K
      try simp only [Act.put,SL]
      refine rd 1 (⟨some 66,.load 23 (.tmp 65),23,"l07_window.go:87",#[⟨0,.data⟩],none⟩) (fun K hK=>?_)
      go_simp
      try go_wp2_with fail
      refine hK.out _ _ ⟨s1,s2,s3⟩ (fun _=>?_)
      clear hK K
      try simp only [Act.put,SL]
      refine rd 7 (⟨some 72,.call {callee:=Callee.value (.func 48),args:=#[.tmp 66,.tmp 71],argTypes:=#[23,9]},23,"l07_window.go:87",#[⟨1,.data⟩,⟨6,.data⟩],none⟩) (fun K hK=>?_)
      go_simp
      go_at_call 48
      refine (HC.out _ hwd).mono ?_
      rintro e q1 ⟨b9,o9,c9,rfl,hT9,hl9,hm9,hn9,hq9⟩
      try go_wp2_with fail
      have s1':=Nat.lt_of_lt_of_le s1 hq9.size
      have s2':=Nat.lt_of_lt_of_le s2 hq9.size
      have s3':=Nat.lt_of_lt_of_le s3 hq9.size
      refine hK.out _ _ ⟨s1',s2',s3'⟩ (fun _=>?_)
      clear hK K
      try simp only [Act.put,SL]
      refine tk 8 (⟨some 73,.fieldAddr 26 (.tmp 5) 6,0,"l07_window.go:87",#[⟨0,.phase⟩,⟨1,.phase⟩,⟨2,.phase⟩,⟨3,.phase⟩,⟨4,.phase⟩,⟨5,.phase⟩,⟨6,.phase⟩,⟨7,.phase⟩],none⟩) ?_
      refine rd 9 (⟨none,.store 23 (.tmp 73) (.tmp 72),0,"l07_window.go:87",#[⟨8,.data⟩,⟨7,.data⟩,⟨7,.chain⟩,⟨0,.phase⟩,⟨1,.phase⟩,⟨2,.phase⟩,⟨3,.phase⟩,⟨4,.phase⟩,⟨5,.phase⟩,⟨6,.phase⟩,⟨7,.phase⟩],none⟩) (fun K hK=>?_)
      have hq0:Below wr.heap.size wr q1:=hwd.trans (hq9.mono hwd.size)
      have hpq:=HPO.out.below hq0
      have hbq:=HBO.out.below hq0
      have hHq:=HH.out.below hq0
      have hEq:=HE.out.below hq0
      have oq:=hbq.2 6 (by simp)
      simp only [List.getElem?_cons_zero,List.getElem?_cons_succ] at oq
      have fq:=hpq.free 6 (by omega)
      clear p1 p2 p3
      go_simp
      try go_wp2_with fail
      have hgq:=RowG.grown_set q1 bO 6 (.slice (some ⟨b9,o9,none⟩) (lt2 ts1 ts2 (k+1)).length c9)
      have hb2:=blk_set hbq hpq 6 (by simp) (.slice (some ⟨b9,o9,none⟩) (lt2 ts1 ts2 (k+1)).length c9)
      have hp2:=hpq.set 6 (.slice (some ⟨b9,o9,none⟩) (lt2 ts1 ts2 (k+1)).length c9)
      have hE2:=hEq.grown HLO.out a0 b0 r0 hgq
      have hT2:=TgO.far hT9 hgq (fun b off e=>by cases e;have:=HLC.out.2.2.2.1;omega)
      have hH2:=rws_set (v:=.slice (some ⟨b9,o9,none⟩) (lt2 ts1 ts2 (k+1)).length c9) hHq oq (h_ne _ _ _)
      refine hK.out _ _ ⟨by simpa using s1',by simpa using s2',by simpa using s3'⟩ (fun _=>?_)
      clear hK K
      try simp only [Act.put,SL]
      refine wpAnyH_done (by kernel_rfl) ?_ _
      have HB9:=H_ hb2
      have HP9:=H_ hp2
      have HT9:=H_ hT2
      have HH9:=H_ hH2
      have HE9:=H_ (show JX W0 w.heap.size (w.heap.size+1) (w.heap.size+1+1) a1 m1 mo1 ev1 su1 mx1 ta1 tl1 tc1 (some ⟨hb,hf,none⟩) hl1 hc1 a1 m1 mo1 ev2 su2 mx2 (some ⟨b3,o3,none⟩) tl2 tc2 ha2 hl2 hc2 _ from hE2)
      have hw0:W0.heap.size≤wd.heap.size:=Nat.le_trans HE.out.1.size hwd.size
      have hbh:=hrs_lt HH.out HH1.out
      have hbd:=hwd.size
      have HL9:=H_ ((⟨hl9,hm9,by have:=HLC.out.2.2.1;omega,by have:=HLC.out.2.2.2.1;omega,by have:=HLC.out.2.2.2.2;omega⟩:_∧_∧W0.heap.size≤b9∧b9≠bO∧b9≠bH'))
      clear hbh hbd
      clear hw0 hn9
      clear hb2 hp2 hT2 hH2 hE2 hgq oq fq hpq hbq hHq hEq hT9 hq9 hq0 s1 s2 s3 s1' s2' s3' hwd
      go_wp2_with fail
      go_roundw
      case rel=>exact ⟨k+1,b9,o9,c9,by omega,by go_num,HB9,HP9,HT9,HL9,HH9,HE9⟩
      case measure=>simp [intOf];omega
   ·have hlt2:¬(k:Int)<(tl2:Int):=by omega
    obtain rfl:tl2=k:=by omega
    rw [show tl2=ts2.length from HET2.out] at HT HBO HLC
    have HLC1:=HLC
    clear HLC
    rw [show hl1=(lh2 hs1 hs2 0).length from HEH.out] at HBO
    have HLE2:=H_ ((⟨HLE2.out.1,HLE2.out.2.1,HLE2.out.2.2,HLC1.out.2.2.2.2⟩:_∧_∧W0.heap.size≤bH'∧b1≠bH'))
    obtain ⟨wz1,hwz⟩:∃wz1,wz1=wr:=⟨_,rfl⟩
    subst hwz
    go_wp2_with fail
    go_loopw [7] (fun z wr=>∃(k b2 o2 c2:Nat),k≤hl2∧z=.int .i64 k∧Hid (Blk bO [.string a1,.string m1,.int .i64 mo1,.int .i64 EV,.int .i64 SU,.int .i64 MX,.slice (some ⟨b1,o1,none⟩) (lt2 ts1 ts2 ts2.length).length c1,.slice (some ⟨b2,o2,none⟩) (lh2 hs1 hs2 k).length c2] wr)∧Hid (Pt bO 8 wr)∧Hid (Hrs (some ⟨b2,o2,none⟩) (lh2 hs1 hs2 k) wr)∧Hid ((lh2 hs1 hs2 k).length≤c2∧c2≤maxLen∧W0.heap.size≤b2∧b1≠b2)∧Hid (TgO W0.heap.size (some ⟨b1,o1,none⟩) (lt2 ts1 ts2 ts2.length) c1 wr)∧Hid (JX W0 w.heap.size (w.heap.size+1) (w.heap.size+1+1) a1 m1 mo1 ev1 su1 mx1 ta1 tl1 tc1 (some ⟨hb,hf,none⟩) hl1 hc1 a1 m1 mo1 ev2 su2 mx2 ta2 tl2 tc2 ha2 hl2 hc2 wr)) (fun z _=>hl2-(intOf z).toNat)
    case atStart=>exact ⟨0,bH',0,cH',by omega,rfl,HBO,HPO,HH,HLE2,HT,HE⟩
    case round =>
     obtain ⟨k,b2,o2,c2,hk,rfl,HBO,HPO,HT,HLC,HH,HE⟩:=hrel
     have lB:w.heap.size+1<wr.heap.size:=HE.out.2.2.1
     have y7:wr.cell? ⟨w.heap.size+1,7,none⟩=some (.slice ha2 hl2 hc2):=HE.out.2.2.2.2.2.2.2.2.2.2.2.2.2.2.2.2.2.2.1
     by_cases hlt:k<hl2
     ·have hlt2:(k:Int)<(hl2:Int):=by omega
      have HBWR:=H_ (HB0.out.trans (HE.out.1.mono HB0.out.size))
      obtain ⟨b3,o3,rfl,hbl,d0,d1⟩:=(HHB.out.below HBWR.out).at k (by have:=HEH2.out;omega)
      have HN:=H_ (lh2_more hs1 hs2 k (by have:=HEH2.out;omega))
      have HLN:=H_ (lh2_len hs1 hs2 k (by have:=HEH2.out;omega))
      have HSM:=H_ (lh2_sm (C:=1000000000000) (by omega) HSA.out HSB.out k (by have:=HEH2.out;omega))
      have HY:=H_ (HSB.out _ (RowG.getD_mem (z:=H.zero) hs2 k (by have:=HEH2.out;omega)))
      have hk12:k≤12:=by have:=HH12.out;have:=HEH2.out;omega
      have HC:=H_ (fun W (hb:Below wr.heap.size wr W) (hb2:b2<wr.heap.size)=>shour b2 o2 c2 (lh2 hs1 hs2 k) (hs2.getD k H.zero).h (hs2.getD k H.zero).s W (by have:=HLN.out;have:=HHH.out;have:=HEH2.out;omega) HLC.out.1 HLC.out.2.1 (by have:=hb.size;omega) (by have:=HY.out;omega) (fun z hz=>by have h1:=HSM.out z hz;have hq:(1000000000000:Int)*((k:Int)+1)≤1000000000000*13:=(by omega);exact ⟨h1.1,by omega⟩) (HT.out.below hb))
      have hbw:b2<wr.heap.size:=hrs_lt HT.out (lh2_pos HH1.out k (by have:=HEH2.out;omega))
      rw [←HN.out] at HC
      generalize hs2.getD k H.zero=tg at *
      obtain ⟨th,ts⟩:=tg
      dsimp only at d0 d1 HC
      have hwd:=(Below.refl wr.heap.size wr).drew
      have o7':=HBO.out.2 7 (by simp)
      simp only [List.getElem?_cons_zero,List.getElem?_cons_succ] at o7'
      have p1:wr.drew.cell? ⟨bO,7,none⟩=some (.slice (some ⟨b2,o2,none⟩) (lh2 hs1 hs2 k).length c2):=o7'
      have p2:wr.drew.cell? ⟨w.heap.size+1,7,none⟩=some (.slice (some ⟨b3,o3,none⟩) hl2 hc2):=y7
      have p3:wr.drew.cell? ⟨b3,o3+k*2,none⟩=some (.int .i64 th):=d0
      have p4:wr.drew.cell? ⟨b3,o3+k*2+1,none⟩=some (.int .i64 ts):=d1
      have s1:w.heap.size+1<wr.drew.heap.size:=lB
      have s2:b3<wr.drew.heap.size:=hbl
      have s3:bO<wr.drew.heap.size:=HPO.out.lt
      go_wp2_with fail
      refine wp_region_held_drew (S:=(fun W=>w.heap.size+1<W.heap.size∧b3<W.heap.size∧bO<W.heap.size)) (by kernel_rfl) ⟨s1,s2,s3⟩ (fun hHeld=>?_)
      generalize wr.drew=wd at *
      refine tk 0 (⟨some 81,.fieldAddr 26 (.tmp 5) 7,0,"l07_window.go:90",#[],none⟩) ?_
      refine tk 2 (⟨some 83,.fieldAddr 26 (.tmp 3) 7,0,"l07_window.go:90",#[],none⟩) ?_
      refine tk 4 (⟨some 85,.move (.tmp 7),3,"l07_window.go:90",#[],none⟩) ?_
      refine wpAnyH_ready (rs:=[1,3]) (by kernel_rfl) (by simp) ?_
      refine AllReadyH.cons (o:=⟨some 82,.load 24 (.tmp 81),24,"l07_window.go:90",#[⟨0,.data⟩],none⟩) rfl (fun K hK=>?_) (AllReadyH.cons (o:=⟨some 84,.load 24 (.tmp 83),24,"l07_window.go:90",#[⟨2,.data⟩],none⟩) rfl (fun K hK=>?_) AllReadyH.nil)
      ·go_simp
       try go_wp2_with fail
       refine hK.out _ _ ⟨s1,s2,s3⟩ (fun _=>?_)
       clear hK K
       try simp only [Act.put,SL]
       refine rd 3 (⟨some 84,.load 24 (.tmp 83),24,"l07_window.go:90",#[⟨2,.data⟩],none⟩) (fun K hK=>?_)
       go_simp
       try go_wp2_with fail
       refine hK.out _ _ ⟨s1,s2,s3⟩ (fun _=>?_)
       clear hK K
       try simp only [Act.put,SL]
       refine tk 5 (⟨some 86,.indexAddr 24 (.tmp 84) (.tmp 85),0,"l07_window.go:90",#[⟨3,.data⟩,⟨4,.data⟩],none⟩) ?_
       refine rd 6 (⟨some 87,.load 87 (.tmp 86),87,"l07_window.go:90",#[⟨5,.data⟩],none⟩) (fun K hK=>?_)
       go_simp
       try go_wp2_with fail
       refine hK.out _ _ ⟨s1,s2,s3⟩ (fun _=>?_)
       clear hK K
       try simp only [Act.put,SL]
       refine rd 7 (⟨some 88,.call {callee:=Callee.value (.func 49),args:=#[.tmp 82,.tmp 87],argTypes:=#[24,87]},24,"l07_window.go:90",#[⟨1,.data⟩,⟨6,.data⟩],none⟩) (fun K hK=>?_)
       go_simp
       go_at_call 49
       refine (HC.out _ hwd hbw).mono ?_
       rintro e q1 ⟨b9,o9,c9,rfl,hT9,hl9,hm9,hn9,hq9⟩
       try go_wp2_with fail
       have s1':=Nat.lt_of_lt_of_le s1 hq9.size
       have s2':=Nat.lt_of_lt_of_le s2 hq9.size
       have s3':=Nat.lt_of_lt_of_le s3 hq9.size
       refine hK.out _ _ ⟨s1',s2',s3'⟩ (fun _=>?_)
       clear hK K
       try simp only [Act.put,SL]
       refine tk 8 (⟨some 89,.fieldAddr 26 (.tmp 5) 7,0,"l07_window.go:90",#[⟨0,.phase⟩,⟨1,.phase⟩,⟨2,.phase⟩,⟨3,.phase⟩,⟨4,.phase⟩,⟨5,.phase⟩,⟨6,.phase⟩,⟨7,.phase⟩],none⟩) ?_
       refine rd 9 (⟨none,.store 24 (.tmp 89) (.tmp 88),0,"l07_window.go:90",#[⟨8,.data⟩,⟨7,.data⟩,⟨7,.chain⟩,⟨0,.phase⟩,⟨1,.phase⟩,⟨2,.phase⟩,⟨3,.phase⟩,⟨4,.phase⟩,⟨5,.phase⟩,⟨6,.phase⟩,⟨7,.phase⟩],none⟩) (fun K hK=>?_)
       have hq0:Below wr.heap.size wr q1:=hwd.trans (hq9.mono hwd.size)
       have hpq:=HPO.out.below hq0
       have hbq:=HBO.out.below hq0
       have hHq:=HH.out.below hq0
       have hEq:=HE.out.below hq0
       have oq:=hbq.2 7 (by simp)
       simp only [List.getElem?_cons_zero,List.getElem?_cons_succ] at oq
       have fq:=hpq.free 7 (by omega)
       clear p1 p2 p3 p4
       go_simp
       try go_wp2_with fail
       have hgq:=RowG.grown_set q1 bO 7 (.slice (some ⟨b9,o9,none⟩) (lh2 hs1 hs2 (k+1)).length c9)
       have hb2:=blk_set hbq hpq 7 (by simp) (.slice (some ⟨b9,o9,none⟩) (lh2 hs1 hs2 (k+1)).length c9)
       have hp2:=hpq.set 7 (.slice (some ⟨b9,o9,none⟩) (lh2 hs1 hs2 (k+1)).length c9)
       have hE2:=hEq.grown HLO.out a0 b0 r0 hgq
       have hT2:=rws_set (v:=.slice (some ⟨b9,o9,none⟩) (lh2 hs1 hs2 (k+1)).length c9) hT9 oq (h_ne _ _ _)
       have hH2:=TgO.far hHq hgq (fun b off e=>by cases e;exact HLC1.out.2.2.2.1)
       refine hK.out _ _ ⟨by simpa using s1',by simpa using s2',by simpa using s3'⟩ (fun _=>?_)
       clear hK K
       try simp only [Act.put,SL]
       refine wpAnyH_done (by kernel_rfl) ?_ _
       have HB9:=H_ hb2
       have HP9:=H_ hp2
       have HT9:=H_ hT2
       have HH9:=H_ hH2
       have HE9:=H_ (show JX W0 w.heap.size (w.heap.size+1) (w.heap.size+1+1) a1 m1 mo1 ev1 su1 mx1 ta1 tl1 tc1 (some ⟨hb,hf,none⟩) hl1 hc1 a1 m1 mo1 ev2 su2 mx2 ta2 tl2 tc2 (some ⟨b3,o3,none⟩) hl2 hc2 _ from hE2)
       have hw0:W0.heap.size≤wd.heap.size:=Nat.le_trans HE.out.1.size hwd.size
       have hbh:b1<wr.heap.size:=(HH.out.2.lt _ rfl).2
       have hbd:=hwd.size
       have HL9:=H_ ((⟨hl9,hm9,by have:=HLC.out.2.2.1;omega,by have:=HLC.out.2.2.2;omega⟩:_∧_∧W0.heap.size≤b9∧b1≠b9))
       clear hbh hbd
       clear hw0 hn9
       clear hb2 hp2 hT2 hH2 hE2 hgq oq fq hpq hbq hHq hEq hT9 hq9 hq0 s1 s2 s3 s1' s2' s3' hwd
       go_wp2_with fail
       go_roundw
       case rel=>exact ⟨k+1,b9,o9,c9,by omega,by go_num,HB9,HP9,HT9,HL9,HH9,HE9⟩
       case measure=>simp [intOf];omega
      ·go_simp
       try go_wp2_with fail
       refine hK.out _ _ ⟨s1,s2,s3⟩ (fun _=>?_)
       clear hK K
       try simp only [Act.put,SL]
       refine tk 5 (⟨some 86,.indexAddr 24 (.tmp 84) (.tmp 85),0,"l07_window.go:90",#[⟨3,.data⟩,⟨4,.data⟩],none⟩) ?_
       refine wpAnyH_ready (rs:=[1,6]) (by kernel_rfl) (by simp) ?_
       refine AllReadyH.cons (o:=⟨some 82,.load 24 (.tmp 81),24,"l07_window.go:90",#[⟨0,.data⟩],none⟩) rfl (fun K hK=>?_) (AllReadyH.cons (o:=⟨some 87,.load 87 (.tmp 86),87,"l07_window.go:90",#[⟨5,.data⟩],none⟩) rfl (fun K hK=>?_) AllReadyH.nil)
       ·go_simp
        try go_wp2_with fail
        refine hK.out _ _ ⟨s1,s2,s3⟩ (fun _=>?_)
        clear hK K
        try simp only [Act.put,SL]
        refine rd 6 (⟨some 87,.load 87 (.tmp 86),87,"l07_window.go:90",#[⟨5,.data⟩],none⟩) (fun K hK=>?_)
        go_simp
        try go_wp2_with fail
        refine hK.out _ _ ⟨s1,s2,s3⟩ (fun _=>?_)
        clear hK K
        try simp only [Act.put,SL]
        refine rd 7 (⟨some 88,.call {callee:=Callee.value (.func 49),args:=#[.tmp 82,.tmp 87],argTypes:=#[24,87]},24,"l07_window.go:90",#[⟨1,.data⟩,⟨6,.data⟩],none⟩) (fun K hK=>?_)
        go_simp
        go_at_call 49
        refine (HC.out _ hwd hbw).mono ?_
        rintro e q1 ⟨b9,o9,c9,rfl,hT9,hl9,hm9,hn9,hq9⟩
        try go_wp2_with fail
        have s1':=Nat.lt_of_lt_of_le s1 hq9.size
        have s2':=Nat.lt_of_lt_of_le s2 hq9.size
        have s3':=Nat.lt_of_lt_of_le s3 hq9.size
        refine hK.out _ _ ⟨s1',s2',s3'⟩ (fun _=>?_)
        clear hK K
        try simp only [Act.put,SL]
        refine tk 8 (⟨some 89,.fieldAddr 26 (.tmp 5) 7,0,"l07_window.go:90",#[⟨0,.phase⟩,⟨1,.phase⟩,⟨2,.phase⟩,⟨3,.phase⟩,⟨4,.phase⟩,⟨5,.phase⟩,⟨6,.phase⟩,⟨7,.phase⟩],none⟩) ?_
        refine rd 9 (⟨none,.store 24 (.tmp 89) (.tmp 88),0,"l07_window.go:90",#[⟨8,.data⟩,⟨7,.data⟩,⟨7,.chain⟩,⟨0,.phase⟩,⟨1,.phase⟩,⟨2,.phase⟩,⟨3,.phase⟩,⟨4,.phase⟩,⟨5,.phase⟩,⟨6,.phase⟩,⟨7,.phase⟩],none⟩) (fun K hK=>?_)
        have hq0:Below wr.heap.size wr q1:=hwd.trans (hq9.mono hwd.size)
        have hpq:=HPO.out.below hq0
        have hbq:=HBO.out.below hq0
        have hHq:=HH.out.below hq0
        have hEq:=HE.out.below hq0
        have oq:=hbq.2 7 (by simp)
        simp only [List.getElem?_cons_zero,List.getElem?_cons_succ] at oq
        have fq:=hpq.free 7 (by omega)
        clear p1 p2 p3 p4
        go_simp
        try go_wp2_with fail
        have hgq:=RowG.grown_set q1 bO 7 (.slice (some ⟨b9,o9,none⟩) (lh2 hs1 hs2 (k+1)).length c9)
        have hb2:=blk_set hbq hpq 7 (by simp) (.slice (some ⟨b9,o9,none⟩) (lh2 hs1 hs2 (k+1)).length c9)
        have hp2:=hpq.set 7 (.slice (some ⟨b9,o9,none⟩) (lh2 hs1 hs2 (k+1)).length c9)
        have hE2:=hEq.grown HLO.out a0 b0 r0 hgq
        have hT2:=rws_set (v:=.slice (some ⟨b9,o9,none⟩) (lh2 hs1 hs2 (k+1)).length c9) hT9 oq (h_ne _ _ _)
        have hH2:=TgO.far hHq hgq (fun b off e=>by cases e;exact HLC1.out.2.2.2.1)
        refine hK.out _ _ ⟨by simpa using s1',by simpa using s2',by simpa using s3'⟩ (fun _=>?_)
        clear hK K
        try simp only [Act.put,SL]
        refine wpAnyH_done (by kernel_rfl) ?_ _
        have HB9:=H_ hb2
        have HP9:=H_ hp2
        have HT9:=H_ hT2
        have HH9:=H_ hH2
        have HE9:=H_ (show JX W0 w.heap.size (w.heap.size+1) (w.heap.size+1+1) a1 m1 mo1 ev1 su1 mx1 ta1 tl1 tc1 (some ⟨hb,hf,none⟩) hl1 hc1 a1 m1 mo1 ev2 su2 mx2 ta2 tl2 tc2 (some ⟨b3,o3,none⟩) hl2 hc2 _ from hE2)
        have hw0:W0.heap.size≤wd.heap.size:=Nat.le_trans HE.out.1.size hwd.size
        have hbh:b1<wr.heap.size:=(HH.out.2.lt _ rfl).2
        have hbd:=hwd.size
        have HL9:=H_ ((⟨hl9,hm9,by have:=HLC.out.2.2.1;omega,by have:=HLC.out.2.2.2;omega⟩:_∧_∧W0.heap.size≤b9∧b1≠b9))
        clear hbh hbd
        clear hw0 hn9
        clear hb2 hp2 hT2 hH2 hE2 hgq oq fq hpq hbq hHq hEq hT9 hq9 hq0 s1 s2 s3 s1' s2' s3' hwd
        go_wp2_with fail
        go_roundw
        case rel=>exact ⟨k+1,b9,o9,c9,by omega,by go_num,HB9,HP9,HT9,HL9,HH9,HE9⟩
        case measure=>simp [intOf];omega
       ·go_simp
        try go_wp2_with fail
        refine hK.out _ _ ⟨s1,s2,s3⟩ (fun _=>?_)
        clear hK K
        try simp only [Act.put,SL]
        refine rd 1 (⟨some 82,.load 24 (.tmp 81),24,"l07_window.go:90",#[⟨0,.data⟩],none⟩) (fun K hK=>?_)
        go_simp
        try go_wp2_with fail
        refine hK.out _ _ ⟨s1,s2,s3⟩ (fun _=>?_)
        clear hK K
        try simp only [Act.put,SL]
        refine rd 7 (⟨some 88,.call {callee:=Callee.value (.func 49),args:=#[.tmp 82,.tmp 87],argTypes:=#[24,87]},24,"l07_window.go:90",#[⟨1,.data⟩,⟨6,.data⟩],none⟩) (fun K hK=>?_)
        go_simp
        go_at_call 49
        refine (HC.out _ hwd hbw).mono ?_
        rintro e q1 ⟨b9,o9,c9,rfl,hT9,hl9,hm9,hn9,hq9⟩
        try go_wp2_with fail
        have s1':=Nat.lt_of_lt_of_le s1 hq9.size
        have s2':=Nat.lt_of_lt_of_le s2 hq9.size
        have s3':=Nat.lt_of_lt_of_le s3 hq9.size
        refine hK.out _ _ ⟨s1',s2',s3'⟩ (fun _=>?_)
        clear hK K
        try simp only [Act.put,SL]
        refine tk 8 (⟨some 89,.fieldAddr 26 (.tmp 5) 7,0,"l07_window.go:90",#[⟨0,.phase⟩,⟨1,.phase⟩,⟨2,.phase⟩,⟨3,.phase⟩,⟨4,.phase⟩,⟨5,.phase⟩,⟨6,.phase⟩,⟨7,.phase⟩],none⟩) ?_
        refine rd 9 (⟨none,.store 24 (.tmp 89) (.tmp 88),0,"l07_window.go:90",#[⟨8,.data⟩,⟨7,.data⟩,⟨7,.chain⟩,⟨0,.phase⟩,⟨1,.phase⟩,⟨2,.phase⟩,⟨3,.phase⟩,⟨4,.phase⟩,⟨5,.phase⟩,⟨6,.phase⟩,⟨7,.phase⟩],none⟩) (fun K hK=>?_)
        have hq0:Below wr.heap.size wr q1:=hwd.trans (hq9.mono hwd.size)
        have hpq:=HPO.out.below hq0
        have hbq:=HBO.out.below hq0
        have hHq:=HH.out.below hq0
        have hEq:=HE.out.below hq0
        have oq:=hbq.2 7 (by simp)
        simp only [List.getElem?_cons_zero,List.getElem?_cons_succ] at oq
        have fq:=hpq.free 7 (by omega)
        clear p1 p2 p3 p4
        go_simp
        try go_wp2_with fail
        have hgq:=RowG.grown_set q1 bO 7 (.slice (some ⟨b9,o9,none⟩) (lh2 hs1 hs2 (k+1)).length c9)
        have hb2:=blk_set hbq hpq 7 (by simp) (.slice (some ⟨b9,o9,none⟩) (lh2 hs1 hs2 (k+1)).length c9)
        have hp2:=hpq.set 7 (.slice (some ⟨b9,o9,none⟩) (lh2 hs1 hs2 (k+1)).length c9)
        have hE2:=hEq.grown HLO.out a0 b0 r0 hgq
        have hT2:=rws_set (v:=.slice (some ⟨b9,o9,none⟩) (lh2 hs1 hs2 (k+1)).length c9) hT9 oq (h_ne _ _ _)
        have hH2:=TgO.far hHq hgq (fun b off e=>by cases e;exact HLC1.out.2.2.2.1)
        refine hK.out _ _ ⟨by simpa using s1',by simpa using s2',by simpa using s3'⟩ (fun _=>?_)
        clear hK K
        try simp only [Act.put,SL]
        refine wpAnyH_done (by kernel_rfl) ?_ _
        have HB9:=H_ hb2
        have HP9:=H_ hp2
        have HT9:=H_ hT2
        have HH9:=H_ hH2
        have HE9:=H_ (show JX W0 w.heap.size (w.heap.size+1) (w.heap.size+1+1) a1 m1 mo1 ev1 su1 mx1 ta1 tl1 tc1 (some ⟨hb,hf,none⟩) hl1 hc1 a1 m1 mo1 ev2 su2 mx2 ta2 tl2 tc2 (some ⟨b3,o3,none⟩) hl2 hc2 _ from hE2)
        have hw0:W0.heap.size≤wd.heap.size:=Nat.le_trans HE.out.1.size hwd.size
        have hbh:b1<wr.heap.size:=(HH.out.2.lt _ rfl).2
        have hbd:=hwd.size
        have HL9:=H_ ((⟨hl9,hm9,by have:=HLC.out.2.2.1;omega,by have:=HLC.out.2.2.2;omega⟩:_∧_∧W0.heap.size≤b9∧b1≠b9))
        clear hbh hbd
        clear hw0 hn9
        clear hb2 hp2 hT2 hH2 hE2 hgq oq fq hpq hbq hHq hEq hT9 hq9 hq0 s1 s2 s3 s1' s2' s3' hwd
        go_wp2_with fail
        go_roundw
        case rel=>exact ⟨k+1,b9,o9,c9,by omega,by go_num,HB9,HP9,HT9,HL9,HH9,HE9⟩
        case measure=>simp [intOf];omega
     ·have hlt2:¬(k:Int)<(hl2:Int):=by omega
      obtain rfl:hl2=k:=by omega
      rw [show hl2=hs2.length from HEH2.out] at HT HBO HLC
      have v0:wr.cell? ⟨bO,0,none⟩=some (.string a1):=HBO.out.2 0 (by simp)
      have v1:wr.cell? ⟨bO,1,none⟩=some (.string m1):=HBO.out.2 1 (by simp)
      have v2:wr.cell? ⟨bO,2,none⟩=some (.int .i64 mo1):=HBO.out.2 2 (by simp)
      have v3:wr.cell? ⟨bO,3,none⟩=some (.int .i64 EV):=HBO.out.2 3 (by simp)
      have v4:wr.cell? ⟨bO,4,none⟩=some (.int .i64 SU):=HBO.out.2 4 (by simp)
      have v5:wr.cell? ⟨bO,5,none⟩=some (.int .i64 MX):=HBO.out.2 5 (by simp)
      have v6:wr.cell? ⟨bO,6,none⟩=some (.slice (some ⟨b1,o1,none⟩) (lt2 ts1 ts2 ts2.length).length c1):=HBO.out.2 6 (by simp)
      have v7:wr.cell? ⟨bO,7,none⟩=some (.slice (some ⟨b2,o2,none⟩) (lh2 hs1 hs2 hs2.length).length c2):=HBO.out.2 7 (by simp)
      have lO:=HPO.out.lt
      have HCR:=H_ (HWQ.out _ c1 _ c2 wr HH.out.1 HT.out)
      have HBW:=H_ (HB0.out.trans (HE.out.1.mono HB0.out.size))
      go_wp2_with fail
      refine HCR.out.mono ?_
      rintro e w5 ⟨rfl,hb5⟩
      have HB5:=H_ (HBW.out.trans (hb5.mono HBW.out.size))
      have HE5:=H_ (HE.out.below hb5)
      have HT5:=H_ (HT.out.below hb5)
      have HH5:=H_ (HH.out.below hb5)
      have HO5:=H_ (HBO.out.below hb5)
      clear hb5 v0 v1 v2 v3 v4 v5 v6 v7 lO HE HT HH HBO HPO HCR HBW
      cases r3
      ·go_wp2_with fail
       refine (HIL.out 9 _).mono ?_
       rintro e w6 ⟨rfl,hb6⟩
       have HB6:=H_ (HB5.out.trans (hb6.mono HB5.out.size))
       have HE6:=H_ (HE5.out.below hb6)
       clear hb6
       have hp9:=HE6.out.pt
       have hl9:=hp9.lt
       obtain ⟨ov0,r0⟩:=hp9.has 0 (by omega)
       have f0:=hp9.free 0 (by omega)
       obtain ⟨ov1,r1⟩:=hp9.has 1 (by omega)
       have f1:=hp9.free 1 (by omega)
       obtain ⟨ov2,r2⟩:=hp9.has 2 (by omega)
       have f2:=hp9.free 2 (by omega)
       obtain ⟨ov3,r3⟩:=hp9.has 3 (by omega)
       have f3:=hp9.free 3 (by omega)
       obtain ⟨ov4,r4⟩:=hp9.has 4 (by omega)
       have f4:=hp9.free 4 (by omega)
       obtain ⟨ov5,r5⟩:=hp9.has 5 (by omega)
       have f5:=hp9.free 5 (by omega)
       obtain ⟨ov6,r6⟩:=hp9.has 6 (by omega)
       have f6:=hp9.free 6 (by omega)
       obtain ⟨ov7,r7⟩:=hp9.has 7 (by omega)
       have f7:=hp9.free 7 (by omega)
       obtain ⟨ov8,r8⟩:=hp9.has 8 (by omega)
       have f8:=hp9.free 8 (by omega)
       have hgf:=StR.stL_grown (w.heap.size+1+1) [.string ⟨#[]⟩,.string ⟨#[]⟩,.int .i64 0,.int .i64 0,.int .i64 0,.int .i64 0,.slice none 0 0,.slice none 0 0,.int .i64 9] 0 w6
       have HBF:=H_ (HB6.out.grown hgf HB6.out.size (fun k e=>by simp only [Option.some.injEq] at e;omega))
       have HGF:=H_ hgf
       simp only [StR.stL,Nat.zero_add,Nat.reduceAdd] at HBF HGF
       clear hgf hp9
       go_wp2_with fail
       refine bodyPost_ret (v:=.agg #[.string ⟨#[]⟩,.string ⟨#[]⟩,.int .i64 0,.int .i64 0,.int .i64 0,.int .i64 0,.slice none 0 0,.slice none 0 0,.int .i64 9]) (by simp [results,Tryd.results22,go_sem,r0,r1,r2,r3,r4,r5,r6,r7,r8]) rfl ⟨.inr (.inl ⟨(by first|exact ⟨rfl,rfl,rfl⟩|trivial),rfl,rfl⟩),HBF.out⟩
      have v0:w5.cell? ⟨bO,0,none⟩=some (.string a1):=HO5.out.2 0 (by simp)
      have v1:w5.cell? ⟨bO,1,none⟩=some (.string m1):=HO5.out.2 1 (by simp)
      have v2:w5.cell? ⟨bO,2,none⟩=some (.int .i64 mo1):=HO5.out.2 2 (by simp)
      have v3:w5.cell? ⟨bO,3,none⟩=some (.int .i64 EV):=HO5.out.2 3 (by simp)
      have v4:w5.cell? ⟨bO,4,none⟩=some (.int .i64 SU):=HO5.out.2 4 (by simp)
      have v5:w5.cell? ⟨bO,5,none⟩=some (.int .i64 MX):=HO5.out.2 5 (by simp)
      have v6:w5.cell? ⟨bO,6,none⟩=some (.slice (some ⟨b1,o1,none⟩) (lt2 ts1 ts2 ts2.length).length c1):=HO5.out.2 6 (by simp)
      have v7:w5.cell? ⟨bO,7,none⟩=some (.slice (some ⟨b2,o2,none⟩) (lh2 hs1 hs2 hs2.length).length c2):=HO5.out.2 7 (by simp)
      have lO:=HO5.out.1
      clear HE HT HBO HWQ HTB HHB HIL y6 y7 HLE1 HLE2 HSA HSB
      have hp9:=HE5.out.pt
      have hl9:=hp9.lt
      obtain ⟨ov0,r0⟩:=hp9.has 0 (by omega)
      have f0:=hp9.free 0 (by omega)
      obtain ⟨ov1,r1⟩:=hp9.has 1 (by omega)
      have f1:=hp9.free 1 (by omega)
      obtain ⟨ov2,r2⟩:=hp9.has 2 (by omega)
      have f2:=hp9.free 2 (by omega)
      obtain ⟨ov3,r3⟩:=hp9.has 3 (by omega)
      have f3:=hp9.free 3 (by omega)
      obtain ⟨ov4,r4⟩:=hp9.has 4 (by omega)
      have f4:=hp9.free 4 (by omega)
      obtain ⟨ov5,r5⟩:=hp9.has 5 (by omega)
      have f5:=hp9.free 5 (by omega)
      obtain ⟨ov6,r6⟩:=hp9.has 6 (by omega)
      have f6:=hp9.free 6 (by omega)
      obtain ⟨ov7,r7⟩:=hp9.has 7 (by omega)
      have f7:=hp9.free 7 (by omega)
      obtain ⟨ov8,r8⟩:=hp9.has 8 (by omega)
      have f8:=hp9.free 8 (by omega)
      have hgf:=StR.stL_grown (w.heap.size+1+1) [.string a1,.string m1,.int .i64 mo1,.int .i64 EV,.int .i64 SU,.int .i64 MX,.slice (some ⟨b1,o1,none⟩) (lt2 ts1 ts2 ts2.length).length c1,.slice (some ⟨b2,o2,none⟩) (lh2 hs1 hs2 hs2.length).length c2,.int .i64 0] 0 w5
      have HBF:=H_ (HB5.out.grown hgf HB5.out.size (fun k e=>by simp only [Option.some.injEq] at e;omega))
      have HGF:=H_ hgf
      simp only [StR.stL,Nat.zero_add,Nat.reduceAdd] at HBF HGF
      clear hgf hp9
      go_wp2_with fail
      refine bodyPost_ret (v:=.agg #[.string a1,.string m1,.int .i64 mo1,.int .i64 EV,.int .i64 SU,.int .i64 MX,.slice (some ⟨b1,o1,none⟩) (lt2 ts1 ts2 ts2.length).length c1,.slice (some ⟨b2,o2,none⟩) (lh2 hs1 hs2 hs2.length).length c2,.int .i64 0]) (by simp [results,Tryd.results22,go_sem,r0,r1,r2,r3,r4,r5,r6,r7,r8]) rfl ⟨.inr (.inr ⟨(by first|exact ⟨rfl,rfl,rfl⟩|trivial),rfl,_,_,_,_,rfl,(TgO.far HH5.out HGF.out (fun b off e=>by cases e;have:=HLC1.out.2.2.1;omega)).low (by have h2:=HSZ.out;omega),Rws.keep HT5.out HGF.out (.inr (fun b off e=>by cases e;have:=HLC.out.2.2.1;omega)),(fun b off e=>by cases e;have h1:=HLC1.out.2.2.1;have h2:=HSZ.out;omega),(fun b off e=>by cases e;have h1:=HLC.out.2.2.1;have h2:=HSZ.out;omega),(fun b off b' off' e e'=>by cases e;cases e';exact HLC.out.2.2.2),.inr ⟨_,_,rfl,HLC1.out.1,HLC1.out.2.1⟩,.inr ⟨_,_,rfl,HLC.out.1,HLC.out.2.1⟩⟩),HBF.out⟩
end WinR
end Go.Proofs.YteejpnkmnmoebaaDoor
