/-
  The model's copy of an engine: spec.l10Copy.
  The conditions stand in what each theorem says.
-/
import Derived.Test.YtnceeaccbcfopaaGreatDoorT35
set_option maxRecDepth 100000
set_option maxHeartbeats 16000000
namespace Go.Proofs.YtnceeaccbcfopaaGreatDoor
open Go.ChangeShapes Go.WideShapes Go.ChangeAt Go.RowKit
set_option linter.unusedVariables false
namespace EngR
open OwG CatR ChG DocR
open RowG (cellsAll grown_set MadeG Rws)
open EvtR (Pt)
theorem mm {goal:Prop} (F:World→Prop) {G:World→Prop} (h1:Hid (∀W,F W→G W)→goal) (h2:∀W,F W→G W):goal:=h1 h2
theorem mmANAN {goal:Prop} (F:Option Addr→Nat→Option Addr→Nat→World→Prop) {G:Option Addr→Nat→Option Addr→Nat→World→Prop} (h1:Hid (∀x0 x1 x2 x3 W,F x0 x1 x2 x3 W→G x0 x1 x2 x3 W)→goal) (h2:∀x0 x1 x2 x3 W,F x0 x1 x2 x3 W→G x0 x1 x2 x3 W):goal:=h1 h2
theorem mmANANANANANNNN {goal:Prop} (F:Option Addr→Nat→Option Addr→Nat→Option Addr→Nat→Option Addr→Nat→Option Addr→Nat→Nat→Nat→Nat→World→Prop) {G:Option Addr→Nat→Option Addr→Nat→Option Addr→Nat→Option Addr→Nat→Option Addr→Nat→Nat→Nat→Nat→World→Prop} (h1:Hid (∀x0 x1 x2 x3 x4 x5 x6 x7 x8 x9 x10 x11 x12 W,F x0 x1 x2 x3 x4 x5 x6 x7 x8 x9 x10 x11 x12 W→G x0 x1 x2 x3 x4 x5 x6 x7 x8 x9 x10 x11 x12 W)→goal) (h2:∀x0 x1 x2 x3 x4 x5 x6 x7 x8 x9 x10 x11 x12 W,F x0 x1 x2 x3 x4 x5 x6 x7 x8 x9 x10 x11 x12 W→G x0 x1 x2 x3 x4 x5 x6 x7 x8 x9 x10 x11 x12 W):goal:=h1 h2
theorem mmANANN {goal:Prop} (F:Option Addr→Nat→Option Addr→Nat→Nat→World→Prop) {G:Option Addr→Nat→Option Addr→Nat→Nat→World→Prop} (h1:Hid (∀x0 x1 x2 x3 x4 W,F x0 x1 x2 x3 x4 W→G x0 x1 x2 x3 x4 W)→goal) (h2:∀x0 x1 x2 x3 x4 W,F x0 x1 x2 x3 x4 W→G x0 x1 x2 x3 x4 W):goal:=h1 h2
theorem mmANANNAN {goal:Prop} (F:Option Addr→Nat→Option Addr→Nat→Nat→Option Addr→Nat→World→Prop) {G:Option Addr→Nat→Option Addr→Nat→Nat→Option Addr→Nat→World→Prop} (h1:Hid (∀x0 x1 x2 x3 x4 x5 x6 W,F x0 x1 x2 x3 x4 x5 x6 W→G x0 x1 x2 x3 x4 x5 x6 W)→goal) (h2:∀x0 x1 x2 x3 x4 x5 x6 W,F x0 x1 x2 x3 x4 x5 x6 W→G x0 x1 x2 x3 x4 x5 x6 W):goal:=h1 h2
theorem run_append_empty {P:Program} (w:World) (base:Nat) (t ty e:TypeId) (i:TypeInfo) (z:Value) (size bytes:Nat) (ht:P.underlying t=some (.slice e)) (hi:P.info? e=some i) (hz:i.zero=some z)
 (hsize:i.size=size) (hby:i.bytes=bytes) (hzs:z.cells.size=size) (hsz:0<size)
 (g:Nat) (hown:w.ownsRow base e size (.slice (some ⟨g,0,none⟩) 0 0) 0 [])
 (la:Option Addr) (m c:Nat) (news:List Value) (hl:news.length=m*size) (hla:m=0∨∃ad,la=some ad∧∀j u,news[j]? = some u→w.cell? (ad.add j)=some u) (h1:∀u∈news,u.oneCell'=true)
 (h63:m≤maxLen) (hbytes:m*bytes≤140737488355328) (hbase:base≤w.heap.size) :
 ∃ao cap w',(Builtin.append_ #[t,t] ty #[.slice (some ⟨g,0,none⟩) 0 0,.slice la m c]).run P w=.ok (.slice ao m cap) w'∧w'.ownsRow base e size (.slice ao m cap) m news∧Below w.heap.size w w':=by
 by_cases h0:m=0
 ·subst h0
  obtain rfl:news=[]:=List.eq_nil_of_length_eq_zero (by simpa using hl)
  cases la with
  | none =>
   have hrun:=run_append_room_src (P:=P) w t t ty e i ht hi g 0 0 0 (.slice none 0 c) 0 [] (Src.ofNil w ht c) (by omega) (fun j hj=>by simp at hj) (fun j hj=>by simp at hj)
   exact ⟨_,_,_,hrun,hown,Below.refl _ _⟩
  | some ad =>
   have hrun:=run_append_room_src (P:=P) w t t ty e i ht hi g 0 0 0 (.slice (some ad) 0 c) 0 [] (Src.ofSlice w ht ad 0 c [] (by simp) (fun j u hj=>by simp at hj) (fun u hu=>by cases hu)) (by omega) (fun j hj=>by simp at hj) (fun j hj=>by simp at hj)
   exact ⟨_,_,_,hrun,hown,Below.refl _ _⟩
 ·rcases hla with q|⟨ad,rfl,hc⟩
  ·exact absurd q h0
  obtain ⟨v',w',hr,h2,h3,h4⟩:=run_append_own (P:=P) w base t ty e i z size bytes ht hi hz hsize hby hzs hsz _ 0 [] hown ad m c news hl hc h1 (by rw [Nat.zero_add];exact h63) (by rw [Nat.zero_add];exact hbytes) hbase
  subst hsize
  subst hby
  have hs:m≤9223372036854775807:=by simp only [maxLen] at h63;omega
  have hq:=run_append_grow (P:=P) w t ty e i z ht hi hz ⟨g,0,none⟩ 0 0 [] (by simp) (fun j v hj=>by simp at hj) ad m c news hl hc (by omega) (by omega) (growslice_fits (by omega) (by rw [Nat.zero_add];exact hbytes))
  have hr2:=hr
  rw [hq] at hr2
  injection hr2 with e1 e2
  subst e1
  subst e2
  simp only [Nat.zero_add,List.nil_append] at h2 hr ⊢
  exact ⟨_,_,_,hr,h2,((Below.refl _ _).drew).alloc (Nat.le_refl _) _⟩
theorem step_app_e {P:Program} {w:World} {ops:Array Oper} {o:Oper} {a:Act} {K:Act→World→Prop} {Q:Exit→Act→World→Prop} {E:Prop} (hgd:o.guard=none) (s x:Operand) (t:TypeId)
 (ho:o.op=.call {callee:=.builtin .append,args:=#[s,x],argTypes:=#[t,t]})
 (base:Nat) (e:TypeId) (i:TypeInfo) (z:Value) (size bytes:Nat) (ht:P.underlying t=some (.slice e)) (hi:P.info? e=some i) (hz:i.zero=some z)
 (hsize:i.size=size) (hby:i.bytes=bytes) (hzs:z.cells.size=size) (hsz:0<size)
 (g:Nat) (hs:a.eval s=.slice (some ⟨g,0,none⟩) 0 0) (hown:w.ownsRow base e size (.slice (some ⟨g,0,none⟩) 0 0) 0 [])
 (la:Option Addr) (m c:Nat) (news:List Value) (hx:a.eval x=.slice la m c) (hl:news.length=m*size) (hla:m=0∨∃ad,la=some ad∧∀j u,news[j]? = some u→w.cell? (ad.add j)=some u) (h1:∀u∈news,u.oneCell'=true)
 (h63:m≤maxLen) (hbytes:m*bytes≤140737488355328) (hbase:base≤w.heap.size)
 (h:∀ao cap w',w'.ownsRow base e size (.slice ao m cap) m news→Below w.heap.size w w'→K (a.put o.dst (.slice ao m cap)) w'):if Region.wanted o (yielded ops a.tmps)=true then Oper.wp P o a w K Q else E:=by
 have hw:Region.wanted o (yielded ops a.tmps)=true:=by simp [Region.wanted,hgd]
 rw [if_pos hw]
 obtain ⟨ao,cap,w',hrun,h2,h3⟩:=run_append_empty (P:=P) w base t o.type e i z size bytes ht hi hz hsize hby hzs hsz g hown la m c news hl hla h1 h63 hbytes hbase
 have hk:=h _ _ _ h2 h3
 unfold Oper.wp
 simp only [execOp,ho,resolve,invoke,builtin,Sem.run_bind,Sem.run_pure,Result.andThen_ok,List.map_toArray,List.map_cons,List.map_nil,hs,hx,hrun]
 exact hk
def CYc (w:World) (bR:Nat) (A Z:List Value) (W:World):Prop:=Below w.heap.size w W∧BlkW w.heap.size A W∧BlkW bR Z W
theorem CYc.below {w:World} {bR:Nat} {A Z:List Value} {W W':World} (h:CYc w bR A Z W) (hb:Below W.heap.size W W'):CYc w bR A Z W':=⟨h.1.trans (hb.mono h.1.size),h.2.1.below hb,h.2.2.below hb⟩
theorem CYc.grown {w:World} {bR g:Nat} {A Z:List Value} {W W':World} (h:CYc w bR A Z W) (hg:W.grownBy W' (some g)) (h1:w.heap.size<g) (h2:bR<g):CYc w bR A Z W' :=
 ⟨h.1.grown hg h.1.size (fun k e=>by cases e;omega),blkW_grown h.2.1 hg (by simp;omega),blkW_grown h.2.2 hg (by simp;omega)⟩
theorem CYc.app {w:World} {bR:Nat} {A Z:List Value} {W W':World} {row:Option Nat} (h:CYc w bR A Z W) (hg:W.grownBy W' row) (hr:∀g,row=some g→w.heap.size+2≤g) (h1:w.heap.size<bR) (h2:bR<w.heap.size+2):CYc w bR A Z W' :=
 ⟨h.1.grown hg h.1.size (fun k e=>by have:=hr k e;omega),blkW_grown h.2.1 hg (fun e=>by have:=hr _ e.symm;omega),blkW_grown h.2.2 hg (fun e=>by have:=hr _ e.symm;omega)⟩
def VbT (b:Nat) (cs:List Value) (W:World):Prop:=BlkW b cs W∧∃z,W.heap[b]? = some (.cells z 42)
theorem vbt_new (W:World) (cs:List Value):VbT W.heap.size cs (W.alloc (.cells cs.toArray 42)):=⟨BlkW.new W cs _,⟨cs.toArray,by
 show (W.heap.push (.cells cs.toArray 42))[W.heap.size]? = _
 simp⟩⟩
theorem VbT.below {b:Nat} {cs:List Value} {W W':World} (h:VbT b cs W) (hb:Below W.heap.size W W'):VbT b cs W':=⟨h.1.below hb,by
 obtain ⟨z,hz⟩:=h.2
 exact ⟨z,(hb.block b h.1.1.1).trans hz⟩⟩
theorem VbT.set {b:Nat} {cs:List Value} {W:World} (h:VbT b cs W) (o:Nat) (v:Value) (ho:o<cs.length):VbT b (cs.set o v) (W.setCell ⟨b,o,none⟩ v):=⟨h.1.set o v ho,by
 obtain ⟨z,hz⟩:=h.2
 refine ⟨z.setIfInBounds o v,?_⟩
 simp only [World.setCell]
 rw [Array.getElem?_modify]
 simp [hz]⟩
theorem own_not {W:World} {b base e size n:Nat} {v:Value} {xs:List Value} (h:W.ownsRow base e size v n xs) (hv:∃z,W.heap[b]? = some (.cells z 42)) (he:e≠42):v.ownBlock≠some b:=by
 intro q
 obtain ⟨z,hz⟩:=hv
 rcases h.2 with ⟨h0,_⟩|⟨g,cap,cur,h0,_,hh,_⟩
 ·rw [h0] at q;cases q
 ·rw [h0] at q
  simp only [Value.ownBlock,Option.some.injEq] at q
  subst q
  rw [hh] at hz
  simp only [Option.some.injEq,Obj.cells.injEq] at hz
  exact he hz.2.1
theorem own_vb {W W':World} {b base e size n:Nat} {v:Value} {xs:List Value} (h:W.ownsRow base e size v n xs) (hv:∃z,W.heap[b]? = some (.cells z 42)) (he:e≠42) (hg:W.grownBy W' (some b)):W'.ownsRow base e size v n xs:=own_keepO h hg (fun b' e' q=>own_not h hv he (by rw [e',q]))
theorem VbT.app {b:Nat} {cs:List Value} {W W':World} {base n:Nat} {v:Value} {xs:List Value} (h:VbT b cs W) (ho:W.ownsRow base 106 8 v n xs) (hg:W.grownBy W' v.ownBlock):VbT b cs W':=by
 have hn:=own_not ho h.2 (by decide)
 refine ⟨blkW_grown h.1 hg (fun e=>hn e.symm),?_⟩
 obtain ⟨z,hz⟩:=h.2
 exact ⟨z,(hg.block b h.1.1.1 (fun e=>hn e.symm)).trans hz⟩
theorem WsT.far2 {lo b:Nat} {v:Value} {ws:List WinR.Wd} {W W':World} (h:WsT lo v ws W) (hv:∃z,W.heap[b]? = some (.cells z 42)) (hg:W.grownBy W' (some b)):WsT lo v ws W':=by
 obtain ⟨xs,h1,h2,h3⟩:=h
 exact ⟨xs,h1,own_vb h2 hv (by decide) hg,fun x hx=>⟨own_vb (h3 x hx).1 hv (by decide) hg,own_vb (h3 x hx).2 hv (by decide) hg⟩⟩
theorem own_formW {w:World} {base e size n:Nat} {v:Value} {xs:List Value} (h:w.ownsRow base e size v n xs):∃a c,v=.slice a n c:=by
 rcases h.2 with ⟨h0,h1⟩|⟨g,cap,cur,hv,_⟩
 ·exact ⟨none,0,by rw [h0,h1]⟩
 ·exact ⟨_,_,hv⟩
class St (F:World→Prop):Prop where
 go:∀W W',F W→Below W.heap.size W W'→F W'
theorem st1 {F1:World→Prop} [i1:St F1] {W W':World} (hb:Below W.heap.size W W') (h:F1 W):F1 W':=i1.go W W' h hb
theorem st2 {F1 F2:World→Prop} [i1:St F1] [i2:St F2] {W W':World} (hb:Below W.heap.size W W') (h:F1 W∧F2 W):F1 W'∧F2 W':=⟨i1.go W W' h.1 hb,i2.go W W' h.2 hb⟩
theorem st3 {F1 F2 F3:World→Prop} [i1:St F1] [i2:St F2] [i3:St F3] {W W':World} (hb:Below W.heap.size W W') (h:F1 W∧F2 W∧F3 W):F1 W'∧F2 W'∧F3 W':=⟨i1.go W W' h.1 hb,i2.go W W' h.2.1 hb,i3.go W W' h.2.2 hb⟩
theorem st4 {F1 F2 F3 F4:World→Prop} [i1:St F1] [i2:St F2] [i3:St F3] [i4:St F4] {W W':World} (hb:Below W.heap.size W W') (h:F1 W∧F2 W∧F3 W∧F4 W):F1 W'∧F2 W'∧F3 W'∧F4 W':=⟨i1.go W W' h.1 hb,i2.go W W' h.2.1 hb,i3.go W W' h.2.2.1 hb,i4.go W W' h.2.2.2 hb⟩
theorem st5 {F1 F2 F3 F4 F5:World→Prop} [i1:St F1] [i2:St F2] [i3:St F3] [i4:St F4] [i5:St F5] {W W':World} (hb:Below W.heap.size W W') (h:F1 W∧F2 W∧F3 W∧F4 W∧F5 W):F1 W'∧F2 W'∧F3 W'∧F4 W'∧F5 W':=⟨i1.go W W' h.1 hb,i2.go W W' h.2.1 hb,i3.go W W' h.2.2.1 hb,i4.go W W' h.2.2.2.1 hb,i5.go W W' h.2.2.2.2 hb⟩
theorem al1 (W:World) (o:Obj):Below W.heap.size W (W.alloc o):=(Below.refl _ _).alloc (Nat.le_refl _) _
def e3F (B g:Nat) (W:World):Prop:=W.ownsRow B 63 2 (.slice (some ⟨g,0,none⟩) 0 0) 0 []
def e7F (B g:Nat) (W:World):Prop:=W.ownsRow B 110 3 (.slice (some ⟨g,0,none⟩) 0 0) 0 []
def VZF (bR:Nat) (cs:List Value) (b:Nat) (W:World):Prop:=VbT b cs W∧bR<b
instance {B g:Nat}:St (e3F B g):=⟨fun _ _ h hb=>RowG.own_below h hb⟩
instance {B g:Nat}:St (e7F B g):=⟨fun _ _ h hb=>RowG.own_below h hb⟩
instance {bR b:Nat} {cs:List Value}:St (VZF bR cs b):=⟨fun _ _ h hb=>⟨h.1.below hb,h.2⟩⟩
instance {w:World} {bR:Nat} {A Z:List Value}:St (CYc w bR A Z):=⟨fun _ _ h hb=>h.below hb⟩
theorem scopy_in (ma:Option Addr) (ml mc:Nat) (ca:Option Addr) (cl cc:Nat) (sa:Option Addr) (sl sc:Nat) (ea:Option Addr) (el ec:Nat) (ua:Option Addr) (ul uc:Nat) (da:Option Addr) (dl dc:Nat) (fr:Int) (ws:List WinR.Wd) (Q1 Q2 Q3 Q4:Value→World→Prop) (CS CE:List Value) (w:World) (hul:ul=ws.length) (hwl:ul≤1048575) (hll:sl≤1048576∧el≤1048576)
 (hwn:WinR.Wns ua ws w) (hsm:∀x∈ws,x.ts.length≤1048576∧x.hs.length≤1048576)
 (kb1:∀v W W',Q1 v W→Below W.heap.size W W'→Q1 v W') (kv1:∀v b W W',Q1 v W→(∃z,W.heap[b]? = some (.cells z 42))→W.grownBy W' (some b)→Q1 v W') (kw1:∀v v' n ys W W',Q1 v W→W.ownsRow (w.heap.size+2) 106 8 v' n ys→W.grownBy W' v'.ownBlock→Q1 v W') (kg1:∀v b W W',Q1 v W→W.grownBy W' (some b)→b<w.heap.size+2→Q1 v W')
 (kb2:∀v W W',Q2 v W→Below W.heap.size W W'→Q2 v W') (kv2:∀v b W W',Q2 v W→(∃z,W.heap[b]? = some (.cells z 42))→W.grownBy W' (some b)→Q2 v W') (kw2:∀v v' n ys W W',Q2 v W→W.ownsRow (w.heap.size+2) 106 8 v' n ys→W.grownBy W' v'.ownBlock→Q2 v W') (kg2:∀v b W W',Q2 v W→W.grownBy W' (some b)→b<w.heap.size+2→Q2 v W')
 (kb3:∀v W W',Q3 v W→Below W.heap.size W W'→Q3 v W') (kv3:∀v b W W',Q3 v W→(∃z,W.heap[b]? = some (.cells z 42))→W.grownBy W' (some b)→Q3 v W') (kw3:∀v v' n ys W W',Q3 v W→W.ownsRow (w.heap.size+2) 106 8 v' n ys→W.grownBy W' v'.ownBlock→Q3 v W') (kg3:∀v b W W',Q3 v W→W.grownBy W' (some b)→b<w.heap.size+2→Q3 v W')
 (kb4:∀v W W',Q4 v W→Below W.heap.size W W'→Q4 v W') (kv4:∀v b W W',Q4 v W→(∃z,W.heap[b]? = some (.cells z 42))→W.grownBy W' (some b)→Q4 v W') (kw4:∀v v' n ys W W',Q4 v W→W.ownsRow (w.heap.size+2) 106 8 v' n ys→W.grownBy W' v'.ownBlock→Q4 v W') (kg4:∀v b W W',Q4 v W→W.grownBy W' (some b)→b<w.heap.size+2→Q4 v W')
 (c1:∀W,Below w.heap.size w W→w.heap.size+2≤W.heap.size→Calls Tryz.prog 60 #[.agg #[.slice ma ml mc,.slice ca cl cc]] W fun e w'=>∃xa xc ya yc,e=.returned (.agg #[.slice xa ml xc,.slice ya cl yc])∧Q1 (.agg #[.slice xa ml xc,.slice ya cl yc]) w'∧Below W.heap.size W w')
 (c4:∀W,Below w.heap.size w W→w.heap.size+2≤W.heap.size→Calls Tryz.prog 61 #[.slice da dl dc] W fun e w'=>∃ta tc,e=.returned (.slice ta dl tc)∧Q4 (.slice ta dl tc) w'∧Below W.heap.size W w')
 (x2:CS.length=sl*2∧(∀W,Below w.heap.size w W→(sl=0∨∃ad,sa=some ad∧∀j u,CS[j]? = some u→W.cell? (ad.add j)=some u))∧∀u∈CS,u.oneCell'=true)
 (x3:CE.length=el*3∧(∀W,Below w.heap.size w W→(el=0∨∃ad,ea=some ad∧∀j u,CE[j]? = some u→W.cell? (ad.add j)=some u))∧∀u∈CE,u.oneCell'=true)
 (q2:∀a c W,W.ownsRow (w.heap.size+2) 63 2 (.slice a sl c) sl CS→Q2 (.slice a sl c) W) (q3:∀a c W,W.ownsRow (w.heap.size+2) 110 3 (.slice a el c) el CE→Q3 (.slice a el c) W) :
 Calls Tryz.prog 20 #[.agg #[.slice ma ml mc,.slice ca cl cc,.slice sa sl sc,.slice ea el ec,.slice ua ul uc,.slice da dl dc,.int .i64 fr]] w fun e w'=>∃(xa:Option Addr) (xc:Nat) (ya:Option Addr) (yc:Nat) (za:Option Addr) (zc:Nat) (pa:Option Addr) (pc:Nat) (ta:Option Addr) (tc:Nat) (ra:Option Addr) (rc:Nat),e=.returned (.agg #[.slice xa ml xc,.slice ya cl yc,.slice za sl zc,.slice pa el pc,.slice ra ul rc,.slice ta dl tc,.int .i64 fr])∧Q1 (.agg #[.slice xa ml xc,.slice ya cl yc]) w'∧Q2 (.slice za sl zc) w'∧Q3 (.slice pa el pc) w'∧WsT (w.heap.size+2) (.slice ra ul rc) ws w'∧Q4 (.slice ta dl tc) w'∧Below w.heap.size w w':=by
 obtain ⟨hsl,hel⟩:=hll
 have iQ1:∀v,St (Q1 v):=fun v=>⟨kb1 v⟩
 have iQ2:∀v,St (Q2 v):=fun v=>⟨kb2 v⟩
 have iQ3:∀v,St (Q3 v):=fun v=>⟨kb3 v⟩
 have iQ4:∀v,St (Q4 v):=fun v=>⟨kb4 v⟩
 have KB1:=H_ kb1
 have KV1:=H_ kv1
 have KW1:=H_ kw1
 have KG1:=H_ kg1
 have KB2:=H_ kb2
 have KV2:=H_ kv2
 have KW2:=H_ kw2
 have KG2:=H_ kg2
 have KB3:=H_ kb3
 have KV3:=H_ kv3
 have KW3:=H_ kw3
 have KG3:=H_ kg3
 have KB4:=H_ kb4
 have KV4:=H_ kv4
 have KW4:=H_ kw4
 have KG4:=H_ kg4
 have C1:=H_ c1
 have C4:=H_ c4
 have HX2:=H_ x2
 have HX3:=H_ x3
 have HQ2:=H_ q2
 have HQ3:=H_ q3
 have HWN:=H_ hwn
 have HSM:=H_ hsm
 have HUL:=H_ hul
 clear kb1 kv1 kw1 kg1 kb2 kv2 kw2 kg2 kb3 kv3 kw3 kg3 kb4 kv4 kw4 kg4 c1 c4 x2 x3 q2 q3 hwn hsm hul
 obtain ⟨i0,i0h,i0z,i1z,i2z⟩:=info_parts infoSo
 obtain ⟨j0,j0h,j0z,j1z,j2z⟩:=info_parts SeenR.infoN
 obtain ⟨i9,hi,hz0,hz1,hz2⟩:=info_parts infoWi
 obtain ⟨W0,hW0⟩:∃z,z=(w.alloc (.cells #[.slice ma ml mc,.slice ca cl cc,.slice sa sl sc,.slice ea el ec,.slice ua ul uc,.slice da dl dc,.int .i64 fr] 42)).alloc (.cells #[.slice none 0 0,.slice none 0 0,.slice none 0 0,.slice none 0 0,.slice none 0 0,.slice none 0 0,.int .i64 0] 42):=⟨_,rfl⟩
 obtain ⟨bR,hbR⟩:∃z,z=w.heap.size+1:=⟨_,rfl⟩
 have hy0:CYc w bR [.slice ma ml mc,.slice ca cl cc,.slice sa sl sc,.slice ea el ec,.slice ua ul uc,.slice da dl dc,.int .i64 fr] [.slice none 0 0,.slice none 0 0,.slice none 0 0,.slice none 0 0,.slice none 0 0,.slice none 0 0,.int .i64 0] W0:=by
  rw [hW0,hbR]
  refine ⟨(al_ _ _).alloc (by simp) _,blkW_alloc (BlkW.new w [.slice ma ml mc,.slice ca cl cc,.slice sa sl sc,.slice ea el ec,.slice ua ul uc,.slice da dl dc,.int .i64 fr] 42) _,?_⟩
  have:=BlkW.new (w.alloc (.cells #[.slice ma ml mc,.slice ca cl cc,.slice sa sl sc,.slice ea el ec,.slice ua ul uc,.slice da dl dc,.int .i64 fr] 42)) [.slice none 0 0,.slice none 0 0,.slice none 0 0,.slice none 0 0,.slice none 0 0,.slice none 0 0,.int .i64 0] 42
  simpa using this
 have hlo:w.heap.size<bR:=by omega
 have hlo1:bR<w.heap.size+2:=by omega
 have HW:=H_ hW0
 have HBR:=H_ hbR
 clear hW0 hbR
 go_enter Tryz.func20,Tryz.ntmps20
 go_wp2_with fail
 rw [←HW.out,←HBR.out]
 clear HW HBR
 have h:=hy0.below (Below.refl W0.heap.size W0).drew
 clear hy0
 have hS:=s7E h.2.1.1
 refine wp_region_held_drew (S:=(fun W=>w.heap.size<W.heap.size∧W.cell? ⟨w.heap.size,0,none⟩=some (.slice ma ml mc)∧W.cell? ⟨w.heap.size,1,none⟩=some (.slice ca cl cc)∧W.cell? ⟨w.heap.size,2,none⟩=some (.slice sa sl sc)∧W.cell? ⟨w.heap.size,3,none⟩=some (.slice ea el ec)∧W.cell? ⟨w.heap.size,4,none⟩=some (.slice ua ul uc)∧W.cell? ⟨w.heap.size,5,none⟩=some (.slice da dl dc)∧W.cell? ⟨w.heap.size,6,none⟩=some (.int .i64 fr))) (by kernel_rfl) hS (fun hHeld=>?_)
 generalize W0.drew=W at *
 have HS:Hid (∀W,CYc w bR [.slice ma ml mc,.slice ca cl cc,.slice sa sl sc,.slice ea el ec,.slice ua ul uc,.slice da dl dc,.int .i64 fr] [.slice none 0 0,.slice none 0 0,.slice none 0 0,.slice none 0 0,.slice none 0 0,.slice none 0 0,.int .i64 0] W→(fun W=>w.heap.size<W.heap.size∧W.cell? ⟨w.heap.size,0,none⟩=some (.slice ma ml mc)∧W.cell? ⟨w.heap.size,1,none⟩=some (.slice ca cl cc)∧W.cell? ⟨w.heap.size,2,none⟩=some (.slice sa sl sc)∧W.cell? ⟨w.heap.size,3,none⟩=some (.slice ea el ec)∧W.cell? ⟨w.heap.size,4,none⟩=some (.slice ua ul uc)∧W.cell? ⟨w.heap.size,5,none⟩=some (.slice da dl dc)∧W.cell? ⟨w.heap.size,6,none⟩=some (.int .i64 fr)) W):=H_ (fun W h=>s7E h.2.1.1)
 have HC1:Hid (∀W,CYc w bR [.slice ma ml mc,.slice ca cl cc,.slice sa sl sc,.slice ea el ec,.slice ua ul uc,.slice da dl dc,.int .i64 fr] [.slice none 0 0,.slice none 0 0,.slice none 0 0,.slice none 0 0,.slice none 0 0,.slice none 0 0,.int .i64 0] W→Below w.heap.size w W):=H_ (fun W h=>h.1)
 have HC2:Hid (∀W,CYc w bR [.slice ma ml mc,.slice ca cl cc,.slice sa sl sc,.slice ea el ec,.slice ua ul uc,.slice da dl dc,.int .i64 fr] [.slice none 0 0,.slice none 0 0,.slice none 0 0,.slice none 0 0,.slice none 0 0,.slice none 0 0,.int .i64 0] W→w.heap.size+2≤W.heap.size):=H_ (fun W h=>by have:=h.2.2.1.1;omega)
 have HYZ:Hid (∀W,CYc w bR [.slice ma ml mc,.slice ca cl cc,.slice sa sl sc,.slice ea el ec,.slice ua ul uc,.slice da dl dc,.int .i64 fr] [.slice none 0 0,.slice none 0 0,.slice none 0 0,.slice none 0 0,.slice none 0 0,.slice none 0 0,.int .i64 0] W→Below w.heap.size w W∧BlkW w.heap.size [.slice ma ml mc,.slice ca cl cc,.slice sa sl sc,.slice ea el ec,.slice ua ul uc,.slice da dl dc,.int .i64 fr] W∧BlkW bR [.slice none 0 0,.slice none 0 0,.slice none 0 0,.slice none 0 0,.slice none 0 0,.slice none 0 0,.int .i64 0] W):=H_ (fun W h=>h)
 have A3:Hid (∀W,CYc w bR [.slice ma ml mc,.slice ca cl cc,.slice sa sl sc,.slice ea el ec,.slice ua ul uc,.slice da dl dc,.int .i64 fr] [.slice none 0 0,.slice none 0 0,.slice none 0 0,.slice none 0 0,.slice none 0 0,.slice none 0 0,.int .i64 0] W→∃W2 G,W.alloc (.cells #[] 63)=W2∧W.heap.size=G∧Below W.heap.size W W2∧e3F (w.heap.size+2) G W2):=H_ (fun W h=>⟨_,_,rfl,rfl,al1 _ _,LinR.own_empty W _ _ 2 (HC2.out W h)⟩)
 have A7:Hid (∀W,CYc w bR [.slice ma ml mc,.slice ca cl cc,.slice sa sl sc,.slice ea el ec,.slice ua ul uc,.slice da dl dc,.int .i64 fr] [.slice none 0 0,.slice none 0 0,.slice none 0 0,.slice none 0 0,.slice none 0 0,.slice none 0 0,.int .i64 0] W→∃W2 G,W.alloc (.cells #[] 110)=W2∧W.heap.size=G∧Below W.heap.size W W2∧e7F (w.heap.size+2) G W2):=H_ (fun W h=>⟨_,_,rfl,rfl,al1 _ _,LinR.own_empty W _ _ 3 (HC2.out W h)⟩)
 have AV:Hid (∀W,CYc w bR [.slice ma ml mc,.slice ca cl cc,.slice sa sl sc,.slice ea el ec,.slice ua ul uc,.slice da dl dc,.int .i64 fr] [.slice none 0 0,.slice none 0 0,.slice none 0 0,.slice none 0 0,.slice none 0 0,.slice none 0 0,.int .i64 0] W→∃W2 G,W.alloc (.cells #[.slice none 0 0,.slice none 0 0,.slice none 0 0,.slice none 0 0,.slice none 0 0,.slice none 0 0,.int .i64 0] 42)=W2∧W.heap.size=G∧Below W.heap.size W W2∧VZF bR [.slice none 0 0,.slice none 0 0,.slice none 0 0,.slice none 0 0,.slice none 0 0,.slice none 0 0,.int .i64 0] G W2):=H_ (fun W h=>⟨_,_,rfl,rfl,al1 _ _,vbt_new W [.slice none 0 0,.slice none 0 0,.slice none 0 0,.slice none 0 0,.slice none 0 0,.slice none 0 0,.int .i64 0],h.2.2.1.1⟩)
 have HVZ:Hid (∀b W,VZF bR [.slice none 0 0,.slice none 0 0,.slice none 0 0,.slice none 0 0,.slice none 0 0,.slice none 0 0,.int .i64 0] b W→VbT b [.slice none 0 0,.slice none 0 0,.slice none 0 0,.slice none 0 0,.slice none 0 0,.slice none 0 0,.int .i64 0] W∧bR<b):=H_ (fun b W h=>h)
 have iC:St (CYc w bR [.slice ma ml mc,.slice ca cl cc,.slice sa sl sc,.slice ea el ec,.slice ua ul uc,.slice da dl dc,.int .i64 fr] [.slice none 0 0,.slice none 0 0,.slice none 0 0,.slice none 0 0,.slice none 0 0,.slice none 0 0,.int .i64 0]):=inferInstance
 have iV:∀b,St (VZF bR [.slice none 0 0,.slice none 0 0,.slice none 0 0,.slice none 0 0,.slice none 0 0,.slice none 0 0,.int .i64 0] b):=fun b=>inferInstance
 generalize hCY:CYc w bR [.slice ma ml mc,.slice ca cl cc,.slice sa sl sc,.slice ea el ec,.slice ua ul uc,.slice da dl dc,.int .i64 fr] [.slice none 0 0,.slice none 0 0,.slice none 0 0,.slice none 0 0,.slice none 0 0,.slice none 0 0,.int .i64 0]=CY at h HS HC1 HC2 HYZ A3 A7 AV iC
 generalize hVZ:VZF bR [.slice none 0 0,.slice none 0 0,.slice none 0 0,.slice none 0 0,.slice none 0 0,.slice none 0 0,.int .i64 0]=VZ at AV HVZ iV
 clear hCY hVZ
 apply mmANANANANANNNN (fun xa xc ya yc za zc pa pc ta tc g3 g7 bV W=>CY W∧Q1 (.agg #[.slice xa ml xc,.slice ya cl yc]) W∧Q2 (.slice za sl zc) W∧Q3 (.slice pa el pc) W∧Q4 (.slice ta dl tc) W∧VZ bV W)
 intro N2_3_6_7_10_13_17
 apply mmANANANANANNNN (fun xa xc ya yc za zc pa pc ta tc g3 g7 bV W=>CY W∧Q1 (.agg #[.slice xa ml xc,.slice ya cl yc]) W∧Q2 (.slice za sl zc) W∧Q3 (.slice pa el pc) W∧Q4 (.slice ta dl tc) W)
 intro N2_3_6_7_10_13
 apply mmANANANANANNNN (fun xa xc ya yc za zc pa pc ta tc g3 g7 bV W=>CY W∧Q1 (.agg #[.slice xa ml xc,.slice ya cl yc]) W∧Q2 (.slice za sl zc) W∧Q3 (.slice pa el pc) W∧VZ bV W)
 intro N2_3_6_7_10_17
 apply mmANANANANANNNN (fun xa xc ya yc za zc pa pc ta tc g3 g7 bV W=>CY W∧Q1 (.agg #[.slice xa ml xc,.slice ya cl yc]) W∧Q2 (.slice za sl zc) W∧Q3 (.slice pa el pc) W)
 intro N2_3_6_7_10
 apply mmANANANANANNNN (fun xa xc ya yc za zc pa pc ta tc g3 g7 bV W=>CY W∧Q1 (.agg #[.slice xa ml xc,.slice ya cl yc]) W∧Q2 (.slice za sl zc) W∧e7F (w.heap.size+2) g7 W∧VZ bV W)
 intro N2_3_6_7_17
 apply mmANANANANANNNN (fun xa xc ya yc za zc pa pc ta tc g3 g7 bV W=>CY W∧Q1 (.agg #[.slice xa ml xc,.slice ya cl yc]) W∧Q2 (.slice za sl zc) W∧e7F (w.heap.size+2) g7 W)
 intro N2_3_6_7
 apply mmANANANANANNNN (fun xa xc ya yc za zc pa pc ta tc g3 g7 bV W=>CY W∧Q1 (.agg #[.slice xa ml xc,.slice ya cl yc]) W∧Q2 (.slice za sl zc) W∧VZ bV W)
 intro N2_3_6_17
 apply mmANANANANANNNN (fun xa xc ya yc za zc pa pc ta tc g3 g7 bV W=>CY W∧Q1 (.agg #[.slice xa ml xc,.slice ya cl yc]) W∧e3F (w.heap.size+2) g3 W∧e7F (w.heap.size+2) g7 W∧VZ bV W)
 intro N2_3_7_17
 apply mmANANANANANNNN (fun xa xc ya yc za zc pa pc ta tc g3 g7 bV W=>CY W∧Q1 (.agg #[.slice xa ml xc,.slice ya cl yc]) W∧Q2 (.slice za sl zc) W)
 intro N2_3_6
 apply mmANANANANANNNN (fun xa xc ya yc za zc pa pc ta tc g3 g7 bV W=>CY W∧Q1 (.agg #[.slice xa ml xc,.slice ya cl yc]) W∧e3F (w.heap.size+2) g3 W∧e7F (w.heap.size+2) g7 W)
 intro N2_3_7
 apply mmANANANANANNNN (fun xa xc ya yc za zc pa pc ta tc g3 g7 bV W=>CY W∧Q1 (.agg #[.slice xa ml xc,.slice ya cl yc]) W∧e3F (w.heap.size+2) g3 W∧VZ bV W)
 intro N2_3_17
 apply mmANANANANANNNN (fun xa xc ya yc za zc pa pc ta tc g3 g7 bV W=>CY W∧Q1 (.agg #[.slice xa ml xc,.slice ya cl yc]) W∧e7F (w.heap.size+2) g7 W∧VZ bV W)
 intro N2_7_17
 apply mmANANANANANNNN (fun xa xc ya yc za zc pa pc ta tc g3 g7 bV W=>CY W∧e3F (w.heap.size+2) g3 W∧e7F (w.heap.size+2) g7 W∧VZ bV W)
 intro N3_7_17
 apply mmANANANANANNNN (fun xa xc ya yc za zc pa pc ta tc g3 g7 bV W=>CY W∧Q1 (.agg #[.slice xa ml xc,.slice ya cl yc]) W∧e3F (w.heap.size+2) g3 W)
 intro N2_3
 apply mmANANANANANNNN (fun xa xc ya yc za zc pa pc ta tc g3 g7 bV W=>CY W∧Q1 (.agg #[.slice xa ml xc,.slice ya cl yc]) W∧e7F (w.heap.size+2) g7 W)
 intro N2_7
 apply mmANANANANANNNN (fun xa xc ya yc za zc pa pc ta tc g3 g7 bV W=>CY W∧Q1 (.agg #[.slice xa ml xc,.slice ya cl yc]) W∧VZ bV W)
 intro N2_17
 apply mmANANANANANNNN (fun xa xc ya yc za zc pa pc ta tc g3 g7 bV W=>CY W∧e3F (w.heap.size+2) g3 W∧e7F (w.heap.size+2) g7 W)
 intro N3_7
 apply mmANANANANANNNN (fun xa xc ya yc za zc pa pc ta tc g3 g7 bV W=>CY W∧e3F (w.heap.size+2) g3 W∧VZ bV W)
 intro N3_17
 apply mmANANANANANNNN (fun xa xc ya yc za zc pa pc ta tc g3 g7 bV W=>CY W∧e7F (w.heap.size+2) g7 W∧VZ bV W)
 intro N7_17
 apply mmANANANANANNNN (fun xa xc ya yc za zc pa pc ta tc g3 g7 bV W=>CY W∧Q1 (.agg #[.slice xa ml xc,.slice ya cl yc]) W)
 intro N2
 apply mmANANANANANNNN (fun xa xc ya yc za zc pa pc ta tc g3 g7 bV W=>CY W∧e3F (w.heap.size+2) g3 W)
 intro N3
 apply mmANANANANANNNN (fun xa xc ya yc za zc pa pc ta tc g3 g7 bV W=>CY W∧e7F (w.heap.size+2) g7 W)
 intro N7
 apply mmANANANANANNNN (fun xa xc ya yc za zc pa pc ta tc g3 g7 bV W=>CY W∧VZ bV W)
 intro N17
 ·obtain ⟨xa,-⟩:∃z:Option Addr,True:=⟨none,trivial⟩
  obtain ⟨xc,-⟩:∃z:Nat,True:=⟨0,trivial⟩
  obtain ⟨ya,-⟩:∃z:Option Addr,True:=⟨none,trivial⟩
  obtain ⟨yc,-⟩:∃z:Nat,True:=⟨0,trivial⟩
  obtain ⟨za,-⟩:∃z:Option Addr,True:=⟨none,trivial⟩
  obtain ⟨zc,-⟩:∃z:Nat,True:=⟨0,trivial⟩
  obtain ⟨pa,-⟩:∃z:Option Addr,True:=⟨none,trivial⟩
  obtain ⟨pc,-⟩:∃z:Nat,True:=⟨0,trivial⟩
  obtain ⟨ta,-⟩:∃z:Option Addr,True:=⟨none,trivial⟩
  obtain ⟨tc,-⟩:∃z:Nat,True:=⟨0,trivial⟩
  obtain ⟨g3,-⟩:∃z:Nat,True:=⟨0,trivial⟩
  obtain ⟨g7,-⟩:∃z:Nat,True:=⟨0,trivial⟩
  obtain ⟨bV,-⟩:∃z:Nat,True:=⟨0,trivial⟩
  refine tk 0 ?_
  refine tk 1 ?_
  refine tk 4 ?_
  refine tk 5 ?_
  refine tk 8 ?_
  refine tk 9 ?_
  refine tk 11 ?_
  refine tk 12 ?_
  refine tk 14 ?_
  refine tk 15 ?_
  refine rd4 2 3 7 17 (fun K hK=>?_) (fun K hK=>?_) (fun K hK=>?_) (fun K hK=>?_)
  ·go_simp
   go_at_call 60
   refine (C1.out _ (HC1.out _ h) (HC2.out _ h)).mono ?_
   rintro e w' ⟨xa,xc,ya,yc,rfl,hq,hb⟩
   try go_wp2_with fail
   have h':=st1 hb h
   refine hK.out _ _ (HS.out _ h') (fun _=>?_)
   clear hK K
   try simp only [Act.put,SL]
   exact N2.out xa xc ya yc za zc pa pc ta tc g3 g7 bV w' ⟨h',hq⟩
  ·go_simp
   try go_wp2_with fail
   obtain ⟨W2,G,e,e2,hb,hn⟩:=A3.out W h
   rw [e,e2]
   clear e e2
   have h':=st1 hb h
   refine hK.out _ _ (HS.out _ h') (fun _=>?_)
   clear hK K
   try simp only [Act.put,SL]
   exact N3.out xa xc ya yc za zc pa pc ta tc G g7 bV W2 ⟨h',hn⟩
  ·go_simp
   try go_wp2_with fail
   obtain ⟨W2,G,e,e2,hb,hn⟩:=A7.out W h
   rw [e,e2]
   clear e e2
   have h':=st1 hb h
   refine hK.out _ _ (HS.out _ h') (fun _=>?_)
   clear hK K
   try simp only [Act.put,SL]
   exact N7.out xa xc ya yc za zc pa pc ta tc g3 G bV W2 ⟨h',hn⟩
  ·go_simp
   try go_wp2_with fail
   obtain ⟨W2,G,e,e2,hb,hn⟩:=AV.out W h
   rw [e,e2]
   clear e e2
   have h':=st1 hb h
   refine hK.out _ _ (HS.out _ h') (fun _=>?_)
   clear hK K
   try simp only [Act.put,SL]
   exact N17.out xa xc ya yc za zc pa pc ta tc g3 g7 G W2 ⟨h',hn⟩
 ·intro xa xc ya yc za zc pa pc ta tc g3 g7 bV W h
  refine rd3 2 3 7 (fun K hK=>?_) (fun K hK=>?_) (fun K hK=>?_)
  ·go_simp
   go_at_call 60
   refine (C1.out _ (HC1.out _ h.1) (HC2.out _ h.1)).mono ?_
   rintro e w' ⟨xa,xc,ya,yc,rfl,hq,hb⟩
   try go_wp2_with fail
   have h':=st2 hb h
   refine hK.out _ _ (HS.out _ h'.1) (fun _=>?_)
   clear hK K
   try simp only [Act.put,SL]
   exact N2_17.out xa xc ya yc za zc pa pc ta tc g3 g7 bV w' ⟨h'.1,hq,h'.2⟩
  ·go_simp
   try go_wp2_with fail
   obtain ⟨W2,G,e,e2,hb,hn⟩:=A3.out W h.1
   rw [e,e2]
   clear e e2
   have h':=st2 hb h
   refine hK.out _ _ (HS.out _ h'.1) (fun _=>?_)
   clear hK K
   try simp only [Act.put,SL]
   exact N3_17.out xa xc ya yc za zc pa pc ta tc G g7 bV W2 ⟨h'.1,hn,h'.2⟩
  ·go_simp
   try go_wp2_with fail
   obtain ⟨W2,G,e,e2,hb,hn⟩:=A7.out W h.1
   rw [e,e2]
   clear e e2
   have h':=st2 hb h
   refine hK.out _ _ (HS.out _ h'.1) (fun _=>?_)
   clear hK K
   try simp only [Act.put,SL]
   exact N7_17.out xa xc ya yc za zc pa pc ta tc g3 G bV W2 ⟨h'.1,hn,h'.2⟩
 ·intro xa xc ya yc za zc pa pc ta tc g3 g7 bV W h
  refine rd3 2 3 17 (fun K hK=>?_) (fun K hK=>?_) (fun K hK=>?_)
  ·go_simp
   go_at_call 60
   refine (C1.out _ (HC1.out _ h.1) (HC2.out _ h.1)).mono ?_
   rintro e w' ⟨xa,xc,ya,yc,rfl,hq,hb⟩
   try go_wp2_with fail
   have h':=st2 hb h
   refine hK.out _ _ (HS.out _ h'.1) (fun _=>?_)
   clear hK K
   try simp only [Act.put,SL]
   exact N2_7.out xa xc ya yc za zc pa pc ta tc g3 g7 bV w' ⟨h'.1,hq,h'.2⟩
  ·go_simp
   try go_wp2_with fail
   obtain ⟨W2,G,e,e2,hb,hn⟩:=A3.out W h.1
   rw [e,e2]
   clear e e2
   have h':=st2 hb h
   refine hK.out _ _ (HS.out _ h'.1) (fun _=>?_)
   clear hK K
   try simp only [Act.put,SL]
   exact N3_7.out xa xc ya yc za zc pa pc ta tc G g7 bV W2 ⟨h'.1,hn,h'.2⟩
  ·go_simp
   try go_wp2_with fail
   obtain ⟨W2,G,e,e2,hb,hn⟩:=AV.out W h.1
   rw [e,e2]
   clear e e2
   have h':=st2 hb h
   refine hK.out _ _ (HS.out _ h'.1) (fun _=>?_)
   clear hK K
   try simp only [Act.put,SL]
   exact N7_17.out xa xc ya yc za zc pa pc ta tc g3 g7 G W2 ⟨h'.1,h'.2,hn⟩
 ·intro xa xc ya yc za zc pa pc ta tc g3 g7 bV W h
  refine rd3 2 7 17 (fun K hK=>?_) (fun K hK=>?_) (fun K hK=>?_)
  ·go_simp
   go_at_call 60
   refine (C1.out _ (HC1.out _ h.1) (HC2.out _ h.1)).mono ?_
   rintro e w' ⟨xa,xc,ya,yc,rfl,hq,hb⟩
   try go_wp2_with fail
   have h':=st2 hb h
   refine hK.out _ _ (HS.out _ h'.1) (fun _=>?_)
   clear hK K
   try simp only [Act.put,SL]
   exact N2_3.out xa xc ya yc za zc pa pc ta tc g3 g7 bV w' ⟨h'.1,hq,h'.2⟩
  ·go_simp
   try go_wp2_with fail
   obtain ⟨W2,G,e,e2,hb,hn⟩:=A7.out W h.1
   rw [e,e2]
   clear e e2
   have h':=st2 hb h
   refine hK.out _ _ (HS.out _ h'.1) (fun _=>?_)
   clear hK K
   try simp only [Act.put,SL]
   exact N3_7.out xa xc ya yc za zc pa pc ta tc g3 G bV W2 ⟨h'.1,h'.2,hn⟩
  ·go_simp
   try go_wp2_with fail
   obtain ⟨W2,G,e,e2,hb,hn⟩:=AV.out W h.1
   rw [e,e2]
   clear e e2
   have h':=st2 hb h
   refine hK.out _ _ (HS.out _ h'.1) (fun _=>?_)
   clear hK K
   try simp only [Act.put,SL]
   exact N3_17.out xa xc ya yc za zc pa pc ta tc g3 g7 G W2 ⟨h'.1,h'.2,hn⟩
 ·intro xa xc ya yc za zc pa pc ta tc g3 g7 bV W h
  refine rd3 3 7 17 (fun K hK=>?_) (fun K hK=>?_) (fun K hK=>?_)
  ·go_simp
   try go_wp2_with fail
   obtain ⟨W2,G,e,e2,hb,hn⟩:=A3.out W h.1
   rw [e,e2]
   clear e e2
   have h':=st2 hb h
   refine hK.out _ _ (HS.out _ h'.1) (fun _=>?_)
   clear hK K
   try simp only [Act.put,SL]
   exact N2_3.out xa xc ya yc za zc pa pc ta tc G g7 bV W2 ⟨h'.1,h'.2,hn⟩
  ·go_simp
   try go_wp2_with fail
   obtain ⟨W2,G,e,e2,hb,hn⟩:=A7.out W h.1
   rw [e,e2]
   clear e e2
   have h':=st2 hb h
   refine hK.out _ _ (HS.out _ h'.1) (fun _=>?_)
   clear hK K
   try simp only [Act.put,SL]
   exact N2_7.out xa xc ya yc za zc pa pc ta tc g3 G bV W2 ⟨h'.1,h'.2,hn⟩
  ·go_simp
   try go_wp2_with fail
   obtain ⟨W2,G,e,e2,hb,hn⟩:=AV.out W h.1
   rw [e,e2]
   clear e e2
   have h':=st2 hb h
   refine hK.out _ _ (HS.out _ h'.1) (fun _=>?_)
   clear hK K
   try simp only [Act.put,SL]
   exact N2_17.out xa xc ya yc za zc pa pc ta tc g3 g7 G W2 ⟨h'.1,h'.2,hn⟩
 ·intro xa xc ya yc za zc pa pc ta tc g3 g7 bV W h
  refine rd2 2 3 (fun K hK=>?_) (fun K hK=>?_)
  ·go_simp
   go_at_call 60
   refine (C1.out _ (HC1.out _ h.1) (HC2.out _ h.1)).mono ?_
   rintro e w' ⟨xa,xc,ya,yc,rfl,hq,hb⟩
   try go_wp2_with fail
   have h':=st3 hb h
   refine hK.out _ _ (HS.out _ h'.1) (fun _=>?_)
   clear hK K
   try simp only [Act.put,SL]
   exact N2_7_17.out xa xc ya yc za zc pa pc ta tc g3 g7 bV w' ⟨h'.1,hq,h'.2.1,h'.2.2⟩
  ·go_simp
   try go_wp2_with fail
   obtain ⟨W2,G,e,e2,hb,hn⟩:=A3.out W h.1
   rw [e,e2]
   clear e e2
   have h':=st3 hb h
   refine hK.out _ _ (HS.out _ h'.1) (fun _=>?_)
   clear hK K
   try simp only [Act.put,SL]
   exact N3_7_17.out xa xc ya yc za zc pa pc ta tc G g7 bV W2 ⟨h'.1,hn,h'.2.1,h'.2.2⟩
 ·intro xa xc ya yc za zc pa pc ta tc g3 g7 bV W h
  refine rd2 2 7 (fun K hK=>?_) (fun K hK=>?_)
  ·go_simp
   go_at_call 60
   refine (C1.out _ (HC1.out _ h.1) (HC2.out _ h.1)).mono ?_
   rintro e w' ⟨xa,xc,ya,yc,rfl,hq,hb⟩
   try go_wp2_with fail
   have h':=st3 hb h
   refine hK.out _ _ (HS.out _ h'.1) (fun _=>?_)
   clear hK K
   try simp only [Act.put,SL]
   exact N2_3_17.out xa xc ya yc za zc pa pc ta tc g3 g7 bV w' ⟨h'.1,hq,h'.2.1,h'.2.2⟩
  ·go_simp
   try go_wp2_with fail
   obtain ⟨W2,G,e,e2,hb,hn⟩:=A7.out W h.1
   rw [e,e2]
   clear e e2
   have h':=st3 hb h
   refine hK.out _ _ (HS.out _ h'.1) (fun _=>?_)
   clear hK K
   try simp only [Act.put,SL]
   exact N3_7_17.out xa xc ya yc za zc pa pc ta tc g3 G bV W2 ⟨h'.1,h'.2.1,hn,h'.2.2⟩
 ·intro xa xc ya yc za zc pa pc ta tc g3 g7 bV W h
  refine rd2 2 17 (fun K hK=>?_) (fun K hK=>?_)
  ·go_simp
   go_at_call 60
   refine (C1.out _ (HC1.out _ h.1) (HC2.out _ h.1)).mono ?_
   rintro e w' ⟨xa,xc,ya,yc,rfl,hq,hb⟩
   try go_wp2_with fail
   have h':=st3 hb h
   refine hK.out _ _ (HS.out _ h'.1) (fun _=>?_)
   clear hK K
   try simp only [Act.put,SL]
   exact N2_3_7.out xa xc ya yc za zc pa pc ta tc g3 g7 bV w' ⟨h'.1,hq,h'.2.1,h'.2.2⟩
  ·go_simp
   try go_wp2_with fail
   obtain ⟨W2,G,e,e2,hb,hn⟩:=AV.out W h.1
   rw [e,e2]
   clear e e2
   have h':=st3 hb h
   refine hK.out _ _ (HS.out _ h'.1) (fun _=>?_)
   clear hK K
   try simp only [Act.put,SL]
   exact N3_7_17.out xa xc ya yc za zc pa pc ta tc g3 g7 G W2 ⟨h'.1,h'.2.1,h'.2.2,hn⟩
 ·intro xa xc ya yc za zc pa pc ta tc g3 g7 bV W h
  refine rd2 3 7 (fun K hK=>?_) (fun K hK=>?_)
  ·go_simp
   try go_wp2_with fail
   obtain ⟨W2,G,e,e2,hb,hn⟩:=A3.out W h.1
   rw [e,e2]
   clear e e2
   have h':=st3 hb h
   refine hK.out _ _ (HS.out _ h'.1) (fun _=>?_)
   clear hK K
   try simp only [Act.put,SL]
   exact N2_3_17.out xa xc ya yc za zc pa pc ta tc G g7 bV W2 ⟨h'.1,h'.2.1,hn,h'.2.2⟩
  ·go_simp
   try go_wp2_with fail
   obtain ⟨W2,G,e,e2,hb,hn⟩:=A7.out W h.1
   rw [e,e2]
   clear e e2
   have h':=st3 hb h
   refine hK.out _ _ (HS.out _ h'.1) (fun _=>?_)
   clear hK K
   try simp only [Act.put,SL]
   exact N2_7_17.out xa xc ya yc za zc pa pc ta tc g3 G bV W2 ⟨h'.1,h'.2.1,hn,h'.2.2⟩
 ·intro xa xc ya yc za zc pa pc ta tc g3 g7 bV W h
  refine rd2 3 17 (fun K hK=>?_) (fun K hK=>?_)
  ·go_simp
   try go_wp2_with fail
   obtain ⟨W2,G,e,e2,hb,hn⟩:=A3.out W h.1
   rw [e,e2]
   clear e e2
   have h':=st3 hb h
   refine hK.out _ _ (HS.out _ h'.1) (fun _=>?_)
   clear hK K
   try simp only [Act.put,SL]
   exact N2_3_7.out xa xc ya yc za zc pa pc ta tc G g7 bV W2 ⟨h'.1,h'.2.1,hn,h'.2.2⟩
  ·go_simp
   try go_wp2_with fail
   obtain ⟨W2,G,e,e2,hb,hn⟩:=AV.out W h.1
   rw [e,e2]
   clear e e2
   have h':=st3 hb h
   refine hK.out _ _ (HS.out _ h'.1) (fun _=>?_)
   clear hK K
   try simp only [Act.put,SL]
   exact N2_7_17.out xa xc ya yc za zc pa pc ta tc g3 g7 G W2 ⟨h'.1,h'.2.1,h'.2.2,hn⟩
 ·intro xa xc ya yc za zc pa pc ta tc g3 g7 bV W h
  refine rd3 6 7 17 (fun K hK=>?_) (fun K hK=>?_) (fun K hK=>?_)
  ·refine step_app_e rfl _ _ 37 rfl (w.heap.size+2) 63 i0 (.agg #[.string ⟨#[]⟩,.int .i64 0]) 2 24 Tryz.underlying37 i0h i0z i1z i2z rfl (by decide) _ rfl h.2.2 sa sl sc CS rfl HX2.out.1 (HX2.out.2.1 _ (HC1.out _ h.1)) HX2.out.2.2 (by unfold maxLen;omega) (by omega) (HC2.out _ h.1) ?_
   intro za zc w' hown hb
   have h':=st3 hb h
   have hq:=HQ2.out _ _ _ hown
   refine hK.out _ _ (HS.out _ h'.1) (fun _=>?_)
   clear hK K
   try simp only [Act.put,SL]
   exact N2_3_6.out xa xc ya yc za zc pa pc ta tc g3 g7 bV w' ⟨h'.1,h'.2.1,hq⟩
  ·go_simp
   try go_wp2_with fail
   obtain ⟨W2,G,e,e2,hb,hn⟩:=A7.out W h.1
   rw [e,e2]
   clear e e2
   have h':=st3 hb h
   refine hK.out _ _ (HS.out _ h'.1) (fun _=>?_)
   clear hK K
   try simp only [Act.put,SL]
   exact N2_3_7.out xa xc ya yc za zc pa pc ta tc g3 G bV W2 ⟨h'.1,h'.2.1,h'.2.2,hn⟩
  ·go_simp
   try go_wp2_with fail
   obtain ⟨W2,G,e,e2,hb,hn⟩:=AV.out W h.1
   rw [e,e2]
   clear e e2
   have h':=st3 hb h
   refine hK.out _ _ (HS.out _ h'.1) (fun _=>?_)
   clear hK K
   try simp only [Act.put,SL]
   exact N2_3_17.out xa xc ya yc za zc pa pc ta tc g3 g7 G W2 ⟨h'.1,h'.2.1,h'.2.2,hn⟩
 ·intro xa xc ya yc za zc pa pc ta tc g3 g7 bV W h
  refine rd 2 (fun K hK=>?_)
  go_simp
  go_at_call 60
  refine (C1.out _ (HC1.out _ h.1) (HC2.out _ h.1)).mono ?_
  rintro e w' ⟨xa,xc,ya,yc,rfl,hq,hb⟩
  try go_wp2_with fail
  have h':=st4 hb h
  refine hK.out _ _ (HS.out _ h'.1) (fun _=>?_)
  clear hK K
  try simp only [Act.put,SL]
  exact N2_3_7_17.out xa xc ya yc za zc pa pc ta tc g3 g7 bV w' ⟨h'.1,hq,h'.2.1,h'.2.2.1,h'.2.2.2⟩
 ·intro xa xc ya yc za zc pa pc ta tc g3 g7 bV W h
  refine rd 3 (fun K hK=>?_)
  go_simp
  try go_wp2_with fail
  obtain ⟨W2,G,e,e2,hb,hn⟩:=A3.out W h.1
  rw [e,e2]
  clear e e2
  have h':=st4 hb h
  refine hK.out _ _ (HS.out _ h'.1) (fun _=>?_)
  clear hK K
  try simp only [Act.put,SL]
  exact N2_3_7_17.out xa xc ya yc za zc pa pc ta tc G g7 bV W2 ⟨h'.1,h'.2.1,hn,h'.2.2.1,h'.2.2.2⟩
 ·intro xa xc ya yc za zc pa pc ta tc g3 g7 bV W h
  refine rd2 6 7 (fun K hK=>?_) (fun K hK=>?_)
  ·refine step_app_e rfl _ _ 37 rfl (w.heap.size+2) 63 i0 (.agg #[.string ⟨#[]⟩,.int .i64 0]) 2 24 Tryz.underlying37 i0h i0z i1z i2z rfl (by decide) _ rfl h.2.2.1 sa sl sc CS rfl HX2.out.1 (HX2.out.2.1 _ (HC1.out _ h.1)) HX2.out.2.2 (by unfold maxLen;omega) (by omega) (HC2.out _ h.1) ?_
   intro za zc w' hown hb
   have h':=st4 hb h
   have hq:=HQ2.out _ _ _ hown
   refine hK.out _ _ (HS.out _ h'.1) (fun _=>?_)
   clear hK K
   try simp only [Act.put,SL]
   exact N2_3_6_17.out xa xc ya yc za zc pa pc ta tc g3 g7 bV w' ⟨h'.1,h'.2.1,hq,h'.2.2.2⟩
  ·go_simp
   try go_wp2_with fail
   obtain ⟨W2,G,e,e2,hb,hn⟩:=A7.out W h.1
   rw [e,e2]
   clear e e2
   have h':=st4 hb h
   refine hK.out _ _ (HS.out _ h'.1) (fun _=>?_)
   clear hK K
   try simp only [Act.put,SL]
   exact N2_3_7_17.out xa xc ya yc za zc pa pc ta tc g3 G bV W2 ⟨h'.1,h'.2.1,h'.2.2.1,hn,h'.2.2.2⟩
 ·intro xa xc ya yc za zc pa pc ta tc g3 g7 bV W h
  refine rd2 6 17 (fun K hK=>?_) (fun K hK=>?_)
  ·refine step_app_e rfl _ _ 37 rfl (w.heap.size+2) 63 i0 (.agg #[.string ⟨#[]⟩,.int .i64 0]) 2 24 Tryz.underlying37 i0h i0z i1z i2z rfl (by decide) _ rfl h.2.2.1 sa sl sc CS rfl HX2.out.1 (HX2.out.2.1 _ (HC1.out _ h.1)) HX2.out.2.2 (by unfold maxLen;omega) (by omega) (HC2.out _ h.1) ?_
   intro za zc w' hown hb
   have h':=st4 hb h
   have hq:=HQ2.out _ _ _ hown
   refine hK.out _ _ (HS.out _ h'.1) (fun _=>?_)
   clear hK K
   try simp only [Act.put,SL]
   exact N2_3_6_7.out xa xc ya yc za zc pa pc ta tc g3 g7 bV w' ⟨h'.1,h'.2.1,hq,h'.2.2.2⟩
  ·go_simp
   try go_wp2_with fail
   obtain ⟨W2,G,e,e2,hb,hn⟩:=AV.out W h.1
   rw [e,e2]
   clear e e2
   have h':=st4 hb h
   refine hK.out _ _ (HS.out _ h'.1) (fun _=>?_)
   clear hK K
   try simp only [Act.put,SL]
   exact N2_3_7_17.out xa xc ya yc za zc pa pc ta tc g3 g7 G W2 ⟨h'.1,h'.2.1,h'.2.2.1,h'.2.2.2,hn⟩
 ·intro xa xc ya yc za zc pa pc ta tc g3 g7 bV W h
  refine rd2 7 17 (fun K hK=>?_) (fun K hK=>?_)
  ·go_simp
   try go_wp2_with fail
   obtain ⟨W2,G,e,e2,hb,hn⟩:=A7.out W h.1
   rw [e,e2]
   clear e e2
   have h':=st3 hb h
   refine hK.out _ _ (HS.out _ h'.1) (fun _=>?_)
   clear hK K
   try simp only [Act.put,SL]
   exact N2_3_6_7.out xa xc ya yc za zc pa pc ta tc g3 G bV W2 ⟨h'.1,h'.2.1,h'.2.2,hn⟩
  ·go_simp
   try go_wp2_with fail
   obtain ⟨W2,G,e,e2,hb,hn⟩:=AV.out W h.1
   rw [e,e2]
   clear e e2
   have h':=st3 hb h
   refine hK.out _ _ (HS.out _ h'.1) (fun _=>?_)
   clear hK K
   try simp only [Act.put,SL]
   exact N2_3_6_17.out xa xc ya yc za zc pa pc ta tc g3 g7 G W2 ⟨h'.1,h'.2.1,h'.2.2,hn⟩
 ·intro xa xc ya yc za zc pa pc ta tc g3 g7 bV W h
  refine rd 6 (fun K hK=>?_)
  refine step_app_e rfl _ _ 37 rfl (w.heap.size+2) 63 i0 (.agg #[.string ⟨#[]⟩,.int .i64 0]) 2 24 Tryz.underlying37 i0h i0z i1z i2z rfl (by decide) _ rfl h.2.2.1 sa sl sc CS rfl HX2.out.1 (HX2.out.2.1 _ (HC1.out _ h.1)) HX2.out.2.2 (by unfold maxLen;omega) (by omega) (HC2.out _ h.1) ?_
  intro za zc w' hown hb
  have h':=st5 hb h
  have hq:=HQ2.out _ _ _ hown
  refine hK.out _ _ (HS.out _ h'.1) (fun _=>?_)
  clear hK K
  try simp only [Act.put,SL]
  exact N2_3_6_7_17.out xa xc ya yc za zc pa pc ta tc g3 g7 bV w' ⟨h'.1,h'.2.1,hq,h'.2.2.2.1,h'.2.2.2.2⟩
 ·intro xa xc ya yc za zc pa pc ta tc g3 g7 bV W h
  refine rd 7 (fun K hK=>?_)
  go_simp
  try go_wp2_with fail
  obtain ⟨W2,G,e,e2,hb,hn⟩:=A7.out W h.1
  rw [e,e2]
  clear e e2
  have h':=st4 hb h
  refine hK.out _ _ (HS.out _ h'.1) (fun _=>?_)
  clear hK K
  try simp only [Act.put,SL]
  exact N2_3_6_7_17.out xa xc ya yc za zc pa pc ta tc g3 G bV W2 ⟨h'.1,h'.2.1,h'.2.2.1,hn,h'.2.2.2⟩
 ·intro xa xc ya yc za zc pa pc ta tc g3 g7 bV W h
  refine rd2 10 17 (fun K hK=>?_) (fun K hK=>?_)
  ·refine step_app_e rfl _ _ 38 rfl (w.heap.size+2) 110 j0 (.agg #[.string ⟨#[]⟩,.int .i64 0,.int .i64 0]) 3 32 Tryz.underlying38 j0h j0z j1z j2z rfl (by decide) _ rfl h.2.2.2 ea el ec CE rfl HX3.out.1 (HX3.out.2.1 _ (HC1.out _ h.1)) HX3.out.2.2 (by unfold maxLen;omega) (by omega) (HC2.out _ h.1) ?_
   intro pa pc w' hown hb
   have h':=st4 hb h
   have hq:=HQ3.out _ _ _ hown
   refine hK.out _ _ (HS.out _ h'.1) (fun _=>?_)
   clear hK K
   try simp only [Act.put,SL]
   exact N2_3_6_7_10.out xa xc ya yc za zc pa pc ta tc g3 g7 bV w' ⟨h'.1,h'.2.1,h'.2.2.1,hq⟩
  ·go_simp
   try go_wp2_with fail
   obtain ⟨W2,G,e,e2,hb,hn⟩:=AV.out W h.1
   rw [e,e2]
   clear e e2
   have h':=st4 hb h
   refine hK.out _ _ (HS.out _ h'.1) (fun _=>?_)
   clear hK K
   try simp only [Act.put,SL]
   exact N2_3_6_7_17.out xa xc ya yc za zc pa pc ta tc g3 g7 G W2 ⟨h'.1,h'.2.1,h'.2.2.1,h'.2.2.2,hn⟩
 ·intro xa xc ya yc za zc pa pc ta tc g3 g7 bV W h
  refine rd 10 (fun K hK=>?_)
  refine step_app_e rfl _ _ 38 rfl (w.heap.size+2) 110 j0 (.agg #[.string ⟨#[]⟩,.int .i64 0,.int .i64 0]) 3 32 Tryz.underlying38 j0h j0z j1z j2z rfl (by decide) _ rfl h.2.2.2.1 ea el ec CE rfl HX3.out.1 (HX3.out.2.1 _ (HC1.out _ h.1)) HX3.out.2.2 (by unfold maxLen;omega) (by omega) (HC2.out _ h.1) ?_
  intro pa pc w' hown hb
  have h':=st5 hb h
  have hq:=HQ3.out _ _ _ hown
  refine hK.out _ _ (HS.out _ h'.1) (fun _=>?_)
  clear hK K
  try simp only [Act.put,SL]
  exact N2_3_6_7_10_17.out xa xc ya yc za zc pa pc ta tc g3 g7 bV w' ⟨h'.1,h'.2.1,h'.2.2.1,hq,h'.2.2.2.2⟩
 ·intro xa xc ya yc za zc pa pc ta tc g3 g7 bV W h
  refine rd2 13 17 (fun K hK=>?_) (fun K hK=>?_)
  ·go_simp
   go_at_call 61
   refine (C4.out _ (HC1.out _ h.1) (HC2.out _ h.1)).mono ?_
   rintro e w' ⟨ta,tc,rfl,hq,hb⟩
   try go_wp2_with fail
   have h':=st4 hb h
   refine hK.out _ _ (HS.out _ h'.1) (fun _=>?_)
   clear hK K
   try simp only [Act.put,SL]
   refine tk 16 ?_
   exact N2_3_6_7_10_13.out xa xc ya yc za zc pa pc ta tc g3 g7 bV w' ⟨h'.1,h'.2.1,h'.2.2.1,h'.2.2.2,hq⟩
  ·go_simp
   try go_wp2_with fail
   obtain ⟨W2,G,e,e2,hb,hn⟩:=AV.out W h.1
   rw [e,e2]
   clear e e2
   have h':=st4 hb h
   refine hK.out _ _ (HS.out _ h'.1) (fun _=>?_)
   clear hK K
   try simp only [Act.put,SL]
   exact N2_3_6_7_10_17.out xa xc ya yc za zc pa pc ta tc g3 g7 G W2 ⟨h'.1,h'.2.1,h'.2.2.1,h'.2.2.2,hn⟩
 ·intro xa xc ya yc za zc pa pc ta tc g3 g7 bV W h
  refine rd 13 (fun K hK=>?_)
  go_simp
  go_at_call 61
  refine (C4.out _ (HC1.out _ h.1) (HC2.out _ h.1)).mono ?_
  rintro e w' ⟨ta,tc,rfl,hq,hb⟩
  try go_wp2_with fail
  have h':=st5 hb h
  refine hK.out _ _ (HS.out _ h'.1) (fun _=>?_)
  clear hK K
  try simp only [Act.put,SL]
  refine tk 16 ?_
  exact N2_3_6_7_10_13_17.out xa xc ya yc za zc pa pc ta tc g3 g7 bV w' ⟨h'.1,h'.2.1,h'.2.2.1,h'.2.2.2.1,hq,h'.2.2.2.2⟩
 ·intro xa xc ya yc za zc pa pc ta tc g3 g7 bV W h
  refine rd 17 (fun K hK=>?_)
  go_simp
  try go_wp2_with fail
  obtain ⟨W2,G,e,e2,hb,hn⟩:=AV.out W h.1
  rw [e,e2]
  clear e e2
  have h':=st5 hb h
  refine hK.out _ _ (HS.out _ h'.1) (fun _=>?_)
  clear hK K
  try simp only [Act.put,SL]
  exact N2_3_6_7_10_13_17.out xa xc ya yc za zc pa pc ta tc g3 g7 G W2 ⟨h'.1,h'.2.1,h'.2.2.1,h'.2.2.2.1,h'.2.2.2.2,hn⟩
 ·intro xa xc ya yc za zc pa pc ta tc g3 g7 bV W h
  refine rd 18 (fun K hK=>?_)
  obtain ⟨hv0,hVb⟩:=HVZ.out _ _ h.2.2.2.2.2
  have hy0:CYc w bR _ _ _:=HYZ.out _ h.1
  obtain ⟨⟨rl,rk⟩,rf⟩:=hv0.1
  have r0:=q_ rk 0
  have f0:=rf 0 (by simp)
  have r1:=q_ rk 1
  have f1:=rf 1 (by simp)
  have r2:=q_ rk 2
  have f2:=rf 2 (by simp)
  have r3:=q_ rk 3
  have f3:=rf 3 (by simp)
  have r4:=q_ rk 4
  have f4:=rf 4 (by simp)
  have r5:=q_ rk 5
  have f5:=rf 5 (by simp)
  have r6:=q_ rk 6
  have f6:=rf 6 (by simp)
  have hg:=StR.stL_grown bV [.slice xa ml xc,.slice ya cl yc,.slice za sl zc,.slice pa el pc,.slice none 0 0,.slice ta dl tc,.int .i64 fr] 0 W
  simp only [StR.stL,Nat.zero_add,Nat.reduceAdd] at hg
  have hV9:=(((((((hv0.set 0 (.slice xa ml xc) (by simp)).set 1 (.slice ya cl yc) (by simp)).set 2 (.slice za sl zc) (by simp)).set 3 (.slice pa el pc) (by simp)).set 4 (.slice none 0 0) (by simp)).set 5 (.slice ta dl tc) (by simp)).set 6 (.int .i64 fr) (by simp))
  simp only [List.set_cons_zero,List.set_cons_succ] at hV9
  have hY9:=hy0.grown hg (by omega) (by omega)
  have hS9:=s7E hY9.2.1.1
  have h19:=KV1.out _ _ _ _ h.2.1 hv0.2 hg
  have h29:=KV2.out _ _ _ _ h.2.2.1 hv0.2 hg
  have h39:=KV3.out _ _ _ _ h.2.2.2.1 hv0.2 hg
  have h49:=KV4.out _ _ _ _ h.2.2.2.2.1 hv0.2 hg
  clear rl rk rf hg
  go_simp
  try go_wp2_with fail
  clear r0 f0 r1 f1 r2 f2 r3 f3 r4 f4 r5 f5 r6 f6
  refine hK.out _ _ hS9 (fun _=>?_)
  clear hK K
  try simp only [Act.put,SL]
  refine wpAnyH_done (by kernel_rfl) ?_ _
  obtain ⟨WL,hWL⟩:∃z,z=(((((((W.setCell ⟨bV,0,none⟩ (.slice xa ml xc)).setCell ⟨bV,1,none⟩ (.slice ya cl yc)).setCell ⟨bV,2,none⟩ (.slice za sl zc)).setCell ⟨bV,3,none⟩ (.slice pa el pc)).setCell ⟨bV,4,none⟩ (.slice none 0 0)).setCell ⟨bV,5,none⟩ (.slice ta dl tc)).setCell ⟨bV,6,none⟩ (.int .i64 fr)):=⟨_,rfl⟩
  rw [←hWL] at hV9 hY9 h19 h29 h39 h49 ⊢
  have HV:=H_ hV9
  have HY:=H_ hY9
  have H1:=H_ h19
  have H2:=H_ h29
  have H3:=H_ h39
  have H4:=H_ h49
  have HVb:=H_ hVb
  clear h hv0 hy0 hV9 hY9 hS9 h19 h29 h39 h49 hWL
  go_wp2_with fail
  go_loopw [4] (fun z wr=>∃(k:Nat) (va:Option Addr) (vc:Nat),k≤ul∧z=.int .i64 k∧Hid (WsT (w.heap.size+2) (.slice va k vc) (ws.take k) wr)∧Hid (VbT bV [.slice xa ml xc,.slice ya cl yc,.slice za sl zc,.slice pa el pc,.slice va k vc,.slice ta dl tc,.int .i64 fr] wr)∧Hid (CYc w bR [.slice ma ml mc,.slice ca cl cc,.slice sa sl sc,.slice ea el ec,.slice ua ul uc,.slice da dl dc,.int .i64 fr] [.slice none 0 0,.slice none 0 0,.slice none 0 0,.slice none 0 0,.slice none 0 0,.slice none 0 0,.int .i64 0] wr)∧Hid (Q1 (.agg #[.slice xa ml xc,.slice ya cl yc]) wr)∧Hid (Q2 (.slice za sl zc) wr)∧Hid (Q3 (.slice pa el pc) wr)∧Hid (Q4 (.slice ta dl tc) wr)) (fun z _=>ul-(intOf z).toNat)
  case atStart=>exact ⟨0,none,0,by omega,rfl,H_ (wst_nil _ _),HV,HY,H1,H2,H3,H4⟩
  case round =>
   clear HV HY H1 H2 H3 H4
   obtain ⟨k,va,vc,hk,rfl,HWs,HV,HY,H1,H2,H3,H4⟩:=hrel
   have HVB:=HVb
   by_cases hlt:k<ul
   ·have hlt2:(k:Int)<(ul:Int):=by omega
    have hkl:k<ws.length:=by have:=HUL.out;omega
    obtain ⟨b,off,ta2,tc2,ha2,hc2,rfl,hbl,c0,c1,c2,c3,c4,c5,c6,c7,hT2,hH2⟩:=HWN.out.at k hkl
    obtain ⟨s1,s2⟩:=HSM.out _ (RowG.getD_mem (z:=WinR.Wd.zero) ws k hkl)
    have HTM:=H_ (RowG.take_more (z:=WinR.Wd.zero) ws k hkl)
    have HTL:Hid ((ws.take k).length=k):=H_ (by rw [List.length_take];omega)
    generalize ws.getD k WinR.Wd.zero=xe at *
    obtain ⟨xs,x1,x2,x3⟩:=HWs.out
    have hxl:xs.length=k:=by have:=HTL.out;rw [←x1] at this;simpa using this
    rw [HTL.out] at x2
    have HXS:=H_ x1
    have HXL:=H_ hxl
    have HW:Hid (∀W,Below w.heap.size w W→Calls Tryz.prog 62 #[.agg #[.string xe.a,.string xe.m,.int .i64 xe.mo,.int .i64 xe.ev,.int .i64 xe.su,.int .i64 xe.mx,.slice ta2 xe.ts.length tc2,.slice ha2 xe.hs.length hc2]] W fun e w'=>∃na nc na2 nc2,e=.returned (.agg #[.string xe.a,.string xe.m,.int .i64 xe.mo,.int .i64 xe.ev,.int .i64 xe.su,.int .i64 xe.mx,.slice na xe.ts.length nc,.slice na2 xe.hs.length nc2])∧WaT W.heap.size ⟨xe,na,nc,na2,nc2⟩ w'∧Below W.heap.size W w'):=H_ (fun W hW=>swin xe ta2 tc2 ha2 hc2 W s1 s2 (hT2.below hW) (hH2.below hW))
    have HSF:Hid (∀W,CYc w bR [.slice ma ml mc,.slice ca cl cc,.slice sa sl sc,.slice ea el ec,.slice (some ⟨b,off,none⟩) ul uc,.slice da dl dc,.int .i64 fr] [.slice none 0 0,.slice none 0 0,.slice none 0 0,.slice none 0 0,.slice none 0 0,.slice none 0 0,.int .i64 0] W→w.heap.size<W.heap.size∧W.cell? ⟨w.heap.size,4,none⟩=some (.slice (some ⟨b,off,none⟩) ul uc)∧b<W.heap.size∧W.cell? ⟨b,off+k*8,none⟩=some (.string xe.a)∧W.cell? ⟨b,off+k*8+1,none⟩=some (.string xe.m)∧W.cell? ⟨b,off+k*8+2,none⟩=some (.int .i64 xe.mo)∧W.cell? ⟨b,off+k*8+3,none⟩=some (.int .i64 xe.ev)∧W.cell? ⟨b,off+k*8+4,none⟩=some (.int .i64 xe.su)∧W.cell? ⟨b,off+k*8+5,none⟩=some (.int .i64 xe.mx)∧W.cell? ⟨b,off+k*8+6,none⟩=some (.slice ta2 xe.ts.length tc2)∧W.cell? ⟨b,off+k*8+7,none⟩=some (.slice ha2 xe.hs.length hc2)):=H_ (fun W hY=>by
     have f:=fun o=>hY.1.cell (p:=⟨b,o,none⟩) hbl
     have q:=hY.1.size
     exact ⟨hY.2.1.1.1,hY.2.1.1.2 4 (by simp),by omega,(f _).trans c0,(f _).trans c1,(f _).trans c2,(f _).trans c3,(f _).trans c4,(f _).trans c5,(f _).trans c6,(f _).trans c7⟩)
    have HON:Hid (∀na nc na2 nc2,∀u∈([.string xe.a,.string xe.m,.int .i64 xe.mo,.int .i64 xe.ev,.int .i64 xe.su,.int .i64 xe.mx,.slice na xe.ts.length nc,.slice na2 xe.hs.length nc2]:List Value),u.oneCell'=true):=H_ (by intro na nc na2 nc2 u hu;simp at hu;rcases hu with rfl|rfl|rfl|rfl|rfl|rfl|rfl|rfl<;>rfl)
    have sz1:k+1≤maxLen:=by unfold maxLen;omega
    have sz2:(k+1)*112≤140737488355328:=by omega
    have hk0:(0:Int)≤(k:Int):=by omega
    clear c0 c1 c2 c3 c4 c5 c6 c7 hT2 hH2 hxl hbl x1 s1 s2
    obtain ⟨tl,htl⟩:∃n,n=xe.ts.length:=⟨_,rfl⟩
    obtain ⟨hl,hhl⟩:∃n,n=xe.hs.length:=⟨_,rfl⟩
    clear htl hhl tl hl
    have u4:=HY.out.2.1.1.2 4 (by simp)
    have ul0:=HY.out.2.1.1.1
    simp only [List.getElem?_cons_zero,List.getElem?_cons_succ] at u4
    go_wp2_with fail
    clear u4 ul0
    have hd:Below wr.heap.size wr wr.drew:=(Below.refl _ _).drew
    have hY0:=HY.out.below hd
    have h10:=KB1.out _ _ _ H1.out hd
    have h20:=KB2.out _ _ _ H2.out hd
    have h30:=KB3.out _ _ _ H3.out hd
    have h40:=KB4.out _ _ _ H4.out hd
    have hV0:=HV.out.below hd
    have hO0:=RowG.own_below x2 hd
    have hX0:∀y∈xs,WaT (w.heap.size+2) y wr.drew:=fun y hy=>(x3 y hy).below hd
    clear x2 x3 hd HWs HV HY H1 H2 H3 H4
    have hS0:=HSF.out _ hY0
    refine wp_region_held_drew (S:=(fun W=>w.heap.size<W.heap.size∧W.cell? ⟨w.heap.size,4,none⟩=some (.slice (some ⟨b,off,none⟩) ul uc)∧b<W.heap.size∧W.cell? ⟨b,off+k*8,none⟩=some (.string xe.a)∧W.cell? ⟨b,off+k*8+1,none⟩=some (.string xe.m)∧W.cell? ⟨b,off+k*8+2,none⟩=some (.int .i64 xe.mo)∧W.cell? ⟨b,off+k*8+3,none⟩=some (.int .i64 xe.ev)∧W.cell? ⟨b,off+k*8+4,none⟩=some (.int .i64 xe.su)∧W.cell? ⟨b,off+k*8+5,none⟩=some (.int .i64 xe.mx)∧W.cell? ⟨b,off+k*8+6,none⟩=some (.slice ta2 xe.ts.length tc2)∧W.cell? ⟨b,off+k*8+7,none⟩=some (.slice ha2 xe.hs.length hc2))) (by kernel_rfl) hS0 (fun hHeld=>?_)
    generalize wr.drew=kd at *
    apply mmANANNAN (fun na nc na2 nc2 bN qa qc W=>(CYc w bR [.slice ma ml mc,.slice ca cl cc,.slice sa sl sc,.slice ea el ec,.slice (some ⟨b,off,none⟩) ul uc,.slice da dl dc,.int .i64 fr] [.slice none 0 0,.slice none 0 0,.slice none 0 0,.slice none 0 0,.slice none 0 0,.slice none 0 0,.int .i64 0] W)∧(Q1 (.agg #[.slice xa ml xc,.slice ya cl yc]) W)∧(Q2 (.slice za sl zc) W)∧(Q3 (.slice pa el pc) W)∧(Q4 (.slice ta dl tc) W)∧(VbT bV [.slice xa ml xc,.slice ya cl yc,.slice za sl zc,.slice pa el pc,.slice va k vc,.slice ta dl tc,.int .i64 fr] W)∧(WsT (w.heap.size+2) (.slice qa (k+1) qc) (ws.take (k+1)) W)∧True)
    intro N1_7_8_9
    apply mmANANN (fun na nc na2 nc2 bN W=>(CYc w bR [.slice ma ml mc,.slice ca cl cc,.slice sa sl sc,.slice ea el ec,.slice (some ⟨b,off,none⟩) ul uc,.slice da dl dc,.int .i64 fr] [.slice none 0 0,.slice none 0 0,.slice none 0 0,.slice none 0 0,.slice none 0 0,.slice none 0 0,.int .i64 0] W)∧(Q1 (.agg #[.slice xa ml xc,.slice ya cl yc]) W)∧(Q2 (.slice za sl zc) W)∧(Q3 (.slice pa el pc) W)∧(Q4 (.slice ta dl tc) W)∧(VbT bV [.slice xa ml xc,.slice ya cl yc,.slice za sl zc,.slice pa el pc,.slice va k vc,.slice ta dl tc,.int .i64 fr] W)∧(W.ownsRow (w.heap.size+2) 106 8 (.slice va k vc) k (cellsAll WA.cells xs))∧(∀y∈xs,WaT (w.heap.size+2) y W)∧(WaT (w.heap.size+2) ⟨xe,na,nc,na2,nc2⟩ W)∧(∀j u,([.string xe.a,.string xe.m,.int .i64 xe.mo,.int .i64 xe.ev,.int .i64 xe.su,.int .i64 xe.mx,.slice na xe.ts.length nc,.slice na2 xe.hs.length nc2]:List Value)[j]? = some u→W.cell? ((⟨bN,0,none⟩:Addr).add j)=some u)∧True)
    intro N1_7_8
    apply mmANAN (fun na nc na2 nc2 W=>(CYc w bR [.slice ma ml mc,.slice ca cl cc,.slice sa sl sc,.slice ea el ec,.slice (some ⟨b,off,none⟩) ul uc,.slice da dl dc,.int .i64 fr] [.slice none 0 0,.slice none 0 0,.slice none 0 0,.slice none 0 0,.slice none 0 0,.slice none 0 0,.int .i64 0] W)∧(Q1 (.agg #[.slice xa ml xc,.slice ya cl yc]) W)∧(Q2 (.slice za sl zc) W)∧(Q3 (.slice pa el pc) W)∧(Q4 (.slice ta dl tc) W)∧(VbT bV [.slice xa ml xc,.slice ya cl yc,.slice za sl zc,.slice pa el pc,.slice va k vc,.slice ta dl tc,.int .i64 fr] W)∧(W.ownsRow (w.heap.size+2) 106 8 (.slice va k vc) k (cellsAll WA.cells xs))∧(∀y∈xs,WaT (w.heap.size+2) y W)∧(WaT (w.heap.size+2) ⟨xe,na,nc,na2,nc2⟩ W)∧True)
    intro N1_7
    apply mmANANN (fun na nc na2 nc2 bN W=>(CYc w bR [.slice ma ml mc,.slice ca cl cc,.slice sa sl sc,.slice ea el ec,.slice (some ⟨b,off,none⟩) ul uc,.slice da dl dc,.int .i64 fr] [.slice none 0 0,.slice none 0 0,.slice none 0 0,.slice none 0 0,.slice none 0 0,.slice none 0 0,.int .i64 0] W)∧(Q1 (.agg #[.slice xa ml xc,.slice ya cl yc]) W)∧(Q2 (.slice za sl zc) W)∧(Q3 (.slice pa el pc) W)∧(Q4 (.slice ta dl tc) W)∧(VbT bV [.slice xa ml xc,.slice ya cl yc,.slice za sl zc,.slice pa el pc,.slice va k vc,.slice ta dl tc,.int .i64 fr] W)∧(W.ownsRow (w.heap.size+2) 106 8 (.slice va k vc) k (cellsAll WA.cells xs))∧(∀y∈xs,WaT (w.heap.size+2) y W)∧(WaT (w.heap.size+2) ⟨xe,na,nc,na2,nc2⟩ W)∧(∀j u,([.string xe.a,.string xe.m,.int .i64 xe.mo,.int .i64 xe.ev,.int .i64 xe.su,.int .i64 xe.mx,.slice na xe.ts.length nc,.slice na2 xe.hs.length nc2]:List Value)[j]? = some u→W.cell? ((⟨bN,0,none⟩:Addr).add j)=some u)∧True)
    intro N7_8
    apply mm (fun W=>(CYc w bR [.slice ma ml mc,.slice ca cl cc,.slice sa sl sc,.slice ea el ec,.slice (some ⟨b,off,none⟩) ul uc,.slice da dl dc,.int .i64 fr] [.slice none 0 0,.slice none 0 0,.slice none 0 0,.slice none 0 0,.slice none 0 0,.slice none 0 0,.int .i64 0] W)∧(Q1 (.agg #[.slice xa ml xc,.slice ya cl yc]) W)∧(Q2 (.slice za sl zc) W)∧(Q3 (.slice pa el pc) W)∧(Q4 (.slice ta dl tc) W)∧(VbT bV [.slice xa ml xc,.slice ya cl yc,.slice za sl zc,.slice pa el pc,.slice va k vc,.slice ta dl tc,.int .i64 fr] W)∧(W.ownsRow (w.heap.size+2) 106 8 (.slice va k vc) k (cellsAll WA.cells xs))∧(∀y∈xs,WaT (w.heap.size+2) y W)∧True)
    intro N1
    apply mmANAN (fun na nc na2 nc2 W=>(CYc w bR [.slice ma ml mc,.slice ca cl cc,.slice sa sl sc,.slice ea el ec,.slice (some ⟨b,off,none⟩) ul uc,.slice da dl dc,.int .i64 fr] [.slice none 0 0,.slice none 0 0,.slice none 0 0,.slice none 0 0,.slice none 0 0,.slice none 0 0,.int .i64 0] W)∧(Q1 (.agg #[.slice xa ml xc,.slice ya cl yc]) W)∧(Q2 (.slice za sl zc) W)∧(Q3 (.slice pa el pc) W)∧(Q4 (.slice ta dl tc) W)∧(VbT bV [.slice xa ml xc,.slice ya cl yc,.slice za sl zc,.slice pa el pc,.slice va k vc,.slice ta dl tc,.int .i64 fr] W)∧(W.ownsRow (w.heap.size+2) 106 8 (.slice va k vc) k (cellsAll WA.cells xs))∧(∀y∈xs,WaT (w.heap.size+2) y W)∧(WaT (w.heap.size+2) ⟨xe,na,nc,na2,nc2⟩ W)∧True)
    intro N7
    ·refine tk 0 ?_
     refine tk 2 ?_
     refine tk 3 ?_
     refine tk 4 ?_
     refine tk 5 ?_
     refine tk 6 ?_
     refine rd2 1 7 (fun K hK=>?_) (fun K hK=>?_)
     ·have c6:=hV0.1.1.2 4 (by simp)
      have l6:=hV0.1.1.1
      simp only [List.getElem?_cons_zero,List.getElem?_cons_succ] at c6
      go_simp
      try go_wp2_with fail
      refine hK.out _ _ (HSF.out _ hY0) (fun _=>?_)
      clear hK K
      try simp only [Act.put,SL]
      clear c6 l6
      exact N1.out kd ⟨hY0,h10,h20,h30,h40,hV0,hO0,hX0,trivial⟩
     ·go_simp
      go_at_call 62
      refine (HW.out _ hY0.1).mono ?_
      rintro e w' ⟨na,nc,na2,nc2,rfl,hN0,hb⟩
      try go_wp2_with fail
      have hN':=hN0.low (show (w.heap.size+2)≤kd.heap.size by have:=hY0.2.2.1.1;omega)
      have hY':=hY0.below hb
      have h1':=KB1.out _ _ _ h10 hb
      have h2':=KB2.out _ _ _ h20 hb
      have h3':=KB3.out _ _ _ h30 hb
      have h4':=KB4.out _ _ _ h40 hb
      have hV':=hV0.below hb
      have hO':=RowG.own_below hO0 hb
      have hX':∀y∈xs,WaT (w.heap.size+2) y _:=fun y hy=>(hX0 y hy).below hb
      have hS':=HSF.out _ hY'
      refine hK.out _ _ hS' (fun _=>?_)
      clear hK K
      try simp only [Act.put,SL]
      exact N7.out na nc na2 nc2 w' ⟨hY',h1',h2',h3',h4',hV',hO',hX',hN',trivial⟩
    ·rintro na nc na2 nc2 W ⟨hY,h1,h2,h3,h4,hV,hO,hX,hN,_⟩
     have hS:=HSF.out _ hY
     refine rd2 1 8 (fun K hK=>?_) (fun K hK=>?_)
     ·have c6:=hV.1.1.2 4 (by simp)
      have l6:=hV.1.1.1
      simp only [List.getElem?_cons_zero,List.getElem?_cons_succ] at c6
      go_simp
      try go_wp2_with fail
      refine hK.out _ _ (HSF.out _ hY) (fun _=>?_)
      clear hK K
      try simp only [Act.put,SL]
      clear c6 l6
      exact N1_7.out na nc na2 nc2 W ⟨hY,h1,h2,h3,h4,hV,hO,hX,hN,trivial⟩
     ·go_simp
      try go_wp2_with fail
      have hb:Below W.heap.size W (W.alloc (Obj.cells #[.string xe.a,.string xe.m,.int .i64 xe.mo,.int .i64 xe.ev,.int .i64 xe.su,.int .i64 xe.mx,.slice na xe.ts.length nc,.slice na2 xe.hs.length nc2] 106)):=(Below.refl _ _).alloc (Nat.le_refl _) _
      have hY':=hY.below hb
      have h1':=KB1.out _ _ _ h1 hb
      have h2':=KB2.out _ _ _ h2 hb
      have h3':=KB3.out _ _ _ h3 hb
      have h4':=KB4.out _ _ _ h4 hb
      have hV':=hV.below hb
      have hO':=RowG.own_below hO hb
      have hX':∀y∈xs,WaT (w.heap.size+2) y _:=fun y hy=>(hX y hy).below hb
      have hN':=hN.below hb
      have hS':=HSF.out _ hY'
      have hnw:∀j u,([.string xe.a,.string xe.m,.int .i64 xe.mo,.int .i64 xe.ev,.int .i64 xe.su,.int .i64 xe.mx,.slice na xe.ts.length nc,.slice na2 xe.hs.length nc2]:List Value)[j]? = some u→(W.alloc (Obj.cells #[.string xe.a,.string xe.m,.int .i64 xe.mo,.int .i64 xe.ev,.int .i64 xe.su,.int .i64 xe.mx,.slice na xe.ts.length nc,.slice na2 xe.hs.length nc2] 106)).cell? ((⟨W.heap.size,0,none⟩:Addr).add j)=some u:=LedR.new_cells4 W [.string xe.a,.string xe.m,.int .i64 xe.mo,.int .i64 xe.ev,.int .i64 xe.su,.int .i64 xe.mx,.slice na xe.ts.length nc,.slice na2 xe.hs.length nc2] 106
      refine hK.out _ _ hS' (fun _=>?_)
      clear hK K
      try simp only [Act.put,SL]
      obtain ⟨G,hG⟩:∃z,z=W.heap.size:=⟨_,rfl⟩
      obtain ⟨W2,hW2⟩:∃z,z=W.alloc (Obj.cells #[.string xe.a,.string xe.m,.int .i64 xe.mo,.int .i64 xe.ev,.int .i64 xe.su,.int .i64 xe.mx,.slice na xe.ts.length nc,.slice na2 xe.hs.length nc2] 106):=⟨_,rfl⟩
      rw [←hW2] at hY' h1' h2' h3' h4' hV' hO' hX' hN' hnw ⊢
      rw [←hG] at hnw ⊢
      exact N7_8.out na nc na2 nc2 G W2 ⟨hY',h1',h2',h3',h4',hV',hO',hX',hN',hnw,trivial⟩
    ·rintro W ⟨hY,h1,h2,h3,h4,hV,hO,hX,_⟩
     have hS:=HSF.out _ hY
     refine rd 7 (fun K hK=>?_)
     go_simp
     go_at_call 62
     refine (HW.out _ hY.1).mono ?_
     rintro e w' ⟨na,nc,na2,nc2,rfl,hN0,hb⟩
     try go_wp2_with fail
     have hN':=hN0.low (show (w.heap.size+2)≤W.heap.size by have:=hY.2.2.1.1;omega)
     have hY':=hY.below hb
     have h1':=KB1.out _ _ _ h1 hb
     have h2':=KB2.out _ _ _ h2 hb
     have h3':=KB3.out _ _ _ h3 hb
     have h4':=KB4.out _ _ _ h4 hb
     have hV':=hV.below hb
     have hO':=RowG.own_below hO hb
     have hX':∀y∈xs,WaT (w.heap.size+2) y _:=fun y hy=>(hX y hy).below hb
     have hS':=HSF.out _ hY'
     refine hK.out _ _ hS' (fun _=>?_)
     clear hK K
     try simp only [Act.put,SL]
     exact N1_7.out na nc na2 nc2 w' ⟨hY',h1',h2',h3',h4',hV',hO',hX',hN',trivial⟩
    ·rintro na nc na2 nc2 bN W ⟨hY,h1,h2,h3,h4,hV,hO,hX,hN,hnw,_⟩
     have hS:=HSF.out _ hY
     refine rd 1 (fun K hK=>?_)
     have c6:=hV.1.1.2 4 (by simp)
     have l6:=hV.1.1.1
     simp only [List.getElem?_cons_zero,List.getElem?_cons_succ] at c6
     go_simp
     try go_wp2_with fail
     refine hK.out _ _ (HSF.out _ hY) (fun _=>?_)
     clear hK K
     try simp only [Act.put,SL]
     clear c6 l6
     exact N1_7_8.out na nc na2 nc2 bN W ⟨hY,h1,h2,h3,h4,hV,hO,hX,hN,hnw,trivial⟩
    ·rintro na nc na2 nc2 W ⟨hY,h1,h2,h3,h4,hV,hO,hX,hN,_⟩
     have hS:=HSF.out _ hY
     refine rd 8 (fun K hK=>?_)
     go_simp
     try go_wp2_with fail
     have hb:Below W.heap.size W (W.alloc (Obj.cells #[.string xe.a,.string xe.m,.int .i64 xe.mo,.int .i64 xe.ev,.int .i64 xe.su,.int .i64 xe.mx,.slice na xe.ts.length nc,.slice na2 xe.hs.length nc2] 106)):=(Below.refl _ _).alloc (Nat.le_refl _) _
     have hY':=hY.below hb
     have h1':=KB1.out _ _ _ h1 hb
     have h2':=KB2.out _ _ _ h2 hb
     have h3':=KB3.out _ _ _ h3 hb
     have h4':=KB4.out _ _ _ h4 hb
     have hV':=hV.below hb
     have hO':=RowG.own_below hO hb
     have hX':∀y∈xs,WaT (w.heap.size+2) y _:=fun y hy=>(hX y hy).below hb
     have hN':=hN.below hb
     have hS':=HSF.out _ hY'
     have hnw:∀j u,([.string xe.a,.string xe.m,.int .i64 xe.mo,.int .i64 xe.ev,.int .i64 xe.su,.int .i64 xe.mx,.slice na xe.ts.length nc,.slice na2 xe.hs.length nc2]:List Value)[j]? = some u→(W.alloc (Obj.cells #[.string xe.a,.string xe.m,.int .i64 xe.mo,.int .i64 xe.ev,.int .i64 xe.su,.int .i64 xe.mx,.slice na xe.ts.length nc,.slice na2 xe.hs.length nc2] 106)).cell? ((⟨W.heap.size,0,none⟩:Addr).add j)=some u:=LedR.new_cells4 W [.string xe.a,.string xe.m,.int .i64 xe.mo,.int .i64 xe.ev,.int .i64 xe.su,.int .i64 xe.mx,.slice na xe.ts.length nc,.slice na2 xe.hs.length nc2] 106
     refine hK.out _ _ hS' (fun _=>?_)
     clear hK K
     try simp only [Act.put,SL]
     obtain ⟨G,hG⟩:∃z,z=W.heap.size:=⟨_,rfl⟩
     obtain ⟨W2,hW2⟩:∃z,z=W.alloc (Obj.cells #[.string xe.a,.string xe.m,.int .i64 xe.mo,.int .i64 xe.ev,.int .i64 xe.su,.int .i64 xe.mx,.slice na xe.ts.length nc,.slice na2 xe.hs.length nc2] 106):=⟨_,rfl⟩
     rw [←hW2] at hY' h1' h2' h3' h4' hV' hO' hX' hN' hnw ⊢
     rw [←hG] at hnw ⊢
     exact N1_7_8.out na nc na2 nc2 G W2 ⟨hY',h1',h2',h3',h4',hV',hO',hX',hN',hnw,trivial⟩
    ·rintro na nc na2 nc2 bN W ⟨hY,h1,h2,h3,h4,hV,hO,hX,hN,hnw,_⟩
     have hS:=HSF.out _ hY
     refine rd 9 (fun K hK=>?_)
     refine step_append_c rfl _ _ 39 rfl (w.heap.size+2) 106 i9 (.agg #[.string ⟨#[]⟩,.string ⟨#[]⟩,.int .i64 0,.int .i64 0,.int .i64 0,.int .i64 0,.slice none 0 0,.slice none 0 0]) 8 112 Tryz.underlying39 hi hz0 hz1 hz2 rfl (by decide) _ _ _ rfl hO ⟨bN,0,none⟩ 1 1 [.string xe.a,.string xe.m,.int .i64 xe.mo,.int .i64 xe.ev,.int .i64 xe.su,.int .i64 xe.mx,.slice na xe.ts.length nc,.slice na2 xe.hs.length nc2] rfl rfl hnw (HON.out _ _ _ _) sz1 sz2 (show (w.heap.size+2)≤W.heap.size by have:=hY.2.2.1.1;omega) ?_
     intro v9 w' hown hgrow hne
     have hY':=hY.app hgrow (fun g e=>(hO.lt g e).1) hlo hlo1
     have h1':=KW1.out _ _ _ _ _ _ h1 hO hgrow
     have h2':=KW2.out _ _ _ _ _ _ h2 hO hgrow
     have h3':=KW3.out _ _ _ _ _ _ h3 hO hgrow
     have h4':=KW4.out _ _ _ _ _ _ h4 hO hgrow
     have hV':=hV.app hO hgrow
     have hS':=HSF.out _ hY'
     have hQ':WsT (w.heap.size+2) v9 (ws.take (k+1)) w':=by
      rw [HTM.out,←HXS.out]
      have:=wst_more (by rw [HXL.out];exact hO) hX hN hgrow (by rw [HXL.out];exact hown)
      rw [List.map_append] at this
      exact this
     obtain ⟨qa,qc,rfl⟩:=own_formW hown
     refine hK.out _ _ hS' (fun _=>?_)
     clear hK K
     try simp only [Act.put,SL]
     refine tk 10 ?_
     exact N1_7_8_9.out na nc na2 nc2 bN qa qc w' ⟨hY',h1',h2',h3',h4',hV',hQ',trivial⟩
    ·rintro na nc na2 nc2 bN qa qc W ⟨hY,h1,h2,h3,h4,hV,hQ,_⟩
     have hS:=HSF.out _ hY
     refine rd 11 (fun K hK=>?_)
     have c6:=hV.1.1.2 4 (by simp)
     have l6:=hV.1.1.1
     have f6:=hV.1.2 4 (by simp)
     simp only [List.getElem?_cons_zero,List.getElem?_cons_succ] at c6
     have hg:=RowG.grown_set W bV 4 (.slice qa (k+1) qc)
     have hV9:=hV.set 4 (.slice qa (k+1) qc) (by simp)
     simp only [List.set_cons_zero,List.set_cons_succ] at hV9
     have hY9:=hY.grown hg (by have:=HVB.out;omega) (by have:=HVB.out;omega)
     have hS9:=HSF.out _ hY9
     have hQ9:=hQ.far2 hV.2 hg
     have h19:=KV1.out _ _ _ _ h1 hV.2 hg
     have h29:=KV2.out _ _ _ _ h2 hV.2 hg
     have h39:=KV3.out _ _ _ _ h3 hV.2 hg
     have h49:=KV4.out _ _ _ _ h4 hV.2 hg
     go_simp
     try go_wp2_with fail
     refine hK.out _ _ hS9 (fun _=>?_)
     clear hK K
     try simp only [Act.put,SL]
     refine wpAnyH_done (by kernel_rfl) ?_ _
     obtain ⟨WL,hWL⟩:∃z,z=(W.setCell ⟨bV,4,none⟩ (.slice qa (k+1) qc)):=⟨_,rfl⟩
     rw [←hWL] at hV9 hY9 hQ9 h19 h29 h39 h49 ⊢
     have HV9:=H_ hV9
     have HY9:=H_ hY9
     have HQ9:=H_ hQ9
     have H19:=H_ h19
     have H29:=H_ h29
     have H39:=H_ h39
     have H49:=H_ h49
     clear hY h1 h2 h3 h4 hV hQ hV9 hY9 hQ9 hS9 h19 h29 h39 h49 hWL hg c6 l6 f6
     go_wp2_with fail
     go_roundw
     case rel=>exact ⟨k+1,qa,qc,by omega,by go_num,HQ9,HV9,HY9,H19,H29,H39,H49⟩
     case measure=>simp [intOf];omega
   ·have hlt2:¬(k:Int)<(ul:Int):=by omega
    obtain rfl:k=ul:=by omega
    have HTE:Hid (ws.take k=ws):=H_ (by rw [HUL.out];exact List.take_length)
    rw [HTE.out] at HWs
    clear HTE
    have u4:=HY.out.2.1.1.2 4 (by simp)
    have ul0:=HY.out.2.1.1.1
    simp only [List.getElem?_cons_zero,List.getElem?_cons_succ] at u4
    obtain ⟨⟨vl,vk⟩,_⟩:=HV.out.1
    have v0:=q_ vk 0
    have v1:=q_ vk 1
    have v2:=q_ vk 2
    have v3:=q_ vk 3
    have v4:=q_ vk 4
    have v5:=q_ vk 5
    have v6:=q_ vk 6
    obtain ⟨⟨rl,rk⟩,rf⟩:=HY.out.2.2
    have p0:=q_ rk 0
    have f0:=rf 0 (by simp)
    have p1:=q_ rk 1
    have f1:=rf 1 (by simp)
    have p2:=q_ rk 2
    have f2:=rf 2 (by simp)
    have p3:=q_ rk 3
    have f3:=rf 3 (by simp)
    have p4:=q_ rk 4
    have f4:=rf 4 (by simp)
    have p5:=q_ rk 5
    have f5:=rf 5 (by simp)
    have p6:=q_ rk 6
    have f6:=rf 6 (by simp)
    have hg:=StR.stL_grown bR [.slice xa ml xc,.slice ya cl yc,.slice za sl zc,.slice pa el pc,.slice va k vc,.slice ta dl tc,.int .i64 fr] 0 wr
    have HB9:=H_ (HY.out.1.grown hg HY.out.1.size (fun _ e=>by cases e;omega))
    have H19:=H_ (KG1.out _ _ _ _ H1.out hg (by omega))
    have H29:=H_ (KG2.out _ _ _ _ H2.out hg (by omega))
    have H39:=H_ (KG3.out _ _ _ _ H3.out hg (by omega))
    have H49:=H_ (KG4.out _ _ _ _ H4.out hg (by omega))
    have HQ9:=H_ (HWs.out.far hg (by omega))
    simp only [StR.stL,Nat.zero_add,Nat.reduceAdd] at HB9 HQ9 H19 H29 H39 H49
    clear vk rk rf hg HY HV HWs H1 H2 H3 H4
    go_wp2_with fail
    refine bodyPost_ret (v:=.agg #[.slice xa ml xc,.slice ya cl yc,.slice za sl zc,.slice pa el pc,.slice va k vc,.slice ta dl tc,.int .i64 fr]) (by simp [results,Tryz.results20,go_sem,p0,p1,p2,p3,p4,p5,p6]) rfl ⟨_,_,_,_,_,_,_,_,_,_,va,vc,rfl,H19.out,H29.out,H39.out,HQ9.out,H49.out,HB9.out⟩
end EngR
end Go.Proofs.YtnceeaccbcfopaaGreatDoor
