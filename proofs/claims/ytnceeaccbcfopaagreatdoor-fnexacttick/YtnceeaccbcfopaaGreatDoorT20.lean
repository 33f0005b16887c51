/-
  Where an Id stands among right entries.
  Entries that are kept, laid in new memory.
  copyDoc: a document in new memory.
  append of a whole list, that may be none, to an empty list of one's own.
  append to a list of one's own: what is handed back stands in the block as before, or in a new one.
  An engine's sources are right: both sides say the same, whatever their marks.
  Where a name stands among meters, as the model finds it.
  A region that draws its order, in a class of worlds that all hold some facts: one walk of the order of the text serves.
  A month's first minute, on both sides.
  The conditions stand in what each theorem says.
-/
import Derived.Deep.AppendSrc
import Derived.BigQuiet
import Derived.Deep.QuietTactic
import Derived.Test.YtnceeaccbcfopaaGreatDoorT19
set_option maxRecDepth 100000
set_option maxHeartbeats 16000000
namespace Go.Proofs.YtnceeaccbcfopaaGreatDoor
open Go.RowKit
set_option linter.unusedVariables false
namespace SeenR
open RowG LtR
def pos (es:List N) (id:ByteArray):Nat:=(es.takeWhile (fun e=>lt e.i id)).length
def Ahead (es:List N) (id:ByteArray) (k:Nat):Prop:=∀i,i<k→lt (es.getD i N.zero).i id=true
theorem Ahead.zero (es:List N) (id:ByteArray):Ahead es id 0:=fun i h=>absurd h (by omega)
theorem Ahead.more {es:List N} {id:ByteArray} {k:Nat} (h:Ahead es id k) (h1:lt (es.getD k N.zero).i id=true):Ahead es id (k+1):=by
 intro i hi
 by_cases e:i=k
 ·subst e;exact h1
 ·exact h i (by omega)
theorem rise {es:List N} (h:SRight es):∀i,i<es.length→∀j,j<i→lt (es.getD j N.zero).i (es.getD i N.zero).i=true
 | 0,_=>fun j hj=>absurd hj (by omega)
 | i+1,hi=>fun j hj=>by
  have h1:=(h.2 (i+1) hi).1
  have e:ahd es (i+1)=(es.getD i N.zero).i:=rfl
  rw [e] at h1
  by_cases q:j=i
  ·subst q;exact h1
  ·exact lt_trans (rise h i (by omega) j (by omega)) h1
end SeenR
end Go.Proofs.YtnceeaccbcfopaaGreatDoor
namespace Go.Proofs.YtnceeaccbcfopaaGreatDoor
open Go.ChangeShapes Go.WideShapes Go.ChangeAt Go.RowKit
set_option linter.unusedVariables false
namespace SeenR
open RowG
theorem keep_any (ao:Option Addr) (cap:Nat) (es:List N) (p:N→Bool) (g:Nat) (bs:Array Value) (w:World) (hlen:es.length≤40) (hS:∀e∈es,e.i.size≤1048576) (hI:Ens ao es w)
 (hp:∀(x:N) W,Below w.heap.size w W→Calls Tryz.prog g (#[.agg #[.string x.i,.int .i64 x.n,.int .i64 x.s]]++bs) W fun e w'=>e=.returned (.bool (p x))∧Below W.heap.size W w') (he:∀args w,(callFunc g args).run Tryz.prog w=.ok (.enter g args) w) :
 Calls Tryz.prog 134 #[.slice ao es.length cap,.func (.func g) #[] bs] w fun e w'=>∃v,e=.returned v∧w'.ownsRow w.heap.size 110 3 v (es.filter p).length (cellsAll N.cells (es.filter p))∧Below w.heap.size w w':=by
 obtain ⟨i0,hi,hz0,hz1,hz2⟩:=info_parts infoN
 have HI:=H_ hI
 have HP:=H_ hp
 have HS:=H_ hS
 obtain ⟨len,hl⟩:∃len,len=es.length:=⟨_,rfl⟩
 rw [←hl] at hlen ⊢
 have HL:=H_ hl
 clear hI hp hS hl
 go_enter Tryz.func134,Tryz.ntmps134
 go_wp2_with fail
 go_loopw [5,10] (fun v z wr=>∃k:Nat,k≤len∧z=.int .i64 k∧Hid (wr.ownsRow w.heap.size 110 3 v ((es.take k).filter p).length (cellsAll N.cells ((es.take k).filter p)))∧Hid (Below w.heap.size w wr)) (fun v z _=>len-(intOf z).toNat)
 case atStart=>exact ⟨0,by omega,rfl,H_ (World.ownsRow_nil _ _ _ _),H_ (Below.refl _ _)⟩
 case round =>
  obtain ⟨k,hk,rfl,HO,HB⟩:=hrel
  by_cases hlt:k<len
  ·have hlt2:(k:Int)<(len:Int):=by omega
   obtain ⟨b,off,rfl,hbl,c0,c1,c2⟩:=(HI.out.below HB.out).at k (by have:=HL.out;omega)
   have HTM:=H_ (take_more (z:=N.zero) es k (by have:=HL.out;omega))
   have hsz:=HS.out _ (getD_mem (z:=N.zero) es k (by have:=HL.out;omega))
   generalize es.getD k N.zero=X at *
   obtain ⟨xi,xn,xs⟩:=X
   have HC:=H_ (fun W hW=>HP.out ⟨xi,xn,xs⟩ W hW)
   dsimp only at HC c0 c1 c2 hsz
   have HF:Hid ((es.take (k+1)).filter p=(es.take k).filter p++(bif p ⟨xi,xn,xs⟩ then [⟨xi,xn,xs⟩] else [])):=H_ (by
    rw [HTM.out,List.filter_append]
    cases hr:p ⟨xi,xn,xs⟩<;>simp [hr])
   have HLF:Hid (((es.take k).filter p).length≤40):=H_ (by
    have h1:=List.length_filter_le p (es.take k)
    have h2:=List.length_take_le k es
    omega)
   obtain ⟨F,hF⟩:∃F,F=(es.take k).filter p:=⟨_,rfl⟩
   rw [←hF] at HO HF HLF
   clear hF HTM
   generalize p ⟨xi,xn,xs⟩=r at *
   have HA:Hid (Below w.heap.size w (wr.alloc (.cells #[.string xi,.int .i64 xn,.int .i64 xs] 110))):=H_ (HB.out.alloc HB.out.size _)
   go_wp2_with fail
   refine (HC.out _ HA.out).mono ?_
   rintro e w1 ⟨rfl,hb1⟩
   obtain ⟨hcc,hff⟩:=bcell hb1
   have hsz1:wr.heap.size<w1.heap.size:=by have:=hb1.size;simp at this;omega
   have e0:=hcc wr.heap.size 0 (by simp)
   have e1:=hcc wr.heap.size 1 (by simp)
   have e2:=hcc wr.heap.size 2 (by simp)
   have f0:=hff wr.heap.size 0 (by simp)
   simp [go_sem] at e0 e1 e2 f0
   have HB1:=H_ (HB.out.trans ((bel_alloc hb1).mono HB.out.size))
   have HO1:=H_ (own_below HO.out (bel_alloc hb1))
   clear hb1 hcc hff c0 c1 c2
   cases r
   ·go_wp2_with fail
    go_roundw
    case rel=>exact ⟨k+1,by omega,by go_num,H_ (by rw [HF.out,cond_false,List.append_nil];exact HO1.out),HB1⟩
    case measure=>simp [intOf];omega
   ·have HCL:=H_ (fun w=>CloneR.clone_any xi w (by omega))
    go_wp2_with fail
    refine (HCL.out _).mono ?_
    rintro e w2 ⟨rfl,hb2⟩
    obtain ⟨hcc,hff⟩:=bcell hb2
    have hsz2:wr.heap.size<w2.heap.size:=by have:=hb2.size;omega
    replace e0:=(hcc wr.heap.size 0 hsz1).trans e0
    replace e1:=(hcc wr.heap.size 1 hsz1).trans e1
    replace e2:=(hcc wr.heap.size 2 hsz1).trans e2
    replace f0:=(hff wr.heap.size 0 hsz1).trans f0
    have HB2:=HT_ HB1 hb2
    have hob:∀b,u5.ownBlock=some b→w.heap.size≤b∧b<wr.heap.size:=fun b hb=>HO.out.lt b hb
    have HO2:=H_ (own_set (own_below HO1.out hb2) wr.heap.size 0 (.string xi) (fun b hb=>by have:=(hob b hb).2;omega))
    have HB3:Hid (Below w.heap.size w (w2.setCell ⟨wr.heap.size,0,none⟩ (.string xi))):=H_ (HB2.out.setCell HB.out.size _)
    have HOB:=H_ hob
    clear hb2 hcc hff hob
    go_wp2_with (at_builtin;refine wpList_append_own _ rfl _ _ 38 rfl w.heap.size 110 i0 (.agg #[.string ⟨#[]⟩,.int .i64 0,.int .i64 0]) 3 32 Tryz.underlying38 hi hz0 hz1 hz2 rfl (by decide) _ _ _ rfl (HO2.out.alloc _) ⟨w2.heap.size,0,none⟩ 1 1 (N.cells ⟨xi,xn,xs⟩) rfl rfl ?d1 ?d2 ?d3 ?d4 ?d5 ?_)
    case d1 =>
     intro x u hx
     have hx2:x<3:=by
      have:=(List.getElem?_eq_some_iff.1 hx).1
      simpa [N.cells] using this
     match x,hx2,hx with
     | 0,_,hx=>simp [N.cells] at hx;subst hx;simp [Addr.add,go_sem]
     | 1,_,hx=>simp [N.cells] at hx;subst hx;simp [Addr.add,go_sem]
     | 2,_,hx=>simp [N.cells] at hx;subst hx;simp [Addr.add,go_sem]
    case d2 =>
     intro u hu
     simp only [N.cells,List.mem_cons,List.not_mem_nil,or_false] at hu
     rcases hu with rfl|rfl|rfl<;>rfl
    case d3=>unfold maxLen;have:=HLF.out;omega
    case d4=>have:=HLF.out;omega
    case d5=>have h1:=HB2.out.size;simp;omega
    intro v' w4 hown hgrow hne
    have HO4:Hid (w4.ownsRow w.heap.size 110 3 v' (F ++ [(⟨xi,xn,xs⟩:N)]).length (cellsAll N.cells (F ++ [(⟨xi,xn,xs⟩:N)]))):=H_ (by rw [cellsAll_app,List.length_append];exact hown)
    have HB4:Hid (Below w.heap.size w w4):=H_ ((HB3.out.alloc HB3.out.size _).grown hgrow (HB3.out.alloc HB3.out.size _).size (fun b e=>(HOB.out b e).1))
    clear hown hgrow hne
    go_wp2_with fail
    go_roundw
    case rel=>exact ⟨k+1,by omega,by go_num,H_ (by rw [HF.out,cond_true];exact HO4.out),HB4⟩
    case measure=>simp [intOf];omega
  ·have hlt2:¬(k:Int)<(len:Int):=by omega
   obtain rfl:k=len:=by omega
   have HE:Hid (es.take k=es):=H_ (List.take_of_length_le (by have:=HL.out;omega))
   rw [HE.out] at HO
   go_wp2_with fail
   go_ret
   exact ⟨_,rfl,HO.out,HB.out⟩
end SeenR
namespace LedR
open LinR DocR
open RowG (cellsAll H_)
theorem icopy (d:D) (la:Option Addr) (lc:Nat) (w:World) (ha:d.a.size≤1048576) (hlen:d.ls.length≤1048576) (hS:∀e∈d.ls,e.i.size≤1048576) (hI:Lis la d.ls w) :
 Calls Tryz.prog 138 #[.agg #[.string d.a,.int .i64 d.mo,.int .i64 d.sq,.slice la d.ls.length lc]] w fun e w'=>∃v,e=.returned (.agg #[.string d.a,.int .i64 d.mo,.int .i64 d.sq,v])∧w'.ownsRow w.heap.size 209 2 v (d.ls.filter nz).length (cellsAll N.cells (d.ls.filter nz))∧Below w.heap.size w w':=by
 obtain ⟨a,mo,sq,ls⟩:=d
 dsimp only at *
 have HCL:=H_ (fun w=>CloneR.clone_any a w (by omega))
 have HPL:=H_ (fun w' (hI':Lis la ls w')=>put_any la lc ls w' hlen hS hI')
 have HI:=H_ hI
 obtain ⟨len,hl⟩:∃len,len=ls.length:=⟨_,rfl⟩
 rw [←hl] at HPL ⊢
 obtain ⟨W0,hW0⟩:∃W0,W0=(w.alloc (.cells #[.string a,.int .i64 mo,.int .i64 sq,.slice la len lc] 122)).alloc (.cells #[.string ⟨#[]⟩,.int .i64 0,.int .i64 0,.slice none 0 0] 122):=⟨_,rfl⟩
 have HB0:Hid (Below w.heap.size w W0):=H_ (by rw [hW0];exact (al_ _ _).alloc (by simp) _)
 have HV0:Hid (BlkW w.heap.size [.string a,.int .i64 mo,.int .i64 sq,.slice la len lc] W0):=H_ (by rw [hW0];exact (BlkW.new w [.string a,.int .i64 mo,.int .i64 sq,.slice la len lc] 122).below (al_ _ _))
 have HR0:Hid (BlkW (w.heap.size+1) [.string ⟨#[]⟩,.int .i64 0,.int .i64 0,.slice none 0 0] W0):=H_ (by
  rw [hW0]
  have:=BlkW.new (w.alloc (.cells #[.string a,.int .i64 mo,.int .i64 sq,.slice la len lc] 122)) [.string ⟨#[]⟩,.int .i64 0,.int .i64 0,.slice none 0 0] 122
  simpa using this)
 have HW:=H_ hW0
 clear hI hS hl hW0
 go_enter Tryz.func138,Tryz.ntmps138
 have c0:=q_ HV0.out.1.2 0
 go_wp2_with fail
 refine (HCL.out _).mono ?_
 rw [←HW.out]
 rintro e w1 ⟨rfl,hb1⟩
 have HB1:=HT_ HB0 hb1
 have HV1:=H_ (HV0.out.below hb1)
 have HR1:=H_ (HR0.out.below hb1)
 have l1:=HV1.out.1.1
 have f0:=HV1.out.2 0 (by simp)
 have c0:=HV1.out.1.2 0 (by simp)
 have c3:=HV1.out.1.2 3 (by simp)
 simp only [List.getElem?_cons_zero,List.getElem?_cons_succ] at c0 c3
 clear hb1 HW HB0 HV0 HR0
 go_wp2_with fail
 have HB2:=H_ (HB1.out.setCell (p:=⟨w.heap.size,0,none⟩) (Nat.le_refl _) (.string a))
 have HV2:=H_ (HV1.out.set 0 (.string a) (by simp))
 have HR2:=H_ (HR1.out.other w.heap.size 0 (.string a) (by omega))
 simp only [List.set_cons_zero] at HV2
 clear HB1 HV1 HR1 l1 f0 c0 c3
 generalize (w1.setCell {block:=w.heap.size,off:=0} (Value.string a))=W2 at *
 refine (HPL.out _ (HI.out.below HB2.out)).mono ?_
 rintro e w3 ⟨v,rfl,ho,hb3⟩
 have HB3:=HT_ HB2 hb3
 have HV3:=H_ (HV2.out.below hb3)
 have HR3:=H_ (HR2.out.below hb3)
 have hlw:=HR2.out.1.1
 obtain ⟨ao,cap,rfl,hm⟩:=RowG.own_made (z:=N.zero) N.len ho
 generalize hnf:(ls.filter nz).length=nf at *
 have HOF:=H_ (own_low (OwG.own_keepG (OwG.own_keepG ho (RowG.grown_set w3 w.heap.size 3 (.slice ao nf cap)) (by omega)) (StR.stL_grown (w.heap.size+1) [.string a,.int .i64 mo,.int .i64 sq,.slice ao nf cap] 0 _) (by omega)) HB2.out.size)
 have HBF:=H_ ((HB3.out.setCell (p:=⟨w.heap.size,3,none⟩) (Nat.le_refl _) (.slice ao nf cap)).grown (StR.stL_grown (w.heap.size+1) [.string a,.int .i64 mo,.int .i64 sq,.slice ao nf cap] 0 _) (by have:=HB3.out.size;simpa using this) (fun k h=>by cases h;omega))
 simp only [StR.stL,Nat.zero_add,Nat.reduceAdd] at HOF HBF
 have l1:=HV3.out.1.1
 have l2:=HR3.out.1.1
 have f3:=HV3.out.2 3 (by simp)
 have c0:=HV3.out.1.2 0 (by simp)
 have c1:=HV3.out.1.2 1 (by simp)
 have c2:=HV3.out.1.2 2 (by simp)
 have c3:=HV3.out.1.2 3 (by simp)
 have r0:=HR3.out.1.2 0 (by simp)
 have r1:=HR3.out.1.2 1 (by simp)
 have r2:=HR3.out.1.2 2 (by simp)
 have r3:=HR3.out.1.2 3 (by simp)
 have g0:=HR3.out.2 0 (by simp)
 have g1:=HR3.out.2 1 (by simp)
 have g2:=HR3.out.2 2 (by simp)
 have g3:=HR3.out.2 3 (by simp)
 simp only [List.getElem?_cons_zero,List.getElem?_cons_succ] at c0 c1 c2 c3 r0 r1 r2 r3
 clear ho hb3 hm
 go_wp2_with fail
 refine bodyPost_ret (v:=.agg #[.string a,.int .i64 mo,.int .i64 sq,.slice ao nf cap]) (by simp [results,Tryz.results138,go_sem,r0,r1,r2,r3]) rfl ⟨_,rfl,by rw [hnf];exact HOF.out,HBF.out⟩
end LedR
namespace RowG
theorem grown_refl (w:World) (row:Option Nat):w.grownBy w row:=⟨rfl,rfl,rfl,Nat.le_refl _,fun _ _ _=>rfl⟩
theorem wpList_append_whole {P:Program} (w:World) {ops:Array Oper} {rest:List Oper} {o:Oper} {a:Act} {Q:Exit→Act→World→Prop} (hgd:o.guard=none) (s x:Operand) (t:TypeId)
 (ho:o.op=.call {callee:=.builtin .append,args:=#[s,x],argTypes:=#[t,t]})
 (base:Nat) (e:TypeId) (i:TypeInfo) (z:Value) (size bytes:Nat) (ht:P.underlying t=some (.slice e)) (hi:P.info? e=some i) (hz:i.zero=some z)
 (hsize:i.size=size) (hby:i.bytes=bytes) (hzs:z.cells.size=size) (hsz:0<size)
 (g:Nat) (hs:a.eval s=.slice (some ⟨g,0,none⟩) 0 0) (hown:w.ownsRow base e size (.slice (some ⟨g,0,none⟩) 0 0) 0 [])
 (la:Option Addr) (m c:Nat) (news:List Value) (hx:a.eval x=.slice la m c) (hl:news.length=m*size) (hla:m=0∨∃ad,la=some ad∧∀j u,news[j]? = some u→w.cell? (ad.add j)=some u) (h1:∀u∈news,u.oneCell'=true)
 (h63:m≤maxLen) (hbytes:m*bytes≤140737488355328) (hbase:base≤w.heap.size)
 (h:∀v' w',w'.ownsRow base e size v' m news→w.grownBy w' (some g)→v'≠.slice none 0 0→wpList P ops Q rest (a.put o.dst v') w'):wpList P ops Q (o::rest) a w:=by
 cases la with
 | none =>
  have hm:m=0:=by
   rcases hla with h0|⟨ad,e,_⟩
   ·exact h0
   ·cases e
  subst hm
  obtain rfl:news=[]:=List.eq_nil_of_length_eq_zero (by simpa using hl)
  have hrun:=run_append_room_src (P:=P) w t t o.type e i ht hi g 0 0 0 (.slice none 0 c) 0 [] (Src.ofNil w ht c) (by omega) (fun j hj=>by simp at hj) (fun j hj=>by simp at hj)
  refine wpList_plain hgd fun K hK=>?_
  unfold Oper.wp
  simp only [execOp,ho,resolve,invoke,builtin,Sem.run_bind,Sem.run_pure,Result.andThen_ok,List.map_toArray,List.map_cons,List.map_nil,hs,hx,hrun]
  exact hK _ _ (h _ _ hown (grown_refl _ _) (by simp))
 | some ad =>
  refine wpList_append_own w hgd s x t ho base e i z size bytes ht hi hz hsize hby hzs hsz _ 0 [] hs hown ad m c news hx hl ?_ h1 (by rw [Nat.zero_add];exact h63) (by rw [Nat.zero_add];exact hbytes) hbase ?_
  ·rcases hla with h0|⟨ad',e,hc⟩
   ·subst h0
    obtain rfl:news=[]:=List.eq_nil_of_length_eq_zero (by simpa using hl)
    intro j u hj
    simp at hj
   ·cases e
    exact hc
  ·intro v' w' hv hg hn
   refine h v' w' (by simpa using hv) hg (fun e=>?_)
   have:=(hn.1 e).1
   cases this
end RowG
namespace RowG
theorem run_append_fresh {P:Program} (w:World) (base:Nat) (t ty e:TypeId) (i:TypeInfo) (z:Value) (size bytes:Nat) (ht:P.underlying t=some (.slice e)) (hi:P.info? e=some i) (hz:i.zero=some z)
 (hsize:i.size=size) (hby:i.bytes=bytes) (hzs:z.cells.size=size) (hsz:0<size)
 (v:Value) (n:Nat) (xs:List Value) (hown:w.ownsRow base e size v n xs)
 (a:Addr) (m c:Nat) (hm:0<m) (news:List Value) (hl:news.length=m*size) (hnews:∀j u,news[j]? = some u→w.cell? (a.add j)=some u) (h1:∀u∈news,u.oneCell'=true)
 (h63:n+m≤maxLen) (hbytes:(n+m)*bytes≤140737488355328) (hbase:base≤w.heap.size) :
 ∃v' w',(Builtin.append_ #[t,t] ty #[v,.slice (some a) m c]).run P w=.ok v' w'∧w'.ownsRow base e size v' (n+m) (xs++news)∧w.grownBy w' v.ownBlock∧v'≠.slice none 0 0∧∀b,v'.ownBlock=some b→v.ownBlock=some b∨b=w.heap.size:=by
 obtain ⟨v',w',hr,h2,h3,h4⟩:=run_append_own (P:=P) w base t ty e i z size bytes ht hi hz hsize hby hzs hsz v n xs hown a m c news hl hnews h1 h63 hbytes hbase
 refine ⟨v',w',hr,h2,h3,fun e=>by have:=(h4.1 e).2;omega,?_⟩
 subst hsize
 subst hby
 have hs:n+m≤9223372036854775807:=by simp only [maxLen] at h63;omega
 rcases hown.2 with ⟨rfl,rfl⟩|⟨g,cap,cur,rfl,hbg,hg,hnc,hcm,hcs,htake⟩
 ·have hq:=run_append_nil (P:=P) w t ty e i z ht hi hz a m c news hl hnews hm (by omega) (by simp only [Nat.zero_add] at hbytes;omega)
  rw [hr] at hq
  injection hq with e1 e2
  subst e1
  intro b hb
  simp only [Value.ownBlock,Option.some.injEq] at hb
  exact .inr hb.symm
 ·by_cases hroom:n+m≤cap
  ·have hq:=run_append_room (P:=P) w t ty e i ht hi g n cap cur hg a m c news hl hnews h1 hroom (by rw [hl,hcs,←Nat.add_mul];exact Nat.mul_le_mul_right _ hroom)
   rw [hr] at hq
   injection hq with e1 e2
   subst e1
   exact fun b hb=>.inl hb
  ·have hq:=run_append_grow (P:=P) w t ty e i z ht hi hz ⟨g,0,none⟩ n cap xs hown.1 (hown.cells (g:=g) rfl) a m c news hl hnews (by omega) (by omega) (growslice_fits (by omega) hbytes)
   rw [hr] at hq
   injection hq with e1 e2
   subst e1
   intro b hb
   simp only [Value.ownBlock,Option.some.injEq] at hb
   exact .inr hb.symm
theorem wpList_append_fresh {P:Program} (w:World) {ops:Array Oper} {rest:List Oper} {o:Oper} {a:Act} {Q:Exit→Act→World→Prop} (hgd:o.guard=none) (s x:Operand) (t:TypeId)
 (ho:o.op=.call {callee:=.builtin .append,args:=#[s,x],argTypes:=#[t,t]})
 (base:Nat) (e:TypeId) (i:TypeInfo) (z:Value) (size bytes:Nat) (ht:P.underlying t=some (.slice e)) (hi:P.info? e=some i) (hz:i.zero=some z)
 (hsize:i.size=size) (hby:i.bytes=bytes) (hzs:z.cells.size=size) (hsz:0<size)
 (v:Value) (n:Nat) (xs:List Value) (hs:a.eval s=v) (hown:w.ownsRow base e size v n xs)
 (ad:Addr) (m c:Nat) (hm:0<m) (news:List Value) (hx:a.eval x=.slice (some ad) m c) (hl:news.length=m*size) (hnews:∀j u,news[j]? = some u→w.cell? (ad.add j)=some u) (h1:∀u∈news,u.oneCell'=true)
 (h63:n+m≤maxLen) (hbytes:(n+m)*bytes≤140737488355328) (hbase:base≤w.heap.size)
 (h:∀v' w',w'.ownsRow base e size v' (n+m) (xs++news)→w.grownBy w' v.ownBlock→v'≠.slice none 0 0→(∀b,v'.ownBlock=some b→v.ownBlock=some b∨b=w.heap.size)→wpList P ops Q rest (a.put o.dst v') w'):wpList P ops Q (o::rest) a w:=by
 obtain ⟨v',w',hr,h2,h3,h4,h5⟩:=run_append_fresh (P:=P) w base t o.type e i z size bytes ht hi hz hsize hby hzs hsz v n xs hown ad m c hm news hl hnews h1 h63 hbytes hbase
 refine wpList_plain hgd fun K hK=>?_
 unfold Oper.wp
 simp only [execOp,ho,resolve,invoke,builtin,Sem.run_bind,Sem.run_pure,Result.andThen_ok,List.map_toArray,List.map_cons,List.map_nil,hs,hx,hr]
 exact hK _ _ (h _ _ h2 h3 h4 h5)
end RowG
namespace EngR
open RowG LtR StxR OwG
open NameR (nameB)
open CatR (Cr Crs CrAt crs_at)
def nmS (ss:List Cr):List ByteArray:=ss.map (·.a)
theorem nmS_len (ss:List Cr):(nmS ss).length=ss.length:=List.length_map ..
theorem nmS_get (ss:List Cr) (k:Nat) (hk:k<ss.length):(nmS ss).getD k tz=(ss.getD k Cr.zero).a:=by simp [nmS,List.getD,hk]
def minB (m:Int):Bool:=decide (0≤m∧m≤121000000)
def MOk (ss:List Cr) (k:Nat):Prop:=∀i,i<k→minB (ss.getD i Cr.zero).m=true
def srcB (ss:List Cr):Bool:=ss.all (fun x=>minB x.m)&&nsB (nmS ss)
theorem srcB_mark {ss:List Cr} {k:Nat} (hk:k<ss.length) (h:minB (ss.getD k Cr.zero).m=false):srcB ss=false:=by
 unfold srcB
 rw [Bool.and_eq_false_iff]
 refine .inl (List.all_eq_false.2 ⟨ss[k],List.getElem_mem hk,?_⟩)
 simp only [List.getD,List.getElem?_eq_getElem hk,Option.getD_some] at h
 simp [h]
theorem srcB_name {ss:List Cr} (h:nsB (nmS ss)=false):srcB ss=false:=by unfold srcB;rw [h,Bool.and_false]
theorem srcB_all {ss:List Cr} (h:MOk ss ss.length):srcB ss=nsB (nmS ss):=by
 unfold srcB
 rw [List.all_eq_true.2 (fun x hx=>?_),Bool.true_and]
 obtain ⟨i,hi,rfl⟩:=List.getElem_of_mem hx
 have:=h i hi
 simpa [List.getD,hi] using this
theorem MOk.zero (ss:List Cr):MOk ss 0:=fun i h=>absurd h (by omega)
theorem MOk.more {ss:List Cr} {k:Nat} (h:MOk ss k) (h1:minB (ss.getD k Cr.zero).m=true):MOk ss (k+1):=by
 intro i hi
 by_cases e:i=k
 ·subst e;exact h1
 ·exact h i (by omega)
theorem spec_srcsA (ao:Option Addr) (cap:Nat) (ss:List Cr) (w:World) (hlen:ss.length≤1048576) (hS:∀i,i<ss.length→(ss.getD i Cr.zero).a.size≤1048576) (hI:Crs ao ss.length ss w) :
 Calls Tryz.prog 54 #[.slice ao ss.length cap] w fun e w'=>e=.returned (.bool (srcB ss))∧Below w.heap.size w w':=by
 obtain ⟨ns,hns⟩:∃z,z=nmS ss:=⟨_,rfl⟩
 have hnl:ns.length=ss.length:=by rw [hns];exact nmS_len ss
 have HT0:Hid (∀k,k<ss.length→¬(lt (ahd ns k) (ns.getD k tz)=true∧nameB (ns.getD k tz)=true)→srcB ss=false):=H_ (fun k hk h=>srcB_name (by rw [←hns];exact nsB_false (by omega) h))
 have HT1:Hid (∀k,k<ss.length→minB (ss.getD k Cr.zero).m=false→srcB ss=false):=H_ (fun k hk h=>srcB_mark hk h)
 have HTE:Hid (NOk ns ss.length→MOk ss ss.length→srcB ss=decide (1≤ss.length∧ss.length≤3)):=H_ (fun h h1=>by
  rw [srcB_all h1,←hns]
  rw [←hnl] at h ⊢
  by_cases e:1≤ns.length∧ns.length≤3
  ·rw [decide_eq_true e];exact nsB_yes ⟨e,h⟩
  ·rw [decide_eq_false e];exact nsB_no (fun hr=>e hr.1))
 have HN:Hid (∀k,k<ss.length→(ss.getD k Cr.zero).a=ns.getD k tz):=H_ (fun k hk=>by rw [hns,nmS_get ss k hk])
 clear hns hnl
 have HI:=H_ hI
 have HS:=H_ hS
 obtain ⟨len,hl⟩:∃len,len=ss.length:=⟨_,rfl⟩
 rw [←hl] at hlen ⊢
 have HL:=H_ hl
 clear hI hS hl
 generalize srcB ss=R at *
 go_enter Tryz.func54,Tryz.ntmps54
 go_wp2_with fail
 go_loopw [3] (fun z wr=>∃k:Nat,k≤len∧z=.int .i64 k∧Hid (NOk ns k)∧Hid (MOk ss k)∧Hid (Below w.heap.size w wr)) (fun z _=>len-(intOf z).toNat)
 case atStart=>exact ⟨0,by omega,rfl,H_ (NOk.zero ns),H_ (MOk.zero ss),H_ (Below.refl _ _)⟩
 case round =>
  obtain ⟨k,hk,rfl,HK,HKM,HB⟩:=hrel
  by_cases hlt:k<len
  ·have hlt2:(k:Int)<(len:Int):=by omega
   obtain ⟨b,off,rfl,hbl,c0,c1⟩:=crs_at (HI.out.below HB.out) k (by have:=HL.out;omega)
   have hsz:=HS.out k (by have:=HL.out;omega)
   have HM9:=H_ (fun h1=>HKM.out.more (k:=k) h1)
   have HF9:=H_ (HT1.out k (by have:=HL.out;omega))
   rw [HN.out k (by have:=HL.out;omega)] at hsz c0
   obtain ⟨ym,hym⟩:∃z,z=(ss.getD k Cr.zero).m:=⟨_,rfl⟩
   rw [←hym] at c1 HM9 HF9
   clear hym
   have H2:=H_ (fun w=>EvtR.sminute_any ym w)
   have HM:=H_ (fun h1 h2=>HK.out.more (k:=k) h1 h2)
   have HF:=H_ (HT0.out k (by have:=HL.out;omega))
   rcases (show k=0∨∃j,k=j+1 from by rcases k with _|j;exact .inl rfl;exact .inr ⟨j,rfl⟩) with rfl|⟨j,hkj⟩
   ·have HA:Hid (ahd ns 0=⟨#[]⟩):=rfl
    simp only [Nat.zero_mul,Nat.add_zero] at c0 c1
    generalize ahd ns 0=a at *
    generalize ns.getD 0 tz=xi at *
    have H1:=H_ (fun w=>NameR.spec_any xi w hsz)
    have HP:=H_ (name_posN (s:=xi))
    generalize nameB xi=b1 at *
    cases b1
    ·have HR:Hid (R=false):=H_ (HF.out (fun h=>absurd h.2 (by simp)))
     clear HM HF HP
     go_wp2_with fail
     go_quiet ((first|(go_at_call 104;exact Calls.quiet_of_same (H1.out _))|(go_at_call 21;exact Calls.quiet_of_same (H2.out _))))
     go_wp2_with fail
     go_ret
     exact ⟨ret_bool HR.out.symm,bdN HB.out _⟩
    ·have HM2:=H_ (HM.out (by rw [HA.out];exact lt_empty (HP.out rfl)) rfl)
     clear HM HF HP
     generalize hq9:minB ym=b9 at *
     unfold minB at hq9
     rw [hq9] at H2
     clear hq9
     cases b9
     ·have HR:Hid (R=false):=H_ (HF9.out rfl)
      go_wp2_with fail
      go_quiet ((first|(go_at_call 104;exact Calls.quiet_of_same (H1.out _))|(go_at_call 21;exact Calls.quiet_of_same (H2.out _))))
      go_wp2_with fail
      go_ret
      exact ⟨ret_bool HR.out.symm,bdN HB.out _⟩
     ·have HM3:=H_ (HM9.out rfl)
      go_wp2_with fail
      go_quiet ((first|(go_at_call 104;exact Calls.quiet_of_same (H1.out _))|(go_at_call 21;exact Calls.quiet_of_same (H2.out _))))
      go_wp2_with fail
      go_roundw
      case rel=>exact ⟨0+1,by omega,by go_num,HM2,HM3,H_ (bdN HB.out _)⟩
      case measure=>simp [intOf];omega
   ·obtain ⟨b',off',hbo,hbl',d0,d1⟩:=crs_at (HI.out.below HB.out) j (by have:=HL.out;omega)
    obtain ⟨rfl,rfl⟩:b=b'∧off=off':=by simpa using hbo
    have HA:Hid (ahd ns k=ns.getD j tz):=H_ (by rw [hkj];rfl)
    rw [HN.out j (by have:=HL.out;omega)] at d0
    clear d1 hbl' hbo
    generalize ns.getD j tz=yi at *
    generalize ahd ns k=a at *
    generalize ns.getD k tz=xi at *
    have H1:=H_ (fun w=>NameR.spec_any xi w hsz)
    generalize nameB xi=b1 at *
    have hj1:IntKind.i64.wrap ((k:Int)-1)=(j:Int):=by rw [IntKind.wrap_i64];omega
    have hj2:0<k:=by omega
    have hj3:(j:Int)<(len:Int):=by omega
    clear hkj
    cases b1
    ·have HR:Hid (R=false):=H_ (HF.out (fun h=>absurd h.2 (by simp)))
     clear HM HF
     go_wp2_with fail
     go_quiet ((first|(go_at_call 104;exact Calls.quiet_of_same (H1.out _))|(go_at_call 21;exact Calls.quiet_of_same (H2.out _))))
     go_wp2_with fail
     go_ret
     exact ⟨ret_bool HR.out.symm,bdN HB.out _⟩
    rcases le_casesN xi yi with ⟨q1,q2⟩|⟨q1,q3,q4,q2⟩|⟨q1,q3,q4,q2⟩
    ·have HR:Hid (R=false):=H_ (HF.out (fun h=>by rw [HA.out,q2] at h;exact absurd h.1 (by simp)))
     have q5:Op.bytesLess yi.toList xi.toList=false:=lt_asymm q1
     clear HM HF q2
     go_wp2_with fail
     go_quiet ((first|(go_at_call 104;exact Calls.quiet_of_same (H1.out _))|(go_at_call 21;exact Calls.quiet_of_same (H2.out _))))
     go_wp2_with fail
     go_ret
     exact ⟨ret_bool HR.out.symm,bdN HB.out _⟩
    ·have HR:Hid (R=false):=H_ (HF.out (fun h=>by rw [HA.out,q2] at h;exact absurd h.1 (by simp)))
     obtain rfl:=toList_inj q3
     have q5:Op.bytesLess xi.toList xi.toList=false:=q1
     clear HM HF q2 q3 q4
     go_wp2_with fail
     go_quiet ((first|(go_at_call 104;exact Calls.quiet_of_same (H1.out _))|(go_at_call 21;exact Calls.quiet_of_same (H2.out _))))
     go_wp2_with fail
     go_ret
     exact ⟨ret_bool HR.out.symm,bdN HB.out _⟩
    ·have q5:Op.bytesLess yi.toList xi.toList=true:=q2
     have HM2:=H_ (HM.out (by rw [HA.out];exact q2) rfl)
     clear HM HF q2
     generalize hq9:minB ym=b9 at *
     unfold minB at hq9
     rw [hq9] at H2
     clear hq9
     cases b9
     ·have HR:Hid (R=false):=H_ (HF9.out rfl)
      go_wp2_with fail
      go_quiet ((first|(go_at_call 104;exact Calls.quiet_of_same (H1.out _))|(go_at_call 21;exact Calls.quiet_of_same (H2.out _))))
      go_wp2_with fail
      go_ret
      exact ⟨ret_bool HR.out.symm,bdN HB.out _⟩
     ·have HM3:=H_ (HM9.out rfl)
      go_wp2_with fail
      go_quiet ((first|(go_at_call 104;exact Calls.quiet_of_same (H1.out _))|(go_at_call 21;exact Calls.quiet_of_same (H2.out _))))
      go_wp2_with fail
      go_roundw
      case rel=>exact ⟨k+1,by omega,by go_num,HM2,HM3,H_ (bdN HB.out _)⟩
      case measure=>simp [intOf];omega
  ·have hlt2:¬(k:Int)<(len:Int):=by omega
   obtain rfl:k=len:=by omega
   have HR:=H_ (HTE.out (by rw [←HL.out];exact HK.out) (by rw [←HL.out];exact HKM.out))
   rw [←HL.out] at HR
   rcases (show k=0∨(1≤k∧k≤3)∨3<k by omega) with rfl|⟨h1,h3⟩|h3
   ·go_wp2_with (go_at_call 63;go_in)
    go_ret
    exact ⟨ret_bool (by rw [HR.out];rfl),HB.out⟩
   ·have h1':(1:Int)≤(k:Int):=by omega
    have h3':(k:Int)≤3:=by omega
    have HR2:Hid (R=true):=H_ (by rw [HR.out];exact decide_eq_true ⟨h1,h3⟩)
    clear HR h1 h3
    go_wp2_with (go_at_call 63;go_in)
    go_ret
    exact ⟨ret_bool HR2.out.symm,HB.out⟩
   ·have h1':(1:Int)≤(k:Int):=by omega
    have h3':¬(k:Int)≤3:=by omega
    have HR2:Hid (R=false):=H_ (by rw [HR.out];exact decide_eq_false (by omega))
    clear HR h3
    go_wp2_with (go_at_call 63;go_in)
    go_ret
    exact ⟨ret_bool HR2.out.symm,HB.out⟩
theorem infoSt:(Tryz.prog.info? 9).map (fun i=>(i.zero,i.size,i.bytes))=some (some (.string ⟨#[]⟩),1,16):=by kernel_rfl
theorem st_one (x:ByteArray):∀u∈[Value.string x],u.oneCell'=true:=by
 intro u hu
 simp at hu
 subst hu
 rfl
theorem nmS_take (ss:List Cr) (k:Nat) (hk:k<ss.length):(nmS ss).take (k+1)=(nmS ss).take k ++ [(ss.getD k Cr.zero).a]:=by
 have h:=RowG.take_more (z:=tz) (nmS ss) k (by rw [nmS_len];exact hk)
 rw [nmS_get ss k hk] at h
 exact h
theorem impl_srcs (ao:Option Addr) (cap:Nat) (ss:List Cr) (w:World) (hlen:ss.length≤1048576) (hS:∀i,i<ss.length→(ss.getD i Cr.zero).a.size≤1048576) (hI:Crs ao ss.length ss w) :
 Calls Tryz.prog 71 #[.slice ao ss.length cap] w fun e w'=>e=.returned (.bool (srcB ss))∧Below w.heap.size w w':=by
 obtain ⟨gi,gj,gz0,gz1,gz2⟩:=info_parts infoSt
 have HT1:Hid (∀k,k<ss.length→minB (ss.getD k Cr.zero).m=false→srcB ss=false):=H_ (fun k hk h=>srcB_mark hk h)
 have HTE:Hid (MOk ss ss.length→srcB ss=nsB (nmS ss)):=H_ (fun h=>srcB_all h)
 have HTK:=H_ (nmS_take ss)
 have HSZ:Hid (∀e∈nmS ss,e.size≤1048576):=H_ (fun e he=>by
  obtain ⟨x,hx,rfl⟩:=List.mem_map.1 he
  obtain ⟨i,hi,rfl⟩:=List.getElem_of_mem hx
  have:=hS i hi
  simpa [List.getD,hi] using this)
 have HI:=H_ hI
 obtain ⟨len,hl⟩:∃len,len=ss.length:=⟨_,rfl⟩
 rw [←hl] at hlen ⊢
 have HL:=H_ hl
 obtain ⟨ns,hns⟩:∃z,z=nmS ss:=⟨_,rfl⟩
 have HNL:Hid (ns.length=len):=H_ (by rw [hns,nmS_len,hl])
 rw [←hns] at HTE HTK HSZ
 clear hI hl hS hns
 generalize srcB ss=R at *
 go_enter Tryz.func71,Tryz.ntmps71
 go_wp2_with fail
 go_loopw [3,8] (fun x z wr=>∃(k:Nat) (sa:Option Addr) (sc:Nat),k≤len∧x=.slice sa k sc∧z=.int .i64 k∧Hid (MOk ss k)∧Hid (wr.ownsRow w.heap.size 9 1 (.slice sa k sc) k (cellsAll tcells (ns.take k)))∧Hid (Below w.heap.size w wr)) (fun _ z _=>len-(intOf z).toNat)
 case atStart=>exact ⟨0,none,0,by omega,rfl,rfl,H_ (MOk.zero ss),H_ (World.ownsRow_nil _ _ _ _),H_ (Below.refl _ _)⟩
 case round =>
  obtain ⟨k,sa,sc,hk,rfl,rfl,HK,HO,HB⟩:=hrel
  by_cases hlt:k<len
  ·have hlt2:(k:Int)<(len:Int):=by omega
   obtain ⟨b,off,rfl,hbl,c0,c1⟩:=crs_at (HI.out.below HB.out) k (by have:=HL.out;omega)
   have HM9:=H_ (fun h1=>HK.out.more (k:=k) h1)
   have HF9:=H_ (HT1.out k (by have:=HL.out;omega))
   have HTK9:=H_ (HTK.out k (by have:=HL.out;omega))
   generalize ss.getD k Cr.zero=X at *
   obtain ⟨xn,xm⟩:=X
   dsimp only at c0 c1 HM9 HF9 HTK9
   have H2:=H_ (fun w=>EvtR.minute_any xm w)
   have hal:Below wr.heap.size wr (wr.alloc (.cells #[.string xn,.int .i64 xm] 63)):=(Below.refl _ _).alloc (Nat.le_refl _) _
   have hal2:Below wr.heap.size wr ((wr.alloc (.cells #[.string xn,.int .i64 xm] 63)).alloc (.cells #[.string xn] 9)):=hal.alloc (by simp) _
   have HB1:=HT_ HB hal
   have HB2:=HT_ HB hal2
   have HO2:=H_ (RowG.own_below HO.out hal2)
   have HNW:Hid (∀j u,([.string xn]:List Value)[j]? = some u→((wr.alloc (.cells #[.string xn,.int .i64 xm] 63)).alloc (.cells #[.string xn] 9)).cell? ((⟨wr.heap.size+1,0,none⟩:Addr).add j)=some u):=H_ (by
    have h:=new_cells (wr.alloc (.cells #[.string xn,.int .i64 xm] 63)) [.string xn] 9
    rwa [show (wr.alloc (.cells #[.string xn,.int .i64 xm] 63)).heap.size=wr.heap.size+1 by simp] at h)
   have hbase:w.heap.size≤((wr.alloc (.cells #[.string xn,.int .i64 xm] 63)).alloc (.cells #[.string xn] 9)).heap.size:=HB2.out.size
   have HBS:=H_ hbase
   have sz1:k+1≤maxLen:=by unfold maxLen;omega
   have sz2:(k+1)*16≤140737488355328:=by omega
   clear hal hal2 hbase HB HO
   generalize hq9:minB xm=b9 at *
   unfold minB at hq9
   rw [hq9] at H2
   clear hq9
   cases b9
   ·have HR:Hid (R=false):=H_ (HF9.out rfl)
    go_wp2_with (go_at_call 122;refine (H2.out _).mono ?_;rintro e w' ⟨rfl,rfl⟩)
    go_ret
    exact ⟨ret_bool HR.out.symm,HB1.out⟩
   ·have HM3:=H_ (HM9.out rfl)
    go_wp2_with (first|(go_at_call 122;refine (H2.out _).mono ?_;rintro e w' ⟨rfl,rfl⟩)|(at_builtin;refine wpList_append_own _ rfl _ _ 92 rfl w.heap.size 9 gi (.string ⟨#[]⟩) 1 16 Tryz.underlying92 gj gz0 gz1 gz2 rfl (by decide) _ _ _ rfl HO2.out ⟨wr.heap.size+1,0,none⟩ 1 1 [.string xn] rfl rfl HNW.out (st_one xn) sz1 sz2 HBS.out ?_))
    intro v9 w9 hown hgrow hne
    have HB9:=H_ (HB2.out.grown hgrow HB2.out.size (fun _ e=>(HO2.out.lt _ e).1))
    have hS9:w9.ownsRow w.heap.size 9 1 v9 (k+1) (cellsAll tcells (ns.take (k+1))):=by
     rw [HTK9.out,cellsAll_snoc]
     exact hown
    obtain ⟨sb,sq,rfl⟩:=own_form hown
    have HS9:=H_ hS9
    clear hown hgrow hne hS9 HB1 HB2 HO2 HNW HBS
    go_wp2_with fail
    go_roundw
    case rel=>exact ⟨k+1,some ⟨sb,0,none⟩,sq,by omega,rfl,by go_num,HM3,HS9,HB9⟩
    case measure=>simp [intOf];omega
  ·have hlt2:¬(k:Int)<(len:Int):=by omega
   obtain rfl:k=len:=by omega
   have HR:Hid (R=nsB ns):=H_ (HTE.out (by rw [←HL.out];exact HK.out))
   have HTA:Hid (ns.take k=ns):=H_ (by rw [←HNL.out];exact List.take_length)
   rw [HTA.out] at HO
   obtain ⟨ao',cap',e1,hm⟩:=RowG.own_made (cells:=tcells) (z:=tz) (fun _=>rfl) (xs:=ns) (by have:=HO.out;rwa [←HNL.out] at this)
   simp only [Value.slice.injEq] at e1
   obtain ⟨rfl,_,rfl⟩:=e1
   have H5:=H_ (impl_names sa sc ns wr (by have:=HNL.out;omega) HSZ.out hm.rws)
   rw [HNL.out,←HR.out] at H5
   clear hm HO
   go_wp2_with (go_at_call 123;refine H5.out.mono ?_;rintro e w' ⟨rfl,hb⟩)
   go_ret
   exact ⟨rfl,HB.out.trans (hb.mono HB.out.size)⟩
end EngR
namespace CatR
open EvtR (Pt)
theorem beq_noA {a t:ByteArray} (h:a≠t):(a.toList==t.toList)=false:=by
 simpa using fun q=>h (LtR.toList_inj q)
def atB (ms:List Me) (t:ByteArray) (r:Int):Prop:=(∃k:Nat,k<ms.length∧r=k∧mN ms k=t∧∀i,i<k→mN ms i≠t)∨(r=-1∧∀i,i<ms.length→mN ms i≠t)
theorem spec_at (ma:Option Addr) (mc:Nat) (ca:Option Addr) (cl cc:Nat) (ms:List Me) (t:ByteArray) (w:World) (hl:ms.length≤1048576) (hM:Mes ma ms.length ms w) :
 Calls Tryz.prog 57 #[.agg #[.slice ma ms.length mc,.slice ca cl cc],.string t] w fun e w'=>∃r,e=.returned (.int .i64 r)∧atB ms t r∧Below w.heap.size w w':=by
 have HM:=H_ hM
 have HA:Hid (∀r,(∃k:Nat,k<ms.length∧r=(k:Int)∧mN ms k=t∧∀i,i<k→mN ms i≠t)∨(r=-1∧∀i,i<ms.length→mN ms i≠t)→atB ms t r):=H_ (fun r h=>h)
 have HB0:Hid (Below w.heap.size w (w.alloc (.cells #[.slice ma ms.length mc,.slice ca cl cc] 36))):=H_ (al_ _ _)
 have HX0:Hid (Blk w.heap.size [.slice ma ms.length mc,.slice ca cl cc] (w.alloc (.cells #[.slice ma ms.length mc,.slice ca cl cc] 36))):=H_ (Blk.new w _ _)
 generalize hml:ms.length=ml at *
 clear hM
 go_enter Tryz.func57,Tryz.ntmps57
 go_wp2_with fail
 go_loopw [5] (fun z wr=>∃k:Nat,k≤ml∧z=.int .i64 k∧Hid (∀i,i<k→mN ms i≠t)∧Hid (Below w.heap.size w wr)∧Hid (Blk w.heap.size [.slice ma ml mc,.slice ca cl cc] wr)) (fun z _=>ml-(intOf z).toNat)
 case atStart=>exact ⟨0,by omega,rfl,H_ (fun i h=>absurd h (by omega)),HB0,HX0⟩
 case round =>
  obtain ⟨k,hk,rfl,HK,HB,HX⟩:=hrel
  have x0:=q_ HX.out.2 0
  have xl:=HX.out.1
  by_cases hlt:k<ml
  ·have hlt2:(k:Int)<(ml:Int):=by omega
   obtain ⟨b,off,rfl,hbl,ta,tc,c0,c1,c2,c3,c4,c5,hTT⟩:=mes_at (HM.out.below HB.out) k hlt
   replace c0:wr.cell? ⟨b,off+k*6,none⟩=some (.string (mN ms k)):=c0
   clear c1 c2 c3 c4 c5 hTT
   by_cases he:mN ms k=t
   ·have HR:=H_ (HA.out (k:Int) (.inl ⟨k,hlt,rfl,he,HK.out⟩))
    rw [he] at c0
    clear he
    go_wp2_with fail
    go_ret
    exact ⟨_,rfl,HR.out,HB.out⟩
   ·have HK2:Hid (∀i,i<k+1→mN ms i≠t):=H_ (fun i hi=>by
     by_cases e:i=k
     ·subst e;exact he
     ·exact HK.out i (by omega))
    have hb:=beq_noA he
    have hne:(mN ms k).toList≠t.toList:=by simpa using hb
    clear he
    generalize mN ms k=n at *
    go_wp2_with fail
    go_roundw
    case rel=>exact ⟨k+1,by omega,by go_num,HK2,HB,HX⟩
    case measure=>simp [intOf];omega
  ·have hlt2:¬(k:Int)<(ml:Int):=by omega
   have HR:=H_ (HA.out (-1) (.inr ⟨rfl,fun i hi=>HK.out i (by omega)⟩))
   go_wp2_with fail
   go_ret
   exact ⟨_,rfl,HR.out,HB.out⟩
end CatR
end Go.Proofs.YtnceeaccbcfopaaGreatDoor
namespace Go.Proofs.YtnceeaccbcfopaaGreatDoor
open Go.ChangeShapes Go.WideShapes Go.ChangeAt Go.RowKit
structure HW (S:World→Prop) where
 w:World
 h:S w
theorem wp_region_hw {P:Program} {id:Nat} {Q:Exit→Act→World→Prop} {a:Act} {w:World} {l:List Oper} (S:World→Prop) (hm:P.follows .mixedOrders=true) (hB:Region.lexB .any l.toArray=true) (hC:S w.drew)
 (h:wpQuiet P l.toArray (fun w'=>∃s:HW S,w'=s.w) (fun a'=>∀w',(∃s:HW S,w'=s.w)→Q .normal a' w') l a):(Code.region id l.toArray true).wp P Q a w :=
 wp_region_quiet (C:=fun w'=>∃s:HW S,w'=s.w) hm hB ⟨⟨_,hC⟩,rfl⟩ (by simpa using h)
end Go.Proofs.YtnceeaccbcfopaaGreatDoor
namespace Go.Proofs.YtnceeaccbcfopaaGreatDoor
open Go.ChangeShapes Go.WideShapes Go.ChangeAt Go.RowKit
set_option linter.unusedVariables false
namespace DateR
open DateM
theorem mon_divE (k:Nat):(k:Int).tdiv 12=((k / 12:Nat):Int)∧(k:Int).tmod 12=((k % 12:Nat):Int):=by
 rw [Int.tdiv_eq_ediv_of_nonneg (by omega),Int.tmod_eq_emod_of_nonneg (by omega)];omega
theorem first_anyE (k a b:Nat) (hk:k≤2760) (ha:(k:Int).tdiv 12=(a:Int)) (hb:(k:Int).tmod 12=(b:Int)) (ha2:a≤230) (hb2:b≤11) (w:World) :
 Calls Tryz.prog 172 #[.int .i64 k] w fun e w'=>e=.returned (date (1970+(a:Int)) ((b:Int)+1) 1)∧Below w.heap.size w w':=by
 go_enter Tryz.func172,Tryz.ntmps172
 go_wp2_with fail
 refine bodyPost_ret (v:=date (1970+(a:Int)) ((b:Int)+1) 1) (by simp [date,results,Tryz.results172,go_sem]) rfl ⟨rfl,?_⟩
 repeat' first|exact Below.refl _ _|apply Below.setCell|apply Below.alloc
 all_goals first|omega|(simp;done)|(simp;omega)
theorem impl_start_inE (k a b:Nat) (D:Int) (hk:k≤2760) (ha:(k:Int).tdiv 12=(a:Int)) (hb:(k:Int).tmod 12=(b:Int)) (ha2:a≤230) (hb2:b≤11) (hD:0≤D) (hD2:D≤100000) (w:World) (hL:Laid w)
 (hd:∀w,Laid w→Calls Tryz.prog 171 #[date (1970+(a:Int)) ((b:Int)+1) 1] w fun e w'=>e=.returned (.int .i64 D)∧Below w.heap.size w w') :
 Calls Tryz.prog 125 #[.int .i64 k] w fun e w'=>e=.returned (.int .i64 (D*1440))∧Below w.heap.size w w':=by
 have HD:=H_ hd
 have HL:=H_ hL
 clear hd hL
 have k2:(k:Int)≤2760:=by omega
 have HF:=H_ (fun w=>first_anyE k a b hk ha hb ha2 hb2 w)
 unfold date at *
 go_enter Tryz.func125,Tryz.ntmps125
 go_wp2_with (first|(go_at_call 73;go_in)|(go_at_call 30;go_in)|(go_at_call 172;refine (HF.out _).mono ?_;rintro e w1 ⟨rfl,hb1⟩)|(go_at_call 171;refine (HD.out _ (HL.out.below hb1)).mono ?_;rintro e w2 ⟨rfl,hb2⟩))
 go_ret
 exact ⟨rfl,hb1.trans (hb2.mono hb1.size)⟩
theorem spec_start_inE (k a b:Nat) (D:Int) (hk:k≤2760) (ha:(k:Int).tdiv 12=(a:Int)) (hb:(k:Int).tmod 12=(b:Int)) (ha2:a≤230) (hb2:b≤11) (hD:0≤D) (hD2:D≤100000) (w:World)
 (hd:∀w,Calls Tryz.prog 112 #[date (1970+(a:Int)) (1+(b:Int)) 1] w fun e w'=>e=.returned (.int .i64 D)∧Below w.heap.size w w') :
 Calls Tryz.prog 59 #[.int .i64 k] w fun e w'=>e=.returned (.int .i64 (D*1440))∧Below w.heap.size w w':=by
 have HD:=H_ hd
 clear hd
 have k2:(k:Int)≤2760:=by omega
 unfold date at *
 go_enter Tryz.func59,Tryz.ntmps59
 go_wp2_with (first|(go_at_call 112;refine (HD.out _).mono ?_;rintro e w1 ⟨rfl,hb1⟩))
 go_ret
 exact ⟨ret_int (by omega),hb1⟩
theorem start_eng (m:Int) (h1:0≤m) (h2:m≤2760):∃v:Int,(∀w,Laid w→Calls Tryz.prog 125 #[.int .i64 m] w fun e w'=>e=.returned (.int .i64 v)∧Below w.heap.size w w')∧(∀w,Calls Tryz.prog 59 #[.int .i64 m] w fun e w'=>e=.returned (.int .i64 v)∧Below w.heap.size w w'):=by
 obtain ⟨k,rfl⟩:∃k:Nat,m=k:=⟨m.toNat,by omega⟩
 have hr:=right_first k (by omega)
 have hn:=fd_num k
 have bd:=fd_bd k
 rw [show (k:Int) / 12=((k / 12:Nat):Int) by omega,show (k:Int) % 12=((k % 12:Nat):Int) by omega] at hr hn
 obtain ⟨e1,e2⟩:=mon_divE k
 have hi:=fun w hL=>impl_dayof_in (1970+((k / 12:Nat):Int)) (((k % 12:Nat):Int)+1) 1 w hL hr
 have hs:=fun w=>spec_dayof_in (1970+((k / 12:Nat):Int)) (((k % 12:Nat):Int)+1) 1 w hr
 rw [hn] at hi hs
 rw [Int.add_comm ((k % 12:Nat):Int) 1] at hs
 exact ⟨_,fun w hL=>impl_start_inE k (k / 12) (k % 12) (fd k) (by omega) e1 e2 (by omega) (by omega) (by omega) (by omega) w hL hi,
  fun w=>spec_start_inE k (k / 12) (k % 12) (fd k) (by omega) e1 e2 (by omega) (by omega) (by omega) (by omega) w hs⟩
end DateR
end Go.Proofs.YtnceeaccbcfopaaGreatDoor
