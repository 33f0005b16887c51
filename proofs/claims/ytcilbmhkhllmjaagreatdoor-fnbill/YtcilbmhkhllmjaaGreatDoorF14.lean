/-
  The draws of a meter, further: one of the plain catalog that may be changed. The condition: the bytes are at most 1048576.
-/
import Derived.Test.YtcilbmhkhllmjaaGreatDoorF13
namespace Go.Proofs.YtcilbmhkhllmjaaGreatDoor
open Go.ChangeShapes Go.WideShapes Go.ChangeAt Go.RowKit
set_option linter.unusedVariables false
namespace DrawR
open CatR (Ti Me Cr Ca Tis Mes Crs TiAt MeAt CrAt IsMe IsCa tis_at mes_at)
open EvtR (Pt cell_put cell_far)
end DrawR
namespace CatR
theorem pt_row6 (w:World) (T:TypeId):EvtR.Pt w.heap.size 6 (w.alloc (.cells #[.string ⟨#[]⟩,.int .i64 0,.bool false,.int .i64 0,.int .i64 0,.slice none 0 0] T)):=by
 refine ⟨by simp,fun o ho=>?_,fun o ho=>by simp [go_sem]⟩
 match o,ho with
 | 0,_=>exact ⟨_,by simp [go_sem];rfl⟩
 | 1,_=>exact ⟨_,by simp [go_sem];rfl⟩
 | 2,_=>exact ⟨_,by simp [go_sem];rfl⟩
 | 3,_=>exact ⟨_,by simp [go_sem];rfl⟩
 | 4,_=>exact ⟨_,by simp [go_sem];rfl⟩
 | 5,_=>exact ⟨_,by simp [go_sem];rfl⟩
theorem pt_cells6 (w:World) (a b c d e f:Value) (T:TypeId):EvtR.Pt w.heap.size 6 (w.alloc (.cells #[a,b,c,d,e,f] T)):=by
 refine ⟨by simp,fun o ho=>?_,fun o ho=>by simp [go_sem]⟩
 match o,ho with
 | 0,_=>exact ⟨_,by simp [go_sem];rfl⟩
 | 1,_=>exact ⟨_,by simp [go_sem];rfl⟩
 | 2,_=>exact ⟨_,by simp [go_sem];rfl⟩
 | 3,_=>exact ⟨_,by simp [go_sem];rfl⟩
 | 4,_=>exact ⟨_,by simp [go_sem];rfl⟩
 | 5,_=>exact ⟨_,by simp [go_sem];rfl⟩
end CatR
namespace DrawR
open CatR (Ti Me Cr Ca Tis Mes Crs TiAt MeAt CrAt IsMe IsCa tis_at mes_at)
open EvtR (Pt cell_put cell_far)
def meC (m:Me) (ta:Option Addr) (tc:Nat):List Value:=[.string m.n,.int .i64 m.g,.bool m.wh,.int .i64 m.f,.int .i64 m.l,.slice ta m.ts.length tc]
theorem tis_kept {ta:Option Addr} {len:Nat} {ts:List Ti} {w w':World} {row:Option Nat} (h:Tis ta len ts w) (hg:w.grownBy w' row) (hne:∀b o,ta=some ⟨b,o,none⟩→some b≠row):Tis ta len ts w':=by
 refine ⟨h.1,?_⟩
 rcases h.2 with h0|⟨b,off,rfl,hlt,hc⟩
 ·exact .inl h0
 ·have e:=hg.block b hlt (hne b off rfl)
  exact .inr ⟨b,off,rfl,by have:=hg.size;omega,fun j hj=>⟨(World.cell?_of_block (a:=⟨b,off+j*2,none⟩) e).trans (hc j hj).1,(World.cell?_of_block (a:=⟨b,off+j*2+1,none⟩) e).trans (hc j hj).2⟩⟩
theorem pt_kept {B n:Nat} {w w':World} {row:Option Nat} (h:Pt B n w) (hg:w.grownBy w' row) (hne:some B≠row):Pt B n w':=by
 have e:=hg.block B h.lt hne
 exact ⟨by have:=hg.size;have:=h.lt;omega,fun o ho=>by obtain ⟨v,hv⟩:=h.has o ho;exact ⟨v,(World.cell?_of_block (a:=⟨B,o,none⟩) e).trans hv⟩,fun o ho=>(World.frozen?_of_block (a:=⟨B,o,none⟩) e).trans (h.free o ho)⟩
structure MS (ao:Option Addr) (len cap g:Nat) (w:World) (B R:Nat) (m:Me) (ta:Option Addr) (tc:Nat) (W:World):Prop where
 src:Src ao len cap g W
 grew:w.grownBy W (some g)
 glt:g<w.heap.size
 ptB:Pt B 6 W
 ptR:Pt R 6 W
 hB:w.heap.size≤B
 hR:w.heap.size≤R
 hne:B≠R
 cells:∀i,i<6→W.cell? ⟨B,i,none⟩=(meC m ta tc)[i]?
 tis:Tis ta m.ts.length m.ts W
 far:∀b o,ta=some ⟨b,o,none⟩→w.heap.size≤b∧b≠B∧b≠R
 small:m.n.size≤100∧m.ts.length≤100
theorem MS.step {ao:Option Addr} {len cap g:Nat} {w:World} {B R:Nat} {m:Me} {ta:Option Addr} {tc:Nat} {W W':World} (h:MS ao len cap g w B R m ta tc W) (hS:Src ao len cap g W') (hg:W.grownBy W' (some g)):MS ao len cap g w B R m ta tc W':=by
 have hgl:=h.glt
 have nB:some B≠some g:=by have:=h.hB;intro e;cases e;omega
 have nR:some R≠some g:=by have:=h.hR;intro e;cases e;omega
 refine ⟨hS,Lib.grownBy_trans h.grew hg,hgl,pt_kept h.ptB hg nB,pt_kept h.ptR hg nR,h.hB,h.hR,h.hne,fun i hi=>?_,tis_kept h.tis hg (fun b o e q=>?_),h.far,h.small⟩
 ·exact (World.cell?_of_block (a:=⟨B,i,none⟩) (hg.block B h.ptB.lt nB)).trans (h.cells i hi)
 ·have:=(h.far b o e).1
  cases q;omega
theorem MS.alloc {ao:Option Addr} {len cap g:Nat} {w:World} {B R:Nat} {m:Me} {ta:Option Addr} {tc:Nat} {W:World} (h:MS ao len cap g w B R m ta tc W) (o:Obj):MS ao len cap g w B R m ta tc (W.alloc o) :=
 h.step (h.src.alloc o) (World.grownBy_alloc W o _)
theorem MS.set {ao:Option Addr} {len cap g:Nat} {w:World} {B R:Nat} {m:Me} {ta:Option Addr} {tc:Nat} {W:World} (h:MS ao len cap g w B R m ta tc W) (j:Nat) (hj:j<6) (v:Value) (m':Me) (ta':Option Addr) (tc':Nat)
 (hc:∀i,i<6→(meC m' ta' tc')[i]? = if i=j then some v else (meC m ta tc)[i]?)
 (ht:Tis ta' m'.ts.length m'.ts W) (hf:∀b o,ta'=some ⟨b,o,none⟩→w.heap.size≤b∧b≠B∧b≠R) (hs:m'.n.size≤100∧m'.ts.length≤100):MS ao len cap g w B R m' ta' tc' (W.setCell ⟨B,j,none⟩ v):=by
 have hgl:=h.glt
 have hg:W.grownBy (W.setCell ⟨B,j,none⟩ v) (some B):=RowG.grown_set W B j v
 refine ⟨h.src.kept hg (fun k e=>by cases e;have:=h.hB;omega),?_,hgl,h.ptB.set _ _,pt_kept h.ptR hg (fun e=>by cases e;exact h.hne rfl),h.hB,h.hR,h.hne,fun i hi=>?_,tis_kept ht hg (fun b o e q=>?_),hf,hs⟩
 ·exact h.grew.andThen hg (fun k e=>by cases e;exact .inl h.hB)
 ·rw [hc i hi]
  by_cases e:i=j
  ·rw [if_pos e,e];exact cell_put h.ptB j hj v
  ·rw [if_neg e,cell_far j i (fun q=>e q.symm) v];exact h.cells i hi
 ·have:=(hf b o e).2.1
  cases q;exact this rfl
def fin6 (W:World) (R:Nat) (a b c d e f:Value):World:=(((((W.setCell ⟨R,0,none⟩ a).setCell ⟨R,1,none⟩ b).setCell ⟨R,2,none⟩ c).setCell ⟨R,3,none⟩ d).setCell ⟨R,4,none⟩ e).setCell ⟨R,5,none⟩ f
theorem fin6_grown (W:World) (R:Nat) (a b c d e f:Value):W.grownBy (fin6 W R a b c d e f) (some R):=by
 unfold fin6
 have h:=fun (W:World) (o:Nat) (v:Value)=>RowG.grown_set W R o v
 have tr:=fun {a b c:World} (h1:a.grownBy b (some R)) (h2:b.grownBy c (some R))=>Lib.grownBy_trans h1 h2
 exact tr (tr (tr (tr (tr (h _ _ _) (h _ _ _)) (h _ _ _)) (h _ _ _)) (h _ _ _)) (h _ _ _)
theorem fin6_cells {W:World} {R:Nat} (hp:Pt R 6 W) (a b c d e f:Value):∀i,i<6→(fin6 W R a b c d e f).cell? ⟨R,i,none⟩=[a,b,c,d,e,f][i]?:=by
 intro i hi
 unfold fin6
 have p1:=hp.set 0 a
 have p2:=p1.set 1 b
 have p3:=p2.set 2 c
 have p4:=p3.set 3 d
 have p5:=p4.set 4 e
 match i,hi with
 | 0,_=>rw [cell_far 5 0 (by omega),cell_far 4 0 (by omega),cell_far 3 0 (by omega),cell_far 2 0 (by omega),cell_far 1 0 (by omega)];exact cell_put hp 0 (by omega) a
 | 1,_=>rw [cell_far 5 1 (by omega),cell_far 4 1 (by omega),cell_far 3 1 (by omega),cell_far 2 1 (by omega)];exact cell_put p1 1 (by omega) b
 | 2,_=>rw [cell_far 5 2 (by omega),cell_far 4 2 (by omega),cell_far 3 2 (by omega)];exact cell_put p2 2 (by omega) c
 | 3,_=>rw [cell_far 5 3 (by omega),cell_far 4 3 (by omega)];exact cell_put p3 3 (by omega) d
 | 4,_=>rw [cell_far 5 4 (by omega)];exact cell_put p4 4 (by omega) e
 | 5,_=>exact cell_put p5 5 (by omega) f
theorem res6 (R:Nat) (tm:Array Value) (W:World) (a b c d e f:Value) (h2:tm[2]?.getD undef=.pointer (some ⟨R,0,none⟩)) (h:∀i,i<6→W.cell? ⟨R,i,none⟩=[a,b,c,d,e,f][i]?):(results Tryz.f107 tm).run Tryz.prog W=.ok (.agg #[a,b,c,d,e,f]) W:=by
 have f0:=h 0 (by omega)
 have f1:=h 1 (by omega)
 have f2:=h 2 (by omega)
 have f3:=h 3 (by omega)
 have f4:=h 4 (by omega)
 have f5:=h 5 (by omega)
 simp only [List.getElem?_cons_zero,List.getElem?_cons_succ] at f0 f1 f2 f3 f4 f5
 simp [results,Tryz.results107,go_sem,h2,f0,f1,f2,f3,f4,f5]
theorem pick_cell (w4:World) (L:List Int) (t:Nat) (ht:t<L.length) (T:TypeId) {w5:World} (h:w5.cell? ⟨w4.heap.size,t,none⟩=(w4.alloc (.cells (L.map (Value.int .i64)).toArray T)).cell? ⟨w4.heap.size,t,none⟩):∃Y:Int,w5.cell? ⟨w4.heap.size,t,none⟩=some (.int .i64 Y):=by
 refine ⟨L[t],h.trans ?_⟩
 rw [World.cell?_alloc_mark,List.getElem?_toArray,List.getElem?_map,List.getElem?_eq_getElem ht]
 rfl
theorem tis_tail {b:Nat} {ts:List Ti} {w:World} (h:Tis (some ⟨b,0,none⟩) ts.length ts w):Tis (some ⟨b,2,none⟩) ts.tail.length ts.tail w:=by
 refine ⟨rfl,?_⟩
 rcases h.2 with h0|⟨b',off,e,hlt,hc⟩
 ·exact .inl (by rw [List.length_tail];omega)
 ·cases e
  refine .inr ⟨b,2,rfl,hlt,fun j hj=>?_⟩
  have:=hc (j+1) (by rw [List.length_tail] at hj;omega)
  rw [show 0+(j+1)*2=2+j*2 by omega] at this
  rw [show ts.tail.getD j Ti.zero=ts.getD (j+1) Ti.zero by cases ts<;>rfl]
  exact this
def tiC (t:Ti):List Value:=[.int .i64 t.u,.int .i64 t.p]
theorem tiC_len (t:Ti):(tiC t).length=2:=rfl
theorem tis_of {ao:Option Addr} {ts:List Ti} {w:World} (h:RowG.Rws 2 tiC Ti.zero ao ts w):Tis ao ts.length ts w:=by
 refine ⟨rfl,?_⟩
 rcases h with h0|⟨b,off,rfl,hlt,hc⟩
 ·exact .inl h0
 ·exact .inr ⟨b,off,rfl,hlt,fun j hj=>⟨hc j hj 0 (by omega),hc j hj 1 (by omega)⟩⟩
theorem tis_news {b:Nat} {ts:List Ti} {w:World} (h:Tis (some ⟨b,0,none⟩) ts.length ts w):∀(j:Nat) (u:Value),(RowG.cellsAll tiC ts)[j]? = some u→w.cell? ((⟨b,0,none⟩:Addr).add j)=some u:=by
 intro j u hu
 have hl:=RowG.cellsAll_len tiC_len ts
 have hj:j<ts.length*2:=by rw [←hl];exact (List.getElem?_eq_some_iff.1 hu).1
 have e:j=(j / 2)*2+j % 2:=by omega
 have hi:j / 2<ts.length:=by omega
 have hg:=RowG.cellsAll_get (z:=Ti.zero) tiC_len ts (j / 2) (j % 2) hi (by omega)
 rw [←e,hu] at hg
 have ha:(⟨b,0,none⟩:Addr).add j=⟨b,j,none⟩:=by simp [Addr.add];omega
 rw [ha]
 rcases h.2 with h0|⟨b',off,e',_,hc⟩
 ·omega
 ·cases e'
  have hc:=hc _ hi
  unfold CatR.TiAt at hc
  rw [Nat.zero_add] at hc
  rcases (show j % 2=0∨j % 2=1 by omega) with q|q
  ·have t:w.cell? ⟨b,j,none⟩=w.cell? ⟨b,j / 2*2,none⟩:=congrArg (fun o=>w.cell? ⟨b,o,none⟩) (by omega)
   rw [q] at hg
   exact t.trans (hc.1.trans hg.symm)
  ·have t:w.cell? ⟨b,j,none⟩=w.cell? ⟨b,j / 2*2+1,none⟩:=congrArg (fun o=>w.cell? ⟨b,o,none⟩) (by omega)
   rw [q] at hg
   exact t.trans (hc.2.trans hg.symm)
theorem tis_one (u:Value→Prop) (ts:List Ti):∀x∈RowG.cellsAll tiC ts,x.oneCell'=true:=by
 intro x hx
 simp only [RowG.cellsAll,List.mem_flatMap] at hx
 obtain ⟨t,_,ht⟩:=hx
 simp only [tiC,List.mem_cons,List.not_mem_nil,or_false] at ht
 rcases ht with rfl|rfl<;>rfl
theorem infoTi:(Tryz.prog.info? 162).map (fun i=>(i.zero,i.size,i.bytes))=some (some (.agg #[.int .i64 0,.int .i64 0]),2,16):=by kernel_rfl
theorem step_app {P:Program} {w:World} {ops:Array Oper} {o:Oper} {a:Act} {K:Act→World→Prop} {Q:Exit→Act→World→Prop} {E:Prop} (hgd:o.guard=none) (s x:Operand) (t:TypeId)
 (ho:o.op=.call {callee:=.builtin .append,args:=#[s,x],argTypes:=#[t,t]})
 (base:Nat) (e:TypeId) (i:TypeInfo) (z:Value) (size bytes:Nat) (ht:P.underlying t=some (.slice e)) (hi:P.info? e=some i) (hz:i.zero=some z)
 (hsize:i.size=size) (hby:i.bytes=bytes) (hzs:z.cells.size=size) (hsz:0<size)
 (v:Value) (n:Nat) (xs:List Value) (hs:a.eval s=v) (hown:w.ownsRow base e size v n xs)
 (ad:Addr) (m c:Nat) (news:List Value) (hx:a.eval x=.slice (some ad) m c) (hl:news.length=m*size) (hnews:∀j u,news[j]? = some u→w.cell? (ad.add j)=some u) (h1:∀u∈news,u.oneCell'=true)
 (h63:n+m≤maxLen) (hbytes:(n+m)*bytes≤140737488355328) (hbase:base≤w.heap.size)
 (h:∀v' w',w'.ownsRow base e size v' (n+m) (xs++news)→w.grownBy w' v.ownBlock→(v'=.slice none 0 0↔v=.slice none 0 0∧m=0)→K (a.put o.dst v') w'):if Region.wanted o (yielded ops a.tmps)=true then Oper.wp P o a w K Q else E:=by
 have hw:Region.wanted o (yielded ops a.tmps)=true:=by simp [Region.wanted,hgd]
 rw [if_pos hw]
 exact wp_append_own w s x t ho base e i z size bytes ht hi hz hsize hby hzs hsz v n xs hs hown ad m c news hx hl hnews h1 h63 hbytes hbase h
theorem MS.drew {ao:Option Addr} {len cap g:Nat} {w:World} {B R:Nat} {m:Me} {ta:Option Addr} {tc:Nat} {W:World} (h:MS ao len cap g w B R m ta tc W):MS ao len cap g w B R m ta tc W.drew :=
 h.step (show Src ao len cap g W.drew from h.src) (grown_drew (World.grownBy.refl _ _))
theorem MS.grown {ao:Option Addr} {len cap g:Nat} {w:World} {B R:Nat} {m:Me} {ta:Option Addr} {tc:Nat} {W W':World} {row:Option Nat} (h:MS ao len cap g w B R m ta tc W) (hg:W.grownBy W' row) (hr:∀k,row=some k→w.heap.size≤k∧k≠B∧k≠R∧∀b o,ta=some ⟨b,o,none⟩→b≠k):MS ao len cap g w B R m ta tc W':=by
 have hgl:=h.glt
 have nB:some B≠row:=fun e=>(hr B e.symm).2.1 rfl
 have nR:some R≠row:=fun e=>(hr R e.symm).2.2.1 rfl
 refine ⟨h.src.kept hg (fun k e=>by have:=(hr k e).1;omega),h.grew.andThen hg (fun k e=>.inl (hr k e).1),hgl,pt_kept h.ptB hg nB,pt_kept h.ptR hg nR,h.hB,h.hR,h.hne,fun i hi=>?_,tis_kept h.tis hg (fun b o e q=>(hr b q.symm).2.2.2 b o e rfl),h.far,h.small⟩
 exact (World.cell?_of_block (a:=⟨B,i,none⟩) (hg.block B h.ptB.lt nB)).trans (h.cells i hi)
theorem alloc_set (w:World) (o:Obj) (B j:Nat) (v:Value) (h:B<w.heap.size):(w.alloc o).setCell ⟨B,j,none⟩ v=(w.setCell ⟨B,j,none⟩ v).alloc o:=by
 simp [go_sem,h]
def MeOut (ao:Option Addr) (len cap g:Nat) (w:World) (e:Ending) (w':World):Prop:=(∃(m:Me) (ta:Option Addr) (tc:Nat),e=.returned (.agg #[.string m.n,.int .i64 m.g,.bool m.wh,.int .i64 m.f,.int .i64 m.l,.slice ta m.ts.length tc])∧Tis ta m.ts.length m.ts w'∧(∀b o,ta=some ⟨b,o,none⟩→w.heap.size≤b)∧m.n.size≤100∧m.ts.length≤100)∧Src ao len cap g w'∧w.grownBy w' (some g)
theorem MS.fin {ao:Option Addr} {len cap g:Nat} {w:World} {B R:Nat} {m:Me} {ta:Option Addr} {tc:Nat} {W:World} (h:MS ao len cap g w B R m ta tc W) :
 MeOut ao len cap g w (.returned (.agg #[.string m.n,.int .i64 m.g,.bool m.wh,.int .i64 m.f,.int .i64 m.l,.slice ta m.ts.length tc])) (fin6 W R (.string m.n) (.int .i64 m.g) (.bool m.wh) (.int .i64 m.f) (.int .i64 m.l) (.slice ta m.ts.length tc)):=by
 have hgl:=h.glt
 have hg:=fin6_grown W R (.string m.n) (.int .i64 m.g) (.bool m.wh) (.int .i64 m.f) (.int .i64 m.l) (.slice ta m.ts.length tc)
 refine ⟨⟨m,ta,tc,rfl,tis_kept h.tis hg (fun b o e q=>?_),fun b o e=>(h.far b o e).1,h.small.1,h.small.2⟩,h.src.kept hg (fun k e=>by cases e;have:=h.hR;omega),h.grew.andThen hg (fun k e=>by cases e;exact .inl h.hR)⟩
 have:=(h.far b o e).2.2
 cases q;exact this rfl
theorem plain_at (w:World) (j:Nat) (hj:j<4):∃b,w.heap.size<b∧b≤w.heap.size+4∧b<(plainW w).heap.size∧(∀i,i<6→(plainW w).cell? ⟨w.heap.size+1+1+1+1+1,j*6+i,none⟩=(meC (plainM.getD j Me.zero) (some ⟨b,0,none⟩) (plainM.getD j Me.zero).ts.length)[i]?)∧Tis (some ⟨b,0,none⟩) (plainM.getD j Me.zero).ts.length (plainM.getD j Me.zero).ts (plainW w)∧1≤(plainM.getD j Me.zero).ts.length∧(plainM.getD j Me.zero).ts.length≤3∧(plainM.getD j Me.zero).n.size≤100:=by
 have m:=(plain_m w).2
 match j,hj with
 | 0,_=>exact ⟨w.heap.size+1,by omega,by omega,(plain_t0 w).1,(fun i hi=>by
  match i,hi with
  | 0,_=>exact m 0 (by omega)
  | 1,_=>exact m 1 (by omega)
  | 2,_=>exact m 2 (by omega)
  | 3,_=>exact m 3 (by omega)
  | 4,_=>exact m 4 (by omega)
  | 5,_=>exact m 5 (by omega)
  ),⟨rfl,.inr ⟨_,0,rfl,(plain_t0 w).1,fun i hi=>by
  have t:=(plain_t0 w).2
  match i,hi with
  | 0,_=>exact ⟨t 0 (by omega),t 1 (by omega)⟩
  | 1,_=>exact ⟨t 2 (by omega),t 3 (by omega)⟩
  ⟩⟩,by decide,by decide,by decide⟩
 | 1,_=>exact ⟨w.heap.size+1+1,by omega,by omega,(plain_t1 w).1,(fun i hi=>by
  match i,hi with
  | 0,_=>exact m 6 (by omega)
  | 1,_=>exact m 7 (by omega)
  | 2,_=>exact m 8 (by omega)
  | 3,_=>exact m 9 (by omega)
  | 4,_=>exact m 10 (by omega)
  | 5,_=>exact m 11 (by omega)
  ),⟨rfl,.inr ⟨_,0,rfl,(plain_t1 w).1,fun i hi=>by
  have t:=(plain_t1 w).2
  match i,hi with
  | 0,_=>exact ⟨t 0 (by omega),t 1 (by omega)⟩
  | 1,_=>exact ⟨t 2 (by omega),t 3 (by omega)⟩
  | 2,_=>exact ⟨t 4 (by omega),t 5 (by omega)⟩
  ⟩⟩,by decide,by decide,by decide⟩
 | 2,_=>exact ⟨w.heap.size+1+1+1,by omega,by omega,(plain_t2 w).1,(fun i hi=>by
  match i,hi with
  | 0,_=>exact m 12 (by omega)
  | 1,_=>exact m 13 (by omega)
  | 2,_=>exact m 14 (by omega)
  | 3,_=>exact m 15 (by omega)
  | 4,_=>exact m 16 (by omega)
  | 5,_=>exact m 17 (by omega)
  ),⟨rfl,.inr ⟨_,0,rfl,(plain_t2 w).1,fun i hi=>by
  have t:=(plain_t2 w).2
  match i,hi with
  | 0,_=>exact ⟨t 0 (by omega),t 1 (by omega)⟩
  ⟩⟩,by decide,by decide,by decide⟩
 | 3,_=>exact ⟨w.heap.size+1+1+1+1,by omega,by omega,(plain_t3 w).1,(fun i hi=>by
  match i,hi with
  | 0,_=>exact m 18 (by omega)
  | 1,_=>exact m 19 (by omega)
  | 2,_=>exact m 20 (by omega)
  | 3,_=>exact m 21 (by omega)
  | 4,_=>exact m 22 (by omega)
  | 5,_=>exact m 23 (by omega)
  ),⟨rfl,.inr ⟨_,0,rfl,(plain_t3 w).1,fun i hi=>by
  have t:=(plain_t3 w).2
  match i,hi with
  | 0,_=>exact ⟨t 0 (by omega),t 1 (by omega)⟩
  ⟩⟩,by decide,by decide,by decide⟩
set_option maxRecDepth 100000 in
set_option maxHeartbeats 4000000 in
theorem meter_any (ao:Option Addr) (len cap g:Nat) (w:World) (hS:Src ao len cap g w) :
 Calls Tryz.prog 107 #[.pointer (some ⟨g,0,none⟩)] w fun e w'=>MeOut ao len cap g w e w':=by
 have hgl:=hS.lt
 have HS:=H_ hS
 have HN:=H_ (fun most W hm h=>n_any ao len cap g most W hm h)
 have HO:=H_ (fun most W hm h=>one_any ao len cap g most W hm h)
 have hfld:∀x y w,(Instr.field 36 (.agg #[x,y]) 0).run Tryz.prog w=.ok x w:=fun x y w=>by kernel_rfl
 have HP:=H_ (fun w=>plain_any w)
 clear hS
 go_enter Tryz.func107,Tryz.ntmps107
 go_wp2_with fail
 refine (HP.out _).mono ?_
 rintro e w1 ⟨rfl,rfl⟩
 have HB1:Hid (Below w.heap.size w (plainW (w.alloc (.cells #[.string ⟨#[]⟩,.int .i64 0,.bool false,.int .i64 0,.int .i64 0,.slice none 0 0] 117)))):=H_ (((Below.refl _ _).alloc (Nat.le_refl _) _).trans ((plain_below _).mono (by simp)))
 have HPT:Hid (Pt w.heap.size 6 (plainW (w.alloc (.cells #[.string ⟨#[]⟩,.int .i64 0,.bool false,.int .i64 0,.int .i64 0,.slice none 0 0] 117)))):=H_ (Pt.below (CatR.pt_row6 w 117) (plain_below _))
 have HPL:=H_ (fun j hj=>plain_at (w.alloc (.cells #[.string ⟨#[]⟩,.int .i64 0,.bool false,.int .i64 0,.int .i64 0,.slice none 0 0] 117)) j hj)
 have hus:(w.alloc (.cells #[.string ⟨#[]⟩,.int .i64 0,.bool false,.int .i64 0,.int .i64 0,.slice none 0 0] 117)).heap.size=w.heap.size+1:=by simp
 rw [hus] at HPL
 have HS1:Hid (Src ao len cap g (plainW (w.alloc (.cells #[.string ⟨#[]⟩,.int .i64 0,.bool false,.int .i64 0,.int .i64 0,.slice none 0 0] 117)))):=H_ (HS.out.kept (row:=none) ⟨HB1.out.os,HB1.out.tape,HB1.out.output,HB1.out.size,fun k hk _=>HB1.out.block k hk⟩ (fun k e=>by cases e))
 generalize plainW (w.alloc (.cells #[.string ⟨#[]⟩,.int .i64 0,.bool false,.int .i64 0,.int .i64 0,.slice none 0 0] 117))=U at *
 clear hus HP
 go_wp2_with fail
 refine (HN.out _ _ (by omega) HS1.out).mono ?_
 rintro e w2 ⟨v,rfl,hv0,_,hv2,hS2,hg2⟩
 have hv4:v<4:=hv2 (by omega)
 obtain ⟨j,rfl⟩:∃j:Nat,v=(j:Int):=⟨v.toNat,by omega⟩
 have hj4:j<4:=by omega
 obtain ⟨b,hb1,hb2,hb3,hcs,hts,ht1,ht3,hnm⟩:=HPL.out j hj4
 have HMS:Hid (Src ao len cap g w2∧U.grownBy w2 (some g)):=H_ ⟨hS2,hg2⟩
 have hne:some (w.heap.size+1+1+1+1+1+1)≠some g:=by intro e;cases e;omega
 have hmb:w.heap.size+1+1+1+1+1+1<U.heap.size:=World.block_lt_of_cell? U _ (hcs 0 (by omega))
 have hmb2:w.heap.size+1+1+1+1+1+1<w2.heap.size:=by have:=hg2.size;omega
 have kc:=fun i hi=>(World.cell?_of_block (a:=⟨w.heap.size+1+1+1+1+1+1,j*6+i,none⟩) (hg2.block _ hmb hne)).trans (hcs i hi)
 have k0:=kc 0 (by omega)
 have k1:=kc 1 (by omega)
 have k2:=kc 2 (by omega)
 have k3:=kc 3 (by omega)
 have k4:=kc 4 (by omega)
 have k5:=kc 5 (by omega)
 have HT:=H_ hts
 generalize plainM.getD j Me.zero=X at *
 obtain ⟨xn,xg,xw,xf,xl,xts⟩:=X
 simp only [meC,List.getElem?_cons_zero,List.getElem?_cons_succ,Nat.add_zero] at k0 k1 k2 k3 k4 k5
 clear hcs kc hS2 hg2 hv0 hv2 hv4 hts
 have HM2:Hid (MS ao len cap g w w2.heap.size w.heap.size ⟨xn,xg,xw,xf,xl,xts⟩ (some ⟨b,0,none⟩) xts.length (w2.alloc (.cells #[.string xn,.int .i64 xg,.bool xw,.int .i64 xf,.int .i64 xl,.slice (some ⟨b,0,none⟩) xts.length xts.length] 117))):=H_ (by
  have hw2:=HMS.out.2.size
  have gu:w.grownBy U (some g):=⟨HB1.out.os,HB1.out.tape,HB1.out.output,HB1.out.size,fun k hk _=>HB1.out.block k hk⟩
  have hU:=HB1.out.size
  refine ⟨HMS.out.1.alloc _,Lib.grownBy_trans (Lib.grownBy_trans gu HMS.out.2) (World.grownBy_alloc _ _ _),hgl,CatR.pt_cells6 _ _ _ _ _ _ _ _,?_,by omega,Nat.le_refl _,by omega,fun i hi=>?_,?_,fun b' o e=>?_,hnm,by show xts.length≤100;have:xts.length≤3:=ht3;omega⟩
  ·exact Pt.below (pt_kept HPT.out HMS.out.2 (fun e=>by cases e;omega)) ((Below.refl _ _).alloc (Nat.le_refl _) _)
  ·match i,hi with
   | 0,_=>simp [go_sem,meC]
   | 1,_=>simp [go_sem,meC]
   | 2,_=>simp [go_sem,meC]
   | 3,_=>simp [go_sem,meC]
   | 4,_=>simp [go_sem,meC]
   | 5,_=>simp [go_sem,meC]
  ·exact Tis.below (tis_kept HT.out HMS.out.2 (fun b' o e q=>by cases e;cases q;omega)) ((Below.refl _ _).alloc (Nat.le_refl _) _)
  ·cases e
   refine ⟨by omega,by omega,by omega⟩)
 have htl:xts.length≤3:=ht3
 have htl1:1≤xts.length:=ht1
 go_wp2_with fail
 clear k0 k1 k2 k3 k4 k5 HMS HB1 HPT HPL HS1 HT hmb hmb2 hne ht1 ht3 hnm hb3
 refine (HO.out 3 _ (by omega) HM2.out.src).mono ?_
 rintro e w3 ⟨⟨bo,rfl⟩,hS3,hg3⟩
 have HM3:=H_ (HM2.out.step hS3 hg3)
 clear hS3 hg3 HM2
 cases bo
 ·have HM:=HM3
  have z0:w3.cell? ⟨w2.heap.size,0,none⟩=some (.string xn):=HM.out.cells 0 (by omega)
  have z1:w3.cell? ⟨w2.heap.size,1,none⟩=some (.int .i64 (xg)):=HM.out.cells 1 (by omega)
  have z2:w3.cell? ⟨w2.heap.size,2,none⟩=some (.bool (xw)):=HM.out.cells 2 (by omega)
  have z3:w3.cell? ⟨w2.heap.size,3,none⟩=some (.int .i64 (xf)):=HM.out.cells 3 (by omega)
  have z4:w3.cell? ⟨w2.heap.size,4,none⟩=some (.int .i64 (xl)):=HM.out.cells 4 (by omega)
  have z5:w3.cell? ⟨w2.heap.size,5,none⟩=some (.slice (some ⟨b,0,none⟩) xts.length xts.length):=HM.out.cells 5 (by omega)
  have hlB:=HM.out.ptB.lt
  have hlR:=HM.out.ptR.lt
  obtain ⟨y0,r0⟩:=HM.out.ptR.has 0 (by omega)
  have q0:=HM.out.ptR.free 0 (by omega)
  obtain ⟨y1,r1⟩:=HM.out.ptR.has 1 (by omega)
  have q1:=HM.out.ptR.free 1 (by omega)
  obtain ⟨y2,r2⟩:=HM.out.ptR.has 2 (by omega)
  have q2:=HM.out.ptR.free 2 (by omega)
  obtain ⟨y3,r3⟩:=HM.out.ptR.has 3 (by omega)
  have q3:=HM.out.ptR.free 3 (by omega)
  obtain ⟨y4,r4⟩:=HM.out.ptR.has 4 (by omega)
  have q4:=HM.out.ptR.free 4 (by omega)
  obtain ⟨y5,r5⟩:=HM.out.ptR.has 5 (by omega)
  have q5:=HM.out.ptR.free 5 (by omega)
  have HF:=H_ HM.out.fin
  have HC:=H_ (fin6_cells HM.out.ptR (.string xn) (.int .i64 (xg)) (.bool (xw)) (.int .i64 (xf)) (.int .i64 (xl)) (.slice (some ⟨b,0,none⟩) xts.length xts.length))
  go_wp2_with fail
  exact bodyPost_ret (v:=.agg #[.string xn,.int .i64 (xg),.bool (xw),.int .i64 (xf),.int .i64 (xl),.slice (some ⟨b,0,none⟩) xts.length xts.length]) (res6 _ _ _ _ _ _ _ _ _ rfl HC.out) rfl HF.out
 go_wp2_with fail
 refine (HN.out 7 _ (by omega) HM3.out.src).mono ?_
 rintro e w4 ⟨v,rfl,hv0,_,hv2,hS4,hg4⟩
 have hv7:v<7:=hv2 (by omega)
 have HM4:=H_ (HM3.out.step hS4 hg4)
 clear hS4 hg4 HM3 hv2
 have hlB:=HM4.out.ptB.lt
 have o0:=HM4.out.ptB.has
 have u0:=HM4.out.ptB.free
 rcases (show v=0∨v=1∨v=2∨v=3∨v=4∨v=5∨v=6 by omega) with rfl|rfl|rfl|rfl|rfl|rfl|rfl
 ·clear o0 u0 hlB hv0 hv7
  go_wp2_with fail
  refine (HN.out 6 _ (by omega) HM4.out.src).mono ?_
  rintro e w5 ⟨y,rfl,_,_,_,hS5,hg5⟩
  have HM5:=H_ (HM4.out.step hS5 hg5)
  have hlB:=HM5.out.ptB.lt
  obtain ⟨o,ho⟩:=HM5.out.ptB.has 1 (by omega)
  have hf:=HM5.out.ptB.free 1 (by omega)
  clear hS5 hg5
  have HM:Hid (MS ao len cap g w w2.heap.size w.heap.size ⟨xn,y,xw,xf,xl,xts⟩ (some ⟨b,0,none⟩) xts.length (w5.setCell ⟨w2.heap.size,1,none⟩ (.int .i64 y))):=H_ (HM5.out.set 1 (by omega) _ _ _ _ (fun i hi=>by match i,hi with|0,_=>rfl|1,_=>rfl|2,_=>rfl|3,_=>rfl|4,_=>rfl|5,_=>rfl) HM5.out.tis HM5.out.far HM5.out.small)
  have z0:(w5.setCell ⟨w2.heap.size,1,none⟩ (.int .i64 y)).cell? ⟨w2.heap.size,0,none⟩=some (.string xn):=HM.out.cells 0 (by omega)
  have z1:(w5.setCell ⟨w2.heap.size,1,none⟩ (.int .i64 y)).cell? ⟨w2.heap.size,1,none⟩=some (.int .i64 (y)):=HM.out.cells 1 (by omega)
  have z2:(w5.setCell ⟨w2.heap.size,1,none⟩ (.int .i64 y)).cell? ⟨w2.heap.size,2,none⟩=some (.bool (xw)):=HM.out.cells 2 (by omega)
  have z3:(w5.setCell ⟨w2.heap.size,1,none⟩ (.int .i64 y)).cell? ⟨w2.heap.size,3,none⟩=some (.int .i64 (xf)):=HM.out.cells 3 (by omega)
  have z4:(w5.setCell ⟨w2.heap.size,1,none⟩ (.int .i64 y)).cell? ⟨w2.heap.size,4,none⟩=some (.int .i64 (xl)):=HM.out.cells 4 (by omega)
  have z5:(w5.setCell ⟨w2.heap.size,1,none⟩ (.int .i64 y)).cell? ⟨w2.heap.size,5,none⟩=some (.slice (some ⟨b,0,none⟩) xts.length xts.length):=HM.out.cells 5 (by omega)
  have hlB:=HM.out.ptB.lt
  have hlR:=HM.out.ptR.lt
  obtain ⟨y0,r0⟩:=HM.out.ptR.has 0 (by omega)
  have q0:=HM.out.ptR.free 0 (by omega)
  obtain ⟨y1,r1⟩:=HM.out.ptR.has 1 (by omega)
  have q1:=HM.out.ptR.free 1 (by omega)
  obtain ⟨y2,r2⟩:=HM.out.ptR.has 2 (by omega)
  have q2:=HM.out.ptR.free 2 (by omega)
  obtain ⟨y3,r3⟩:=HM.out.ptR.has 3 (by omega)
  have q3:=HM.out.ptR.free 3 (by omega)
  obtain ⟨y4,r4⟩:=HM.out.ptR.has 4 (by omega)
  have q4:=HM.out.ptR.free 4 (by omega)
  obtain ⟨y5,r5⟩:=HM.out.ptR.has 5 (by omega)
  have q5:=HM.out.ptR.free 5 (by omega)
  have HF:=H_ HM.out.fin
  have HC:=H_ (fin6_cells HM.out.ptR (.string xn) (.int .i64 (y)) (.bool (xw)) (.int .i64 (xf)) (.int .i64 (xl)) (.slice (some ⟨b,0,none⟩) xts.length xts.length))
  go_wp2_with fail
  exact bodyPost_ret (v:=.agg #[.string xn,.int .i64 (y),.bool (xw),.int .i64 (xf),.int .i64 (xl),.slice (some ⟨b,0,none⟩) xts.length xts.length]) (res6 _ _ _ _ _ _ _ _ _ rfl HC.out) rfl HF.out
 ·clear o0 u0 hlB hv0 hv7
  go_wp2_with fail
  refine (HN.out 4 _ (by omega) (HM4.out.alloc _).src).mono ?_
  rintro e w5 ⟨y,rfl,y0,_,y2,hS5,hg5⟩
  have y3:y<4:=y2 (by omega)
  obtain ⟨t,rfl⟩:∃t:Nat,y=(t:Int):=⟨y.toNat,by omega⟩
  have ht4:t<4:=by omega
  have hl4:w4.heap.size<w5.heap.size:=by have:=hg5.size;simp at this;omega
  obtain ⟨Y,cy⟩:∃Y:Int,w5.cell? ⟨w4.heap.size,t,none⟩=some (.int .i64 Y):=by
   have hlt:=HM4.out.ptB.lt
   have hBw:=HM4.out.hB
   have e:=hg5.block w4.heap.size (by simp) (fun e=>by cases e;omega)
   have e2:=World.cell?_of_block (a:=⟨w4.heap.size,t,none⟩) e
   exact pick_cell w4 [-1,0,1000000000,1000000001] t ht4 _ e2
  have HM5:=H_ ((HM4.out.alloc _).step hS5 hg5)
  clear hS5 hg5 y2
  have hlB:=HM5.out.ptB.lt
  obtain ⟨o,ho⟩:=HM5.out.ptB.has 3 (by omega)
  have hf:=HM5.out.ptB.free 3 (by omega)
  have HM:Hid (MS ao len cap g w w2.heap.size w.heap.size ⟨xn,xg,xw,Y,xl,xts⟩ (some ⟨b,0,none⟩) xts.length (w5.setCell ⟨w2.heap.size,3,none⟩ (.int .i64 Y))):=H_ (HM5.out.set 3 (by omega) _ _ _ _ (fun i hi=>by match i,hi with|0,_=>rfl|1,_=>rfl|2,_=>rfl|3,_=>rfl|4,_=>rfl|5,_=>rfl) HM5.out.tis HM5.out.far HM5.out.small)
  have z0:(w5.setCell ⟨w2.heap.size,3,none⟩ (.int .i64 Y)).cell? ⟨w2.heap.size,0,none⟩=some (.string xn):=HM.out.cells 0 (by omega)
  have z1:(w5.setCell ⟨w2.heap.size,3,none⟩ (.int .i64 Y)).cell? ⟨w2.heap.size,1,none⟩=some (.int .i64 (xg)):=HM.out.cells 1 (by omega)
  have z2:(w5.setCell ⟨w2.heap.size,3,none⟩ (.int .i64 Y)).cell? ⟨w2.heap.size,2,none⟩=some (.bool (xw)):=HM.out.cells 2 (by omega)
  have z3:(w5.setCell ⟨w2.heap.size,3,none⟩ (.int .i64 Y)).cell? ⟨w2.heap.size,3,none⟩=some (.int .i64 (Y)):=HM.out.cells 3 (by omega)
  have z4:(w5.setCell ⟨w2.heap.size,3,none⟩ (.int .i64 Y)).cell? ⟨w2.heap.size,4,none⟩=some (.int .i64 (xl)):=HM.out.cells 4 (by omega)
  have z5:(w5.setCell ⟨w2.heap.size,3,none⟩ (.int .i64 Y)).cell? ⟨w2.heap.size,5,none⟩=some (.slice (some ⟨b,0,none⟩) xts.length xts.length):=HM.out.cells 5 (by omega)
  have hlB:=HM.out.ptB.lt
  have hlR:=HM.out.ptR.lt
  obtain ⟨y0,r0⟩:=HM.out.ptR.has 0 (by omega)
  have q0:=HM.out.ptR.free 0 (by omega)
  obtain ⟨y1,r1⟩:=HM.out.ptR.has 1 (by omega)
  have q1:=HM.out.ptR.free 1 (by omega)
  obtain ⟨y2,r2⟩:=HM.out.ptR.has 2 (by omega)
  have q2:=HM.out.ptR.free 2 (by omega)
  obtain ⟨y3,r3⟩:=HM.out.ptR.has 3 (by omega)
  have q3:=HM.out.ptR.free 3 (by omega)
  obtain ⟨y4,r4⟩:=HM.out.ptR.has 4 (by omega)
  have q4:=HM.out.ptR.free 4 (by omega)
  obtain ⟨y5,r5⟩:=HM.out.ptR.has 5 (by omega)
  have q5:=HM.out.ptR.free 5 (by omega)
  have HF:=H_ HM.out.fin
  have HC:=H_ (fin6_cells HM.out.ptR (.string xn) (.int .i64 (xg)) (.bool (xw)) (.int .i64 (Y)) (.int .i64 (xl)) (.slice (some ⟨b,0,none⟩) xts.length xts.length))
  go_wp2_with fail
  exact bodyPost_ret (v:=.agg #[.string xn,.int .i64 (xg),.bool (xw),.int .i64 (Y),.int .i64 (xl),.slice (some ⟨b,0,none⟩) xts.length xts.length]) (res6 _ _ _ _ _ _ _ _ _ rfl HC.out) rfl HF.out
 ·clear o0 u0 hlB hv0 hv7
  go_wp2_with fail
  refine (HN.out 3 _ (by omega) (HM4.out.alloc _).src).mono ?_
  rintro e w5 ⟨y,rfl,y0,_,y2,hS5,hg5⟩
  have y3:y<3:=y2 (by omega)
  obtain ⟨t,rfl⟩:∃t:Nat,y=(t:Int):=⟨y.toNat,by omega⟩
  have ht4:t<3:=by omega
  have hl4:w4.heap.size<w5.heap.size:=by have:=hg5.size;simp at this;omega
  obtain ⟨Y,cy⟩:∃Y:Int,w5.cell? ⟨w4.heap.size,t,none⟩=some (.int .i64 Y):=by
   have hlt:=HM4.out.ptB.lt
   have hBw:=HM4.out.hB
   have e:=hg5.block w4.heap.size (by simp) (fun e=>by cases e;omega)
   have e2:=World.cell?_of_block (a:=⟨w4.heap.size,t,none⟩) e
   exact pick_cell w4 [-1,1000000000000,1000000000001] t ht4 _ e2
  have HM5:=H_ ((HM4.out.alloc _).step hS5 hg5)
  clear hS5 hg5 y2
  have hlB:=HM5.out.ptB.lt
  obtain ⟨o,ho⟩:=HM5.out.ptB.has 4 (by omega)
  have hf:=HM5.out.ptB.free 4 (by omega)
  have HM:Hid (MS ao len cap g w w2.heap.size w.heap.size ⟨xn,xg,xw,xf,Y,xts⟩ (some ⟨b,0,none⟩) xts.length (w5.setCell ⟨w2.heap.size,4,none⟩ (.int .i64 Y))):=H_ (HM5.out.set 4 (by omega) _ _ _ _ (fun i hi=>by match i,hi with|0,_=>rfl|1,_=>rfl|2,_=>rfl|3,_=>rfl|4,_=>rfl|5,_=>rfl) HM5.out.tis HM5.out.far HM5.out.small)
  have z0:(w5.setCell ⟨w2.heap.size,4,none⟩ (.int .i64 Y)).cell? ⟨w2.heap.size,0,none⟩=some (.string xn):=HM.out.cells 0 (by omega)
  have z1:(w5.setCell ⟨w2.heap.size,4,none⟩ (.int .i64 Y)).cell? ⟨w2.heap.size,1,none⟩=some (.int .i64 (xg)):=HM.out.cells 1 (by omega)
  have z2:(w5.setCell ⟨w2.heap.size,4,none⟩ (.int .i64 Y)).cell? ⟨w2.heap.size,2,none⟩=some (.bool (xw)):=HM.out.cells 2 (by omega)
  have z3:(w5.setCell ⟨w2.heap.size,4,none⟩ (.int .i64 Y)).cell? ⟨w2.heap.size,3,none⟩=some (.int .i64 (xf)):=HM.out.cells 3 (by omega)
  have z4:(w5.setCell ⟨w2.heap.size,4,none⟩ (.int .i64 Y)).cell? ⟨w2.heap.size,4,none⟩=some (.int .i64 (Y)):=HM.out.cells 4 (by omega)
  have z5:(w5.setCell ⟨w2.heap.size,4,none⟩ (.int .i64 Y)).cell? ⟨w2.heap.size,5,none⟩=some (.slice (some ⟨b,0,none⟩) xts.length xts.length):=HM.out.cells 5 (by omega)
  have hlB:=HM.out.ptB.lt
  have hlR:=HM.out.ptR.lt
  obtain ⟨y0,r0⟩:=HM.out.ptR.has 0 (by omega)
  have q0:=HM.out.ptR.free 0 (by omega)
  obtain ⟨y1,r1⟩:=HM.out.ptR.has 1 (by omega)
  have q1:=HM.out.ptR.free 1 (by omega)
  obtain ⟨y2,r2⟩:=HM.out.ptR.has 2 (by omega)
  have q2:=HM.out.ptR.free 2 (by omega)
  obtain ⟨y3,r3⟩:=HM.out.ptR.has 3 (by omega)
  have q3:=HM.out.ptR.free 3 (by omega)
  obtain ⟨y4,r4⟩:=HM.out.ptR.has 4 (by omega)
  have q4:=HM.out.ptR.free 4 (by omega)
  obtain ⟨y5,r5⟩:=HM.out.ptR.has 5 (by omega)
  have q5:=HM.out.ptR.free 5 (by omega)
  have HF:=H_ HM.out.fin
  have HC:=H_ (fin6_cells HM.out.ptR (.string xn) (.int .i64 (xg)) (.bool (xw)) (.int .i64 (xf)) (.int .i64 (Y)) (.slice (some ⟨b,0,none⟩) xts.length xts.length))
  go_wp2_with fail
  exact bodyPost_ret (v:=.agg #[.string xn,.int .i64 (xg),.bool (xw),.int .i64 (xf),.int .i64 (Y),.slice (some ⟨b,0,none⟩) xts.length xts.length]) (res6 _ _ _ _ _ _ _ _ _ rfl HC.out) rfl HF.out
 ·clear hv0 hv7
  obtain ⟨o,ho⟩:=o0 5 (by omega)
  have hf:=u0 5 (by omega)
  have z5':w4.cell? ⟨w2.heap.size,5,none⟩=some (.slice (some ⟨b,0,none⟩) xts.length xts.length):=HM4.out.cells 5 (by omega)
  clear o0 u0 ho
  obtain ⟨ys,hys⟩:∃ys,ys=xts.tail:=⟨_,rfl⟩
  have HTL:=H_ (tis_tail (show Tis (some ⟨b,0,none⟩) xts.length xts w4 from HM4.out.tis))
  rw [←hys] at HTL
  by_cases h1:xts.length=1
  ·have hyl:ys.length=0:=by rw [hys,List.length_tail];omega
   have HM:Hid (MS ao len cap g w w2.heap.size w.heap.size ⟨xn,xg,xw,xf,xl,ys⟩ (some ⟨b,0,none⟩) (0) (w4.setCell ⟨w2.heap.size,5,none⟩ (.slice (some ⟨b,0,none⟩) (0) (0)))):=H_ (HM4.out.set 5 (by omega) _ _ _ _ (fun i hi=>by match i,hi with|0,_=>rfl|1,_=>rfl|2,_=>rfl|3,_=>rfl|4,_=>rfl|5,_=>simp [meC,hyl]) ⟨rfl,.inl hyl⟩ (fun b' o e=>by cases e;exact HM4.out.far b 0 rfl) ⟨HM4.out.small.1,by show ys.length≤100;omega⟩)
   have z0:(w4.setCell ⟨w2.heap.size,5,none⟩ (.slice (some ⟨b,0,none⟩) (0) (0))).cell? ⟨w2.heap.size,0,none⟩=some (.string xn):=HM.out.cells 0 (by omega)
   have z1:(w4.setCell ⟨w2.heap.size,5,none⟩ (.slice (some ⟨b,0,none⟩) (0) (0))).cell? ⟨w2.heap.size,1,none⟩=some (.int .i64 (xg)):=HM.out.cells 1 (by omega)
   have z2:(w4.setCell ⟨w2.heap.size,5,none⟩ (.slice (some ⟨b,0,none⟩) (0) (0))).cell? ⟨w2.heap.size,2,none⟩=some (.bool (xw)):=HM.out.cells 2 (by omega)
   have z3:(w4.setCell ⟨w2.heap.size,5,none⟩ (.slice (some ⟨b,0,none⟩) (0) (0))).cell? ⟨w2.heap.size,3,none⟩=some (.int .i64 (xf)):=HM.out.cells 3 (by omega)
   have z4:(w4.setCell ⟨w2.heap.size,5,none⟩ (.slice (some ⟨b,0,none⟩) (0) (0))).cell? ⟨w2.heap.size,4,none⟩=some (.int .i64 (xl)):=HM.out.cells 4 (by omega)
   have z5:(w4.setCell ⟨w2.heap.size,5,none⟩ (.slice (some ⟨b,0,none⟩) (0) (0))).cell? ⟨w2.heap.size,5,none⟩=some (.slice (some ⟨b,0,none⟩) (0) (0)):=(HM.out.cells 5 (by omega)).trans (by simp [meC,hyl])
   have hlB:=HM.out.ptB.lt
   have hlR:=HM.out.ptR.lt
   obtain ⟨y0,r0⟩:=HM.out.ptR.has 0 (by omega)
   have q0:=HM.out.ptR.free 0 (by omega)
   obtain ⟨y1,r1⟩:=HM.out.ptR.has 1 (by omega)
   have q1:=HM.out.ptR.free 1 (by omega)
   obtain ⟨y2,r2⟩:=HM.out.ptR.has 2 (by omega)
   have q2:=HM.out.ptR.free 2 (by omega)
   obtain ⟨y3,r3⟩:=HM.out.ptR.has 3 (by omega)
   have q3:=HM.out.ptR.free 3 (by omega)
   obtain ⟨y4,r4⟩:=HM.out.ptR.has 4 (by omega)
   have q4:=HM.out.ptR.free 4 (by omega)
   obtain ⟨y5,r5⟩:=HM.out.ptR.has 5 (by omega)
   have q5:=HM.out.ptR.free 5 (by omega)
   have HF0:=HM.out.fin
   simp only [hyl] at HF0
   have HF:=H_ HF0
   clear HF0
   have HC:=H_ (fin6_cells HM.out.ptR (.string xn) (.int .i64 (xg)) (.bool (xw)) (.int .i64 (xf)) (.int .i64 (xl)) (.slice (some ⟨b,0,none⟩) (0) (0)))
   go_wp2_with fail
   exact bodyPost_ret (v:=.agg #[.string xn,.int .i64 (xg),.bool (xw),.int .i64 (xf),.int .i64 (xl),.slice (some ⟨b,0,none⟩) (0) (0)]) (res6 _ _ _ _ _ _ _ _ _ rfl HC.out) rfl HF.out
  ·have hyl:ys.length=xts.length-1:=by rw [hys,List.length_tail]
   have HM:Hid (MS ao len cap g w w2.heap.size w.heap.size ⟨xn,xg,xw,xf,xl,ys⟩ (some ⟨b,2,none⟩) (xts.length-1) (w4.setCell ⟨w2.heap.size,5,none⟩ (.slice (some ⟨b,2,none⟩) (xts.length-1) (xts.length-1)))):=H_ (HM4.out.set 5 (by omega) _ _ _ _ (fun i hi=>by match i,hi with|0,_=>rfl|1,_=>rfl|2,_=>rfl|3,_=>rfl|4,_=>rfl|5,_=>simp [meC,hyl]) HTL.out (fun b' o e=>by cases e;exact HM4.out.far b 0 rfl) ⟨HM4.out.small.1,by show ys.length≤100;omega⟩)
   have z0:(w4.setCell ⟨w2.heap.size,5,none⟩ (.slice (some ⟨b,2,none⟩) (xts.length-1) (xts.length-1))).cell? ⟨w2.heap.size,0,none⟩=some (.string xn):=HM.out.cells 0 (by omega)
   have z1:(w4.setCell ⟨w2.heap.size,5,none⟩ (.slice (some ⟨b,2,none⟩) (xts.length-1) (xts.length-1))).cell? ⟨w2.heap.size,1,none⟩=some (.int .i64 (xg)):=HM.out.cells 1 (by omega)
   have z2:(w4.setCell ⟨w2.heap.size,5,none⟩ (.slice (some ⟨b,2,none⟩) (xts.length-1) (xts.length-1))).cell? ⟨w2.heap.size,2,none⟩=some (.bool (xw)):=HM.out.cells 2 (by omega)
   have z3:(w4.setCell ⟨w2.heap.size,5,none⟩ (.slice (some ⟨b,2,none⟩) (xts.length-1) (xts.length-1))).cell? ⟨w2.heap.size,3,none⟩=some (.int .i64 (xf)):=HM.out.cells 3 (by omega)
   have z4:(w4.setCell ⟨w2.heap.size,5,none⟩ (.slice (some ⟨b,2,none⟩) (xts.length-1) (xts.length-1))).cell? ⟨w2.heap.size,4,none⟩=some (.int .i64 (xl)):=HM.out.cells 4 (by omega)
   have z5:(w4.setCell ⟨w2.heap.size,5,none⟩ (.slice (some ⟨b,2,none⟩) (xts.length-1) (xts.length-1))).cell? ⟨w2.heap.size,5,none⟩=some (.slice (some ⟨b,2,none⟩) (xts.length-1) (xts.length-1)):=(HM.out.cells 5 (by omega)).trans (by simp [meC,hyl])
   have hlB:=HM.out.ptB.lt
   have hlR:=HM.out.ptR.lt
   obtain ⟨y0,r0⟩:=HM.out.ptR.has 0 (by omega)
   have q0:=HM.out.ptR.free 0 (by omega)
   obtain ⟨y1,r1⟩:=HM.out.ptR.has 1 (by omega)
   have q1:=HM.out.ptR.free 1 (by omega)
   obtain ⟨y2,r2⟩:=HM.out.ptR.has 2 (by omega)
   have q2:=HM.out.ptR.free 2 (by omega)
   obtain ⟨y3,r3⟩:=HM.out.ptR.has 3 (by omega)
   have q3:=HM.out.ptR.free 3 (by omega)
   obtain ⟨y4,r4⟩:=HM.out.ptR.has 4 (by omega)
   have q4:=HM.out.ptR.free 4 (by omega)
   obtain ⟨y5,r5⟩:=HM.out.ptR.has 5 (by omega)
   have q5:=HM.out.ptR.free 5 (by omega)
   have HF0:=HM.out.fin
   simp only [hyl] at HF0
   have HF:=H_ HF0
   clear HF0
   have HC:=H_ (fin6_cells HM.out.ptR (.string xn) (.int .i64 (xg)) (.bool (xw)) (.int .i64 (xf)) (.int .i64 (xl)) (.slice (some ⟨b,2,none⟩) (xts.length-1) (xts.length-1)))
   go_wp2_with fail
   exact bodyPost_ret (v:=.agg #[.string xn,.int .i64 (xg),.bool (xw),.int .i64 (xf),.int .i64 (xl),.slice (some ⟨b,2,none⟩) (xts.length-1) (xts.length-1)]) (res6 _ _ _ _ _ _ _ _ _ rfl HC.out) rfl HF.out
 ·clear o0 u0 hlB hv0 hv7
  have HMd:=H_ HM4.out.drew
  obtain ⟨i0,hi,hz0,hz1,hz2⟩:=info_parts infoTi
  have sz1:1+xts.length≤maxLen:=by unfold maxLen;omega
  have sz2:(1+xts.length)*16≤140737488355328:=by omega
  have sz3:0<2:=by omega
  go_wp2_with fail
  refine wp_region_held_drew (S:=(fun W=>w2.heap.size<W.heap.size)) (by kernel_rfl) HMd.out.ptB.lt (fun hHeld=>?_)
  refine tk 0 (⟨some 47,.move (.tmp 0),94,"l05_catalog.go:176",#[],none⟩) ?_
  refine tk 2 (⟨some 49,.move (.tmp 0),94,"l05_catalog.go:176",#[],none⟩) ?_
  refine tk 6 (⟨some 53,.fieldAddr 117 (.tmp 3) 5,0,"l05_catalog.go:176",#[],none⟩) ?_
  refine wpAnyH_ready (rs:=[1,7]) (by kernel_rfl) (by simp) ?_
  refine AllReadyH.cons (o:=⟨some 48,.call {callee:=Callee.value (.func 65),args:=#[.tmp 47,.const (Value.int IntKind.i64 60)],argTypes:=#[94,2]},2,"l05_catalog.go:176",#[⟨0,.data⟩],none⟩) rfl (fun K hK=>?_) (AllReadyH.cons (o:=⟨some 54,.load 115 (.tmp 53),115,"l05_catalog.go:176",#[⟨6,.data⟩],none⟩) rfl (fun K hK=>?_) AllReadyH.nil)
  ·go_simp
   go_at_call 65
   refine (HN.out 60 _ (by omega) HMd.out.src).mono ?_
   rintro e g1w ⟨yu,rfl,_,_,_,hs1,hg1⟩
   try go_wp2_with fail
   have hm1:=HMd.out.step hs1 hg1
   clear hs1 hg1
   refine hK.out _ _ hm1.ptB.lt (fun _=>?_)
   clear hK K
   try simp only [Act.put,SL]
   refine wpAnyH_ready (rs:=[3,7]) (by kernel_rfl) (by simp) ?_
   refine AllReadyH.cons (o:=⟨some 50,.call {callee:=Callee.value (.func 65),args:=#[.tmp 49,.const (Value.int IntKind.i64 9)],argTypes:=#[94,2]},2,"l05_catalog.go:176",#[⟨2,.data⟩,⟨1,.chain⟩],none⟩) rfl (fun K hK=>?_) (AllReadyH.cons (o:=⟨some 54,.load 115 (.tmp 53),115,"l05_catalog.go:176",#[⟨6,.data⟩],none⟩) rfl (fun K hK=>?_) AllReadyH.nil)
   ·go_simp
    go_at_call 65
    refine (HN.out 9 _ (by omega) hm1.src).mono ?_
    rintro e g2w ⟨yp,rfl,_,_,_,hs2,hg2⟩
    try go_wp2_with fail
    have hm2:=hm1.step hs2 hg2
    clear hs2 hg2
    refine hK.out _ _ hm2.ptB.lt (fun _=>?_)
    clear hK K
    try simp only [Act.put,SL]
    refine tk 4 (⟨some 51,.build 162 #[(0,.tmp 48),(1,.tmp 50)],162,"l05_catalog.go:176",#[⟨1,.data⟩,⟨3,.data⟩],none⟩) ?_
    refine wpAnyH_ready (rs:=[5,7]) (by kernel_rfl) (by simp) ?_
    refine AllReadyH.cons (o:=⟨some 52,.buildSlice 115 1 #[(0,.tmp 51)],115,"l05_catalog.go:176",#[⟨4,.data⟩],none⟩) rfl (fun K hK=>?_) (AllReadyH.cons (o:=⟨some 54,.load 115 (.tmp 53),115,"l05_catalog.go:176",#[⟨6,.data⟩],none⟩) rfl (fun K hK=>?_) AllReadyH.nil)
    ·go_simp
     try go_wp2_with fail
     have hm3:=hm2.alloc (Obj.cells #[.int .i64 yu,.int .i64 yp] 162)
     refine hK.out _ _ hm3.ptB.lt (fun _=>?_)
     clear hK K
     try simp only [Act.put,SL]
     refine rd 7 (⟨some 54,.load 115 (.tmp 53),115,"l05_catalog.go:176",#[⟨6,.data⟩],none⟩) (fun K hK=>?_)
     have y5:=hm3.cells 5 (by omega)
     have yl:=hm3.ptB.lt
     simp only [meC,List.getElem?_cons_zero,List.getElem?_cons_succ] at y5
     go_simp
     try go_wp2_with fail
     clear y5 yl
     refine hK.out _ _ hm3.ptB.lt (fun _=>?_)
     clear hK K
     try simp only [Act.put,SL]
     refine rd 8 (⟨some 55,.call {callee:=Callee.builtin Builtin.append,args:=#[.tmp 52,.tmp 54],argTypes:=#[115,115]},115,"l05_catalog.go:176",#[⟨5,.data⟩,⟨7,.data⟩,⟨3,.chain⟩],none⟩) (fun K hK=>?_)
     have hoT:(g2w.alloc (Obj.cells #[.int .i64 yu,.int .i64 yp] 162)).ownsRow g2w.heap.size 162 2 (.slice (some ⟨g2w.heap.size,0,none⟩) 1 1) 1 (RowG.cellsAll tiC [⟨yu,yp⟩]):=⟨rfl,.inr ⟨g2w.heap.size,1,#[.int .i64 yu,.int .i64 yp],rfl,Nat.le_refl _,heap_alloc_new g2w _,by omega,by unfold maxLen;omega,rfl,rfl⟩⟩
     refine step_app rfl _ _ 115 rfl g2w.heap.size 162 i0 (.agg #[.int .i64 0,.int .i64 0]) 2 16 Tryz.underlying115 hi hz0 hz1 hz2 rfl sz3 _ _ _ rfl hoT ⟨b,0,none⟩ xts.length xts.length (RowG.cellsAll tiC xts) rfl (RowG.cellsAll_len tiC_len xts) (tis_news hm3.tis) (tis_one (fun _=>True) xts) sz1 sz2 (by simp) ?_
     intro v' g4w hown hgrow hne
     have hoM:g4w.ownsRow g2w.heap.size 162 2 v' ((⟨yu,yp⟩:Ti)::xts).length (RowG.cellsAll tiC (⟨yu,yp⟩::xts)):=by rw [List.length_cons,Nat.add_comm];exact hown
     obtain ⟨sa,sc,rfl,hmk⟩:=RowG.own_made (z:=Ti.zero) tiC_len hoM
     have hm4:=hm3.grown hgrow (fun k e0=>by
      have e:some g2w.heap.size=some k:=e0
      cases e
      have h1:=hm2.ptB.lt
      have h2:=hm2.ptR.lt
      have h3:=hm2.hB
      refine ⟨by omega,by omega,by omega,fun b' o e=>?_⟩
      cases e
      have:=CatR.tis_at hm2.tis 0 (show 0<xts.length by omega)
      obtain ⟨b2,o2,e2,hl2,_⟩:=this
      cases e2
      omega)
     refine hK.out _ _ hm4.ptB.lt (fun _=>?_)
     clear hK K
     try simp only [Act.put,SL]
     refine tk 9 (⟨some 56,.fieldAddr 117 (.tmp 3) 5,0,"l05_catalog.go:176",#[⟨0,.phase⟩,⟨1,.phase⟩,⟨2,.phase⟩,⟨3,.phase⟩,⟨4,.phase⟩,⟨5,.phase⟩,⟨6,.phase⟩,⟨7,.phase⟩,⟨8,.phase⟩],none⟩) ?_
     refine rd 10 (⟨none,.store 115 (.tmp 56) (.tmp 55),0,"l05_catalog.go:176",#[⟨9,.data⟩,⟨8,.data⟩,⟨8,.chain⟩,⟨0,.phase⟩,⟨1,.phase⟩,⟨2,.phase⟩,⟨3,.phase⟩,⟨4,.phase⟩,⟨5,.phase⟩,⟨6,.phase⟩,⟨7,.phase⟩,⟨8,.phase⟩],none⟩) (fun K hK=>?_)
     obtain ⟨o5,ho5⟩:=hm4.ptB.has 5 (by omega)
     have f5:=hm4.ptB.free 5 (by omega)
     have yl:=hm4.ptB.lt
     clear hown hgrow hne
     go_simp
     try go_wp2_with fail
     have hm5:=hm4.set 5 (by omega) (.slice sa ((⟨yu,yp⟩:Ti)::xts).length sc) ⟨xn,xg,xw,xf,xl,⟨yu,yp⟩::xts⟩ sa sc (fun i hi=>by match i,hi with|0,_=>rfl|1,_=>rfl|2,_=>rfl|3,_=>rfl|4,_=>rfl|5,_=>rfl) (tis_of hmk.rws) (fun b' o e=>by
      obtain ⟨g',h1,h2,h3⟩:=hmk.own.resolve_left (by simp)
      rw [h1] at e
      cases e
      have a1:=hm2.ptB.lt
      have a2:=hm2.ptR.lt
      have a3:=hm2.hB
      exact ⟨by omega,by omega,by omega⟩) ⟨hm4.small.1,by show (_::xts).length≤100;simp;omega⟩
     refine hK.out _ _ hm5.ptB.lt (fun _=>?_)
     clear hK K
     try simp only [Act.put,SL]
     refine wpAnyH_done (by kernel_rfl) ?_ _
     have HM:=H_ (show MS ao len cap g w w2.heap.size w.heap.size ⟨xn,xg,xw,xf,xl,⟨yu,yp⟩::xts⟩ sa sc (g4w.setCell ⟨w2.heap.size,5,none⟩ (.slice sa (xts.length+1) sc)) from hm5)
     clear hm1 hm2 hm3 hm4 hm5 hoT hoM hmk ho5 f5 yl
     have hLN:((⟨yu,yp⟩:Ti)::xts).length=xts.length+1:=rfl
     have z0:(g4w.setCell ⟨w2.heap.size,5,none⟩ (.slice sa (xts.length+1) sc)).cell? ⟨w2.heap.size,0,none⟩=some (.string xn):=HM.out.cells 0 (by omega)
     have z1:(g4w.setCell ⟨w2.heap.size,5,none⟩ (.slice sa (xts.length+1) sc)).cell? ⟨w2.heap.size,1,none⟩=some (.int .i64 (xg)):=HM.out.cells 1 (by omega)
     have z2:(g4w.setCell ⟨w2.heap.size,5,none⟩ (.slice sa (xts.length+1) sc)).cell? ⟨w2.heap.size,2,none⟩=some (.bool (xw)):=HM.out.cells 2 (by omega)
     have z3:(g4w.setCell ⟨w2.heap.size,5,none⟩ (.slice sa (xts.length+1) sc)).cell? ⟨w2.heap.size,3,none⟩=some (.int .i64 (xf)):=HM.out.cells 3 (by omega)
     have z4:(g4w.setCell ⟨w2.heap.size,5,none⟩ (.slice sa (xts.length+1) sc)).cell? ⟨w2.heap.size,4,none⟩=some (.int .i64 (xl)):=HM.out.cells 4 (by omega)
     have z5:(g4w.setCell ⟨w2.heap.size,5,none⟩ (.slice sa (xts.length+1) sc)).cell? ⟨w2.heap.size,5,none⟩=some (.slice (sa) (xts.length+1) sc):=HM.out.cells 5 (by omega)
     have hlB:=HM.out.ptB.lt
     have hlR:=HM.out.ptR.lt
     obtain ⟨y0,r0⟩:=HM.out.ptR.has 0 (by omega)
     have q0:=HM.out.ptR.free 0 (by omega)
     obtain ⟨y1,r1⟩:=HM.out.ptR.has 1 (by omega)
     have q1:=HM.out.ptR.free 1 (by omega)
     obtain ⟨y2,r2⟩:=HM.out.ptR.has 2 (by omega)
     have q2:=HM.out.ptR.free 2 (by omega)
     obtain ⟨y3,r3⟩:=HM.out.ptR.has 3 (by omega)
     have q3:=HM.out.ptR.free 3 (by omega)
     obtain ⟨y4,r4⟩:=HM.out.ptR.has 4 (by omega)
     have q4:=HM.out.ptR.free 4 (by omega)
     obtain ⟨y5,r5⟩:=HM.out.ptR.has 5 (by omega)
     have q5:=HM.out.ptR.free 5 (by omega)
     have HF:=H_ HM.out.fin
     have HC:=H_ (fin6_cells HM.out.ptR (.string xn) (.int .i64 (xg)) (.bool (xw)) (.int .i64 (xf)) (.int .i64 (xl)) (.slice (sa) (xts.length+1) sc))
     go_wp2_with fail
     exact bodyPost_ret (v:=.agg #[.string xn,.int .i64 (xg),.bool (xw),.int .i64 (xf),.int .i64 (xl),.slice (sa) (xts.length+1) sc]) (res6 _ _ _ _ _ _ _ _ _ rfl HC.out) rfl HF.out
    ·have y5:=hm2.cells 5 (by omega)
     have yl:=hm2.ptB.lt
     simp only [meC,List.getElem?_cons_zero,List.getElem?_cons_succ] at y5
     go_simp
     try go_wp2_with fail
     clear y5 yl
     refine hK.out _ _ hm2.ptB.lt (fun _=>?_)
     clear hK K
     try simp only [Act.put,SL]
     refine rd 5 (⟨some 52,.buildSlice 115 1 #[(0,.tmp 51)],115,"l05_catalog.go:176",#[⟨4,.data⟩],none⟩) (fun K hK=>?_)
     go_simp
     try go_wp2_with fail
     have hm3:=hm2.alloc (Obj.cells #[.int .i64 yu,.int .i64 yp] 162)
     refine hK.out _ _ hm3.ptB.lt (fun _=>?_)
     clear hK K
     try simp only [Act.put,SL]
     refine rd 8 (⟨some 55,.call {callee:=Callee.builtin Builtin.append,args:=#[.tmp 52,.tmp 54],argTypes:=#[115,115]},115,"l05_catalog.go:176",#[⟨5,.data⟩,⟨7,.data⟩,⟨3,.chain⟩],none⟩) (fun K hK=>?_)
     have hoT:(g2w.alloc (Obj.cells #[.int .i64 yu,.int .i64 yp] 162)).ownsRow g2w.heap.size 162 2 (.slice (some ⟨g2w.heap.size,0,none⟩) 1 1) 1 (RowG.cellsAll tiC [⟨yu,yp⟩]):=⟨rfl,.inr ⟨g2w.heap.size,1,#[.int .i64 yu,.int .i64 yp],rfl,Nat.le_refl _,heap_alloc_new g2w _,by omega,by unfold maxLen;omega,rfl,rfl⟩⟩
     refine step_app rfl _ _ 115 rfl g2w.heap.size 162 i0 (.agg #[.int .i64 0,.int .i64 0]) 2 16 Tryz.underlying115 hi hz0 hz1 hz2 rfl sz3 _ _ _ rfl hoT ⟨b,0,none⟩ xts.length xts.length (RowG.cellsAll tiC xts) rfl (RowG.cellsAll_len tiC_len xts) (tis_news hm3.tis) (tis_one (fun _=>True) xts) sz1 sz2 (by simp) ?_
     intro v' g4w hown hgrow hne
     have hoM:g4w.ownsRow g2w.heap.size 162 2 v' ((⟨yu,yp⟩:Ti)::xts).length (RowG.cellsAll tiC (⟨yu,yp⟩::xts)):=by rw [List.length_cons,Nat.add_comm];exact hown
     obtain ⟨sa,sc,rfl,hmk⟩:=RowG.own_made (z:=Ti.zero) tiC_len hoM
     have hm4:=hm3.grown hgrow (fun k e0=>by
      have e:some g2w.heap.size=some k:=e0
      cases e
      have h1:=hm2.ptB.lt
      have h2:=hm2.ptR.lt
      have h3:=hm2.hB
      refine ⟨by omega,by omega,by omega,fun b' o e=>?_⟩
      cases e
      have:=CatR.tis_at hm2.tis 0 (show 0<xts.length by omega)
      obtain ⟨b2,o2,e2,hl2,_⟩:=this
      cases e2
      omega)
     refine hK.out _ _ hm4.ptB.lt (fun _=>?_)
     clear hK K
     try simp only [Act.put,SL]
     refine tk 9 (⟨some 56,.fieldAddr 117 (.tmp 3) 5,0,"l05_catalog.go:176",#[⟨0,.phase⟩,⟨1,.phase⟩,⟨2,.phase⟩,⟨3,.phase⟩,⟨4,.phase⟩,⟨5,.phase⟩,⟨6,.phase⟩,⟨7,.phase⟩,⟨8,.phase⟩],none⟩) ?_
     refine rd 10 (⟨none,.store 115 (.tmp 56) (.tmp 55),0,"l05_catalog.go:176",#[⟨9,.data⟩,⟨8,.data⟩,⟨8,.chain⟩,⟨0,.phase⟩,⟨1,.phase⟩,⟨2,.phase⟩,⟨3,.phase⟩,⟨4,.phase⟩,⟨5,.phase⟩,⟨6,.phase⟩,⟨7,.phase⟩,⟨8,.phase⟩],none⟩) (fun K hK=>?_)
     obtain ⟨o5,ho5⟩:=hm4.ptB.has 5 (by omega)
     have f5:=hm4.ptB.free 5 (by omega)
     have yl:=hm4.ptB.lt
     clear hown hgrow hne
     go_simp
     try go_wp2_with fail
     have hm5:=hm4.set 5 (by omega) (.slice sa ((⟨yu,yp⟩:Ti)::xts).length sc) ⟨xn,xg,xw,xf,xl,⟨yu,yp⟩::xts⟩ sa sc (fun i hi=>by match i,hi with|0,_=>rfl|1,_=>rfl|2,_=>rfl|3,_=>rfl|4,_=>rfl|5,_=>rfl) (tis_of hmk.rws) (fun b' o e=>by
      obtain ⟨g',h1,h2,h3⟩:=hmk.own.resolve_left (by simp)
      rw [h1] at e
      cases e
      have a1:=hm2.ptB.lt
      have a2:=hm2.ptR.lt
      have a3:=hm2.hB
      exact ⟨by omega,by omega,by omega⟩) ⟨hm4.small.1,by show (_::xts).length≤100;simp;omega⟩
     refine hK.out _ _ hm5.ptB.lt (fun _=>?_)
     clear hK K
     try simp only [Act.put,SL]
     refine wpAnyH_done (by kernel_rfl) ?_ _
     have HM:=H_ (show MS ao len cap g w w2.heap.size w.heap.size ⟨xn,xg,xw,xf,xl,⟨yu,yp⟩::xts⟩ sa sc (g4w.setCell ⟨w2.heap.size,5,none⟩ (.slice sa (xts.length+1) sc)) from hm5)
     clear hm1 hm2 hm3 hm4 hm5 hoT hoM hmk ho5 f5 yl
     have hLN:((⟨yu,yp⟩:Ti)::xts).length=xts.length+1:=rfl
     have z0:(g4w.setCell ⟨w2.heap.size,5,none⟩ (.slice sa (xts.length+1) sc)).cell? ⟨w2.heap.size,0,none⟩=some (.string xn):=HM.out.cells 0 (by omega)
     have z1:(g4w.setCell ⟨w2.heap.size,5,none⟩ (.slice sa (xts.length+1) sc)).cell? ⟨w2.heap.size,1,none⟩=some (.int .i64 (xg)):=HM.out.cells 1 (by omega)
     have z2:(g4w.setCell ⟨w2.heap.size,5,none⟩ (.slice sa (xts.length+1) sc)).cell? ⟨w2.heap.size,2,none⟩=some (.bool (xw)):=HM.out.cells 2 (by omega)
     have z3:(g4w.setCell ⟨w2.heap.size,5,none⟩ (.slice sa (xts.length+1) sc)).cell? ⟨w2.heap.size,3,none⟩=some (.int .i64 (xf)):=HM.out.cells 3 (by omega)
     have z4:(g4w.setCell ⟨w2.heap.size,5,none⟩ (.slice sa (xts.length+1) sc)).cell? ⟨w2.heap.size,4,none⟩=some (.int .i64 (xl)):=HM.out.cells 4 (by omega)
     have z5:(g4w.setCell ⟨w2.heap.size,5,none⟩ (.slice sa (xts.length+1) sc)).cell? ⟨w2.heap.size,5,none⟩=some (.slice (sa) (xts.length+1) sc):=HM.out.cells 5 (by omega)
     have hlB:=HM.out.ptB.lt
     have hlR:=HM.out.ptR.lt
     obtain ⟨y0,r0⟩:=HM.out.ptR.has 0 (by omega)
     have q0:=HM.out.ptR.free 0 (by omega)
     obtain ⟨y1,r1⟩:=HM.out.ptR.has 1 (by omega)
     have q1:=HM.out.ptR.free 1 (by omega)
     obtain ⟨y2,r2⟩:=HM.out.ptR.has 2 (by omega)
     have q2:=HM.out.ptR.free 2 (by omega)
     obtain ⟨y3,r3⟩:=HM.out.ptR.has 3 (by omega)
     have q3:=HM.out.ptR.free 3 (by omega)
     obtain ⟨y4,r4⟩:=HM.out.ptR.has 4 (by omega)
     have q4:=HM.out.ptR.free 4 (by omega)
     obtain ⟨y5,r5⟩:=HM.out.ptR.has 5 (by omega)
     have q5:=HM.out.ptR.free 5 (by omega)
     have HF:=H_ HM.out.fin
     have HC:=H_ (fin6_cells HM.out.ptR (.string xn) (.int .i64 (xg)) (.bool (xw)) (.int .i64 (xf)) (.int .i64 (xl)) (.slice (sa) (xts.length+1) sc))
     go_wp2_with fail
     exact bodyPost_ret (v:=.agg #[.string xn,.int .i64 (xg),.bool (xw),.int .i64 (xf),.int .i64 (xl),.slice (sa) (xts.length+1) sc]) (res6 _ _ _ _ _ _ _ _ _ rfl HC.out) rfl HF.out
   ·have y5:=hm1.cells 5 (by omega)
    have yl:=hm1.ptB.lt
    simp only [meC,List.getElem?_cons_zero,List.getElem?_cons_succ] at y5
    go_simp
    try go_wp2_with fail
    clear y5 yl
    refine hK.out _ _ hm1.ptB.lt (fun _=>?_)
    clear hK K
    try simp only [Act.put,SL]
    refine rd 3 (⟨some 50,.call {callee:=Callee.value (.func 65),args:=#[.tmp 49,.const (Value.int IntKind.i64 9)],argTypes:=#[94,2]},2,"l05_catalog.go:176",#[⟨2,.data⟩,⟨1,.chain⟩],none⟩) (fun K hK=>?_)
    go_simp
    go_at_call 65
    refine (HN.out 9 _ (by omega) hm1.src).mono ?_
    rintro e g2w ⟨yp,rfl,_,_,_,hs2,hg2⟩
    try go_wp2_with fail
    have hm2:=hm1.step hs2 hg2
    clear hs2 hg2
    refine hK.out _ _ hm2.ptB.lt (fun _=>?_)
    clear hK K
    try simp only [Act.put,SL]
    refine tk 4 (⟨some 51,.build 162 #[(0,.tmp 48),(1,.tmp 50)],162,"l05_catalog.go:176",#[⟨1,.data⟩,⟨3,.data⟩],none⟩) ?_
    refine rd 5 (⟨some 52,.buildSlice 115 1 #[(0,.tmp 51)],115,"l05_catalog.go:176",#[⟨4,.data⟩],none⟩) (fun K hK=>?_)
    go_simp
    try go_wp2_with fail
    have hm3:=hm2.alloc (Obj.cells #[.int .i64 yu,.int .i64 yp] 162)
    refine hK.out _ _ hm3.ptB.lt (fun _=>?_)
    clear hK K
    try simp only [Act.put,SL]
    refine rd 8 (⟨some 55,.call {callee:=Callee.builtin Builtin.append,args:=#[.tmp 52,.tmp 54],argTypes:=#[115,115]},115,"l05_catalog.go:176",#[⟨5,.data⟩,⟨7,.data⟩,⟨3,.chain⟩],none⟩) (fun K hK=>?_)
    have hoT:(g2w.alloc (Obj.cells #[.int .i64 yu,.int .i64 yp] 162)).ownsRow g2w.heap.size 162 2 (.slice (some ⟨g2w.heap.size,0,none⟩) 1 1) 1 (RowG.cellsAll tiC [⟨yu,yp⟩]):=⟨rfl,.inr ⟨g2w.heap.size,1,#[.int .i64 yu,.int .i64 yp],rfl,Nat.le_refl _,heap_alloc_new g2w _,by omega,by unfold maxLen;omega,rfl,rfl⟩⟩
    refine step_app rfl _ _ 115 rfl g2w.heap.size 162 i0 (.agg #[.int .i64 0,.int .i64 0]) 2 16 Tryz.underlying115 hi hz0 hz1 hz2 rfl sz3 _ _ _ rfl hoT ⟨b,0,none⟩ xts.length xts.length (RowG.cellsAll tiC xts) rfl (RowG.cellsAll_len tiC_len xts) (tis_news hm3.tis) (tis_one (fun _=>True) xts) sz1 sz2 (by simp) ?_
    intro v' g4w hown hgrow hne
    have hoM:g4w.ownsRow g2w.heap.size 162 2 v' ((⟨yu,yp⟩:Ti)::xts).length (RowG.cellsAll tiC (⟨yu,yp⟩::xts)):=by rw [List.length_cons,Nat.add_comm];exact hown
    obtain ⟨sa,sc,rfl,hmk⟩:=RowG.own_made (z:=Ti.zero) tiC_len hoM
    have hm4:=hm3.grown hgrow (fun k e0=>by
     have e:some g2w.heap.size=some k:=e0
     cases e
     have h1:=hm2.ptB.lt
     have h2:=hm2.ptR.lt
     have h3:=hm2.hB
     refine ⟨by omega,by omega,by omega,fun b' o e=>?_⟩
     cases e
     have:=CatR.tis_at hm2.tis 0 (show 0<xts.length by omega)
     obtain ⟨b2,o2,e2,hl2,_⟩:=this
     cases e2
     omega)
    refine hK.out _ _ hm4.ptB.lt (fun _=>?_)
    clear hK K
    try simp only [Act.put,SL]
    refine tk 9 (⟨some 56,.fieldAddr 117 (.tmp 3) 5,0,"l05_catalog.go:176",#[⟨0,.phase⟩,⟨1,.phase⟩,⟨2,.phase⟩,⟨3,.phase⟩,⟨4,.phase⟩,⟨5,.phase⟩,⟨6,.phase⟩,⟨7,.phase⟩,⟨8,.phase⟩],none⟩) ?_
    refine rd 10 (⟨none,.store 115 (.tmp 56) (.tmp 55),0,"l05_catalog.go:176",#[⟨9,.data⟩,⟨8,.data⟩,⟨8,.chain⟩,⟨0,.phase⟩,⟨1,.phase⟩,⟨2,.phase⟩,⟨3,.phase⟩,⟨4,.phase⟩,⟨5,.phase⟩,⟨6,.phase⟩,⟨7,.phase⟩,⟨8,.phase⟩],none⟩) (fun K hK=>?_)
    obtain ⟨o5,ho5⟩:=hm4.ptB.has 5 (by omega)
    have f5:=hm4.ptB.free 5 (by omega)
    have yl:=hm4.ptB.lt
    clear hown hgrow hne
    go_simp
    try go_wp2_with fail
    have hm5:=hm4.set 5 (by omega) (.slice sa ((⟨yu,yp⟩:Ti)::xts).length sc) ⟨xn,xg,xw,xf,xl,⟨yu,yp⟩::xts⟩ sa sc (fun i hi=>by match i,hi with|0,_=>rfl|1,_=>rfl|2,_=>rfl|3,_=>rfl|4,_=>rfl|5,_=>rfl) (tis_of hmk.rws) (fun b' o e=>by
     obtain ⟨g',h1,h2,h3⟩:=hmk.own.resolve_left (by simp)
     rw [h1] at e
     cases e
     have a1:=hm2.ptB.lt
     have a2:=hm2.ptR.lt
     have a3:=hm2.hB
     exact ⟨by omega,by omega,by omega⟩) ⟨hm4.small.1,by show (_::xts).length≤100;simp;omega⟩
    refine hK.out _ _ hm5.ptB.lt (fun _=>?_)
    clear hK K
    try simp only [Act.put,SL]
    refine wpAnyH_done (by kernel_rfl) ?_ _
    have HM:=H_ (show MS ao len cap g w w2.heap.size w.heap.size ⟨xn,xg,xw,xf,xl,⟨yu,yp⟩::xts⟩ sa sc (g4w.setCell ⟨w2.heap.size,5,none⟩ (.slice sa (xts.length+1) sc)) from hm5)
    clear hm1 hm2 hm3 hm4 hm5 hoT hoM hmk ho5 f5 yl
    have hLN:((⟨yu,yp⟩:Ti)::xts).length=xts.length+1:=rfl
    have z0:(g4w.setCell ⟨w2.heap.size,5,none⟩ (.slice sa (xts.length+1) sc)).cell? ⟨w2.heap.size,0,none⟩=some (.string xn):=HM.out.cells 0 (by omega)
    have z1:(g4w.setCell ⟨w2.heap.size,5,none⟩ (.slice sa (xts.length+1) sc)).cell? ⟨w2.heap.size,1,none⟩=some (.int .i64 (xg)):=HM.out.cells 1 (by omega)
    have z2:(g4w.setCell ⟨w2.heap.size,5,none⟩ (.slice sa (xts.length+1) sc)).cell? ⟨w2.heap.size,2,none⟩=some (.bool (xw)):=HM.out.cells 2 (by omega)
    have z3:(g4w.setCell ⟨w2.heap.size,5,none⟩ (.slice sa (xts.length+1) sc)).cell? ⟨w2.heap.size,3,none⟩=some (.int .i64 (xf)):=HM.out.cells 3 (by omega)
    have z4:(g4w.setCell ⟨w2.heap.size,5,none⟩ (.slice sa (xts.length+1) sc)).cell? ⟨w2.heap.size,4,none⟩=some (.int .i64 (xl)):=HM.out.cells 4 (by omega)
    have z5:(g4w.setCell ⟨w2.heap.size,5,none⟩ (.slice sa (xts.length+1) sc)).cell? ⟨w2.heap.size,5,none⟩=some (.slice (sa) (xts.length+1) sc):=HM.out.cells 5 (by omega)
    have hlB:=HM.out.ptB.lt
    have hlR:=HM.out.ptR.lt
    obtain ⟨y0,r0⟩:=HM.out.ptR.has 0 (by omega)
    have q0:=HM.out.ptR.free 0 (by omega)
    obtain ⟨y1,r1⟩:=HM.out.ptR.has 1 (by omega)
    have q1:=HM.out.ptR.free 1 (by omega)
    obtain ⟨y2,r2⟩:=HM.out.ptR.has 2 (by omega)
    have q2:=HM.out.ptR.free 2 (by omega)
    obtain ⟨y3,r3⟩:=HM.out.ptR.has 3 (by omega)
    have q3:=HM.out.ptR.free 3 (by omega)
    obtain ⟨y4,r4⟩:=HM.out.ptR.has 4 (by omega)
    have q4:=HM.out.ptR.free 4 (by omega)
    obtain ⟨y5,r5⟩:=HM.out.ptR.has 5 (by omega)
    have q5:=HM.out.ptR.free 5 (by omega)
    have HF:=H_ HM.out.fin
    have HC:=H_ (fin6_cells HM.out.ptR (.string xn) (.int .i64 (xg)) (.bool (xw)) (.int .i64 (xf)) (.int .i64 (xl)) (.slice (sa) (xts.length+1) sc))
    go_wp2_with fail
    exact bodyPost_ret (v:=.agg #[.string xn,.int .i64 (xg),.bool (xw),.int .i64 (xf),.int .i64 (xl),.slice (sa) (xts.length+1) sc]) (res6 _ _ _ _ _ _ _ _ _ rfl HC.out) rfl HF.out
  ·have y5:=HMd.out.cells 5 (by omega)
   have yl:=HMd.out.ptB.lt
   simp only [meC,List.getElem?_cons_zero,List.getElem?_cons_succ] at y5
   go_simp
   try go_wp2_with fail
   clear y5 yl
   refine hK.out _ _ HMd.out.ptB.lt (fun _=>?_)
   clear hK K
   try simp only [Act.put,SL]
   refine rd 1 (⟨some 48,.call {callee:=Callee.value (.func 65),args:=#[.tmp 47,.const (Value.int IntKind.i64 60)],argTypes:=#[94,2]},2,"l05_catalog.go:176",#[⟨0,.data⟩],none⟩) (fun K hK=>?_)
   go_simp
   go_at_call 65
   refine (HN.out 60 _ (by omega) HMd.out.src).mono ?_
   rintro e g1w ⟨yu,rfl,_,_,_,hs1,hg1⟩
   try go_wp2_with fail
   have hm1:=HMd.out.step hs1 hg1
   clear hs1 hg1
   refine hK.out _ _ hm1.ptB.lt (fun _=>?_)
   clear hK K
   try simp only [Act.put,SL]
   refine rd 3 (⟨some 50,.call {callee:=Callee.value (.func 65),args:=#[.tmp 49,.const (Value.int IntKind.i64 9)],argTypes:=#[94,2]},2,"l05_catalog.go:176",#[⟨2,.data⟩,⟨1,.chain⟩],none⟩) (fun K hK=>?_)
   go_simp
   go_at_call 65
   refine (HN.out 9 _ (by omega) hm1.src).mono ?_
   rintro e g2w ⟨yp,rfl,_,_,_,hs2,hg2⟩
   try go_wp2_with fail
   have hm2:=hm1.step hs2 hg2
   clear hs2 hg2
   refine hK.out _ _ hm2.ptB.lt (fun _=>?_)
   clear hK K
   try simp only [Act.put,SL]
   refine tk 4 (⟨some 51,.build 162 #[(0,.tmp 48),(1,.tmp 50)],162,"l05_catalog.go:176",#[⟨1,.data⟩,⟨3,.data⟩],none⟩) ?_
   refine rd 5 (⟨some 52,.buildSlice 115 1 #[(0,.tmp 51)],115,"l05_catalog.go:176",#[⟨4,.data⟩],none⟩) (fun K hK=>?_)
   go_simp
   try go_wp2_with fail
   have hm3:=hm2.alloc (Obj.cells #[.int .i64 yu,.int .i64 yp] 162)
   refine hK.out _ _ hm3.ptB.lt (fun _=>?_)
   clear hK K
   try simp only [Act.put,SL]
   refine rd 8 (⟨some 55,.call {callee:=Callee.builtin Builtin.append,args:=#[.tmp 52,.tmp 54],argTypes:=#[115,115]},115,"l05_catalog.go:176",#[⟨5,.data⟩,⟨7,.data⟩,⟨3,.chain⟩],none⟩) (fun K hK=>?_)
   have hoT:(g2w.alloc (Obj.cells #[.int .i64 yu,.int .i64 yp] 162)).ownsRow g2w.heap.size 162 2 (.slice (some ⟨g2w.heap.size,0,none⟩) 1 1) 1 (RowG.cellsAll tiC [⟨yu,yp⟩]):=⟨rfl,.inr ⟨g2w.heap.size,1,#[.int .i64 yu,.int .i64 yp],rfl,Nat.le_refl _,heap_alloc_new g2w _,by omega,by unfold maxLen;omega,rfl,rfl⟩⟩
   refine step_app rfl _ _ 115 rfl g2w.heap.size 162 i0 (.agg #[.int .i64 0,.int .i64 0]) 2 16 Tryz.underlying115 hi hz0 hz1 hz2 rfl sz3 _ _ _ rfl hoT ⟨b,0,none⟩ xts.length xts.length (RowG.cellsAll tiC xts) rfl (RowG.cellsAll_len tiC_len xts) (tis_news hm3.tis) (tis_one (fun _=>True) xts) sz1 sz2 (by simp) ?_
   intro v' g4w hown hgrow hne
   have hoM:g4w.ownsRow g2w.heap.size 162 2 v' ((⟨yu,yp⟩:Ti)::xts).length (RowG.cellsAll tiC (⟨yu,yp⟩::xts)):=by rw [List.length_cons,Nat.add_comm];exact hown
   obtain ⟨sa,sc,rfl,hmk⟩:=RowG.own_made (z:=Ti.zero) tiC_len hoM
   have hm4:=hm3.grown hgrow (fun k e0=>by
    have e:some g2w.heap.size=some k:=e0
    cases e
    have h1:=hm2.ptB.lt
    have h2:=hm2.ptR.lt
    have h3:=hm2.hB
    refine ⟨by omega,by omega,by omega,fun b' o e=>?_⟩
    cases e
    have:=CatR.tis_at hm2.tis 0 (show 0<xts.length by omega)
    obtain ⟨b2,o2,e2,hl2,_⟩:=this
    cases e2
    omega)
   refine hK.out _ _ hm4.ptB.lt (fun _=>?_)
   clear hK K
   try simp only [Act.put,SL]
   refine tk 9 (⟨some 56,.fieldAddr 117 (.tmp 3) 5,0,"l05_catalog.go:176",#[⟨0,.phase⟩,⟨1,.phase⟩,⟨2,.phase⟩,⟨3,.phase⟩,⟨4,.phase⟩,⟨5,.phase⟩,⟨6,.phase⟩,⟨7,.phase⟩,⟨8,.phase⟩],none⟩) ?_
   refine rd 10 (⟨none,.store 115 (.tmp 56) (.tmp 55),0,"l05_catalog.go:176",#[⟨9,.data⟩,⟨8,.data⟩,⟨8,.chain⟩,⟨0,.phase⟩,⟨1,.phase⟩,⟨2,.phase⟩,⟨3,.phase⟩,⟨4,.phase⟩,⟨5,.phase⟩,⟨6,.phase⟩,⟨7,.phase⟩,⟨8,.phase⟩],none⟩) (fun K hK=>?_)
   obtain ⟨o5,ho5⟩:=hm4.ptB.has 5 (by omega)
   have f5:=hm4.ptB.free 5 (by omega)
   have yl:=hm4.ptB.lt
   clear hown hgrow hne
   go_simp
   try go_wp2_with fail
   have hm5:=hm4.set 5 (by omega) (.slice sa ((⟨yu,yp⟩:Ti)::xts).length sc) ⟨xn,xg,xw,xf,xl,⟨yu,yp⟩::xts⟩ sa sc (fun i hi=>by match i,hi with|0,_=>rfl|1,_=>rfl|2,_=>rfl|3,_=>rfl|4,_=>rfl|5,_=>rfl) (tis_of hmk.rws) (fun b' o e=>by
    obtain ⟨g',h1,h2,h3⟩:=hmk.own.resolve_left (by simp)
    rw [h1] at e
    cases e
    have a1:=hm2.ptB.lt
    have a2:=hm2.ptR.lt
    have a3:=hm2.hB
    exact ⟨by omega,by omega,by omega⟩) ⟨hm4.small.1,by show (_::xts).length≤100;simp;omega⟩
   refine hK.out _ _ hm5.ptB.lt (fun _=>?_)
   clear hK K
   try simp only [Act.put,SL]
   refine wpAnyH_done (by kernel_rfl) ?_ _
   have HM:=H_ (show MS ao len cap g w w2.heap.size w.heap.size ⟨xn,xg,xw,xf,xl,⟨yu,yp⟩::xts⟩ sa sc (g4w.setCell ⟨w2.heap.size,5,none⟩ (.slice sa (xts.length+1) sc)) from hm5)
   clear hm1 hm2 hm3 hm4 hm5 hoT hoM hmk ho5 f5 yl
   have hLN:((⟨yu,yp⟩:Ti)::xts).length=xts.length+1:=rfl
   have z0:(g4w.setCell ⟨w2.heap.size,5,none⟩ (.slice sa (xts.length+1) sc)).cell? ⟨w2.heap.size,0,none⟩=some (.string xn):=HM.out.cells 0 (by omega)
   have z1:(g4w.setCell ⟨w2.heap.size,5,none⟩ (.slice sa (xts.length+1) sc)).cell? ⟨w2.heap.size,1,none⟩=some (.int .i64 (xg)):=HM.out.cells 1 (by omega)
   have z2:(g4w.setCell ⟨w2.heap.size,5,none⟩ (.slice sa (xts.length+1) sc)).cell? ⟨w2.heap.size,2,none⟩=some (.bool (xw)):=HM.out.cells 2 (by omega)
   have z3:(g4w.setCell ⟨w2.heap.size,5,none⟩ (.slice sa (xts.length+1) sc)).cell? ⟨w2.heap.size,3,none⟩=some (.int .i64 (xf)):=HM.out.cells 3 (by omega)
   have z4:(g4w.setCell ⟨w2.heap.size,5,none⟩ (.slice sa (xts.length+1) sc)).cell? ⟨w2.heap.size,4,none⟩=some (.int .i64 (xl)):=HM.out.cells 4 (by omega)
   have z5:(g4w.setCell ⟨w2.heap.size,5,none⟩ (.slice sa (xts.length+1) sc)).cell? ⟨w2.heap.size,5,none⟩=some (.slice (sa) (xts.length+1) sc):=HM.out.cells 5 (by omega)
   have hlB:=HM.out.ptB.lt
   have hlR:=HM.out.ptR.lt
   obtain ⟨y0,r0⟩:=HM.out.ptR.has 0 (by omega)
   have q0:=HM.out.ptR.free 0 (by omega)
   obtain ⟨y1,r1⟩:=HM.out.ptR.has 1 (by omega)
   have q1:=HM.out.ptR.free 1 (by omega)
   obtain ⟨y2,r2⟩:=HM.out.ptR.has 2 (by omega)
   have q2:=HM.out.ptR.free 2 (by omega)
   obtain ⟨y3,r3⟩:=HM.out.ptR.has 3 (by omega)
   have q3:=HM.out.ptR.free 3 (by omega)
   obtain ⟨y4,r4⟩:=HM.out.ptR.has 4 (by omega)
   have q4:=HM.out.ptR.free 4 (by omega)
   obtain ⟨y5,r5⟩:=HM.out.ptR.has 5 (by omega)
   have q5:=HM.out.ptR.free 5 (by omega)
   have HF:=H_ HM.out.fin
   have HC:=H_ (fin6_cells HM.out.ptR (.string xn) (.int .i64 (xg)) (.bool (xw)) (.int .i64 (xf)) (.int .i64 (xl)) (.slice (sa) (xts.length+1) sc))
   go_wp2_with fail
   exact bodyPost_ret (v:=.agg #[.string xn,.int .i64 (xg),.bool (xw),.int .i64 (xf),.int .i64 (xl),.slice (sa) (xts.length+1) sc]) (res6 _ _ _ _ _ _ _ _ _ rfl HC.out) rfl HF.out
 ·clear o0 u0 hlB hv0 hv7
  go_wp2_with fail
  refine (HN.out 3 _ (by omega) (HM4.out.alloc _).src).mono ?_
  rintro e w5 ⟨y,rfl,y0,_,y2,hS5,hg5⟩
  have y3:y<3:=y2 (by omega)
  obtain ⟨t,rfl⟩:∃t:Nat,y=(t:Int):=⟨y.toNat,by omega⟩
  have ht4:t<3:=by omega
  have hl4:w4.heap.size<w5.heap.size:=by have:=hg5.size;simp at this;omega
  obtain ⟨Y,cy⟩:∃Y:Int,w5.cell? ⟨w4.heap.size,t,none⟩=some (.int .i64 Y):=by
   have hlt:=HM4.out.ptB.lt
   have hBw:=HM4.out.hB
   have e:=hg5.block w4.heap.size (by simp) (fun e=>by cases e;omega)
   have e2:=World.cell?_of_block (a:=⟨w4.heap.size,t,none⟩) e
   exact pick_cell w4 [-1,1000000,1000001] t ht4 _ e2
  have HM5:=H_ ((HM4.out.alloc _).step hS5 hg5)
  clear hS5 hg5 y2
  have hlB:=HM5.out.ptB.lt
  obtain ⟨o,ho⟩:=HM5.out.ptB.has 5 (by omega)
  have hf:=HM5.out.ptB.free 5 (by omega)
  have HM:Hid (MS ao len cap g w w2.heap.size w.heap.size ⟨xn,xg,xw,xf,xl,[⟨1000000000000,Y⟩]⟩ (some ⟨w5.heap.size,0,none⟩) 1 ((w5.setCell ⟨w2.heap.size,5,none⟩ (.slice (some ⟨w5.heap.size,0,none⟩) 1 1)).alloc (.cells #[.int .i64 1000000000000,.int .i64 Y] 162))):=H_ (by
   rw [←alloc_set _ _ _ _ _ hlB]
   refine (HM5.out.alloc (.cells #[.int .i64 1000000000000,.int .i64 Y] 162)).set 5 (by omega) _ _ _ _ (fun i hi=>by match i,hi with|0,_=>rfl|1,_=>rfl|2,_=>rfl|3,_=>rfl|4,_=>rfl|5,_=>rfl) ⟨rfl,.inr ⟨w5.heap.size,0,rfl,by simp,fun j hj=>?_⟩⟩ (fun b' o e=>?_) ⟨HM5.out.small.1,by show 1≤100;omega⟩
   ·match j,hj with
    | 0,_=>exact ⟨by simp [go_sem,Ti.zero],by simp [go_sem,Ti.zero]⟩
   ·cases e
    have h1:=HM5.out.hB
    have h2:=HM5.out.ptR.lt
    refine ⟨by omega,by omega,by omega⟩)
  have z0:((w5.setCell ⟨w2.heap.size,5,none⟩ (.slice (some ⟨w5.heap.size,0,none⟩) 1 1)).alloc (.cells #[.int .i64 1000000000000,.int .i64 Y] 162)).cell? ⟨w2.heap.size,0,none⟩=some (.string xn):=HM.out.cells 0 (by omega)
  have z1:((w5.setCell ⟨w2.heap.size,5,none⟩ (.slice (some ⟨w5.heap.size,0,none⟩) 1 1)).alloc (.cells #[.int .i64 1000000000000,.int .i64 Y] 162)).cell? ⟨w2.heap.size,1,none⟩=some (.int .i64 (xg)):=HM.out.cells 1 (by omega)
  have z2:((w5.setCell ⟨w2.heap.size,5,none⟩ (.slice (some ⟨w5.heap.size,0,none⟩) 1 1)).alloc (.cells #[.int .i64 1000000000000,.int .i64 Y] 162)).cell? ⟨w2.heap.size,2,none⟩=some (.bool (xw)):=HM.out.cells 2 (by omega)
  have z3:((w5.setCell ⟨w2.heap.size,5,none⟩ (.slice (some ⟨w5.heap.size,0,none⟩) 1 1)).alloc (.cells #[.int .i64 1000000000000,.int .i64 Y] 162)).cell? ⟨w2.heap.size,3,none⟩=some (.int .i64 (xf)):=HM.out.cells 3 (by omega)
  have z4:((w5.setCell ⟨w2.heap.size,5,none⟩ (.slice (some ⟨w5.heap.size,0,none⟩) 1 1)).alloc (.cells #[.int .i64 1000000000000,.int .i64 Y] 162)).cell? ⟨w2.heap.size,4,none⟩=some (.int .i64 (xl)):=HM.out.cells 4 (by omega)
  have z5:((w5.setCell ⟨w2.heap.size,5,none⟩ (.slice (some ⟨w5.heap.size,0,none⟩) 1 1)).alloc (.cells #[.int .i64 1000000000000,.int .i64 Y] 162)).cell? ⟨w2.heap.size,5,none⟩=some (.slice (some ⟨w5.heap.size,0,none⟩) 1 1):=HM.out.cells 5 (by omega)
  have hlB:=HM.out.ptB.lt
  have hlR:=HM.out.ptR.lt
  obtain ⟨y0,r0⟩:=HM.out.ptR.has 0 (by omega)
  have q0:=HM.out.ptR.free 0 (by omega)
  obtain ⟨y1,r1⟩:=HM.out.ptR.has 1 (by omega)
  have q1:=HM.out.ptR.free 1 (by omega)
  obtain ⟨y2,r2⟩:=HM.out.ptR.has 2 (by omega)
  have q2:=HM.out.ptR.free 2 (by omega)
  obtain ⟨y3,r3⟩:=HM.out.ptR.has 3 (by omega)
  have q3:=HM.out.ptR.free 3 (by omega)
  obtain ⟨y4,r4⟩:=HM.out.ptR.has 4 (by omega)
  have q4:=HM.out.ptR.free 4 (by omega)
  obtain ⟨y5,r5⟩:=HM.out.ptR.has 5 (by omega)
  have q5:=HM.out.ptR.free 5 (by omega)
  have HF:=H_ HM.out.fin
  have HC:=H_ (fin6_cells HM.out.ptR (.string xn) (.int .i64 (xg)) (.bool (xw)) (.int .i64 (xf)) (.int .i64 (xl)) (.slice (some ⟨w5.heap.size,0,none⟩) 1 1))
  go_wp2_with fail
  exact bodyPost_ret (v:=.agg #[.string xn,.int .i64 (xg),.bool (xw),.int .i64 (xf),.int .i64 (xl),.slice (some ⟨w5.heap.size,0,none⟩) 1 1]) (res6 _ _ _ _ _ _ _ _ _ rfl HC.out) rfl HF.out
 ·clear hv0 hv7
  obtain ⟨o,ho⟩:=o0 2 (by omega)
  have hf:=u0 2 (by omega)
  have zz:w4.cell? ⟨w2.heap.size,2,none⟩=some (.bool xw):=HM4.out.cells 2 (by omega)
  clear o0 u0 ho
  have HM:Hid (MS ao len cap g w w2.heap.size w.heap.size ⟨xn,xg,!xw,xf,xl,xts⟩ (some ⟨b,0,none⟩) xts.length (w4.setCell ⟨w2.heap.size,2,none⟩ (.bool (!xw)))):=H_ (HM4.out.set 2 (by omega) _ _ _ _ (fun i hi=>by match i,hi with|0,_=>rfl|1,_=>rfl|2,_=>rfl|3,_=>rfl|4,_=>rfl|5,_=>rfl) HM4.out.tis HM4.out.far HM4.out.small)
  have z0:(w4.setCell ⟨w2.heap.size,2,none⟩ (.bool (!xw))).cell? ⟨w2.heap.size,0,none⟩=some (.string xn):=HM.out.cells 0 (by omega)
  have z1:(w4.setCell ⟨w2.heap.size,2,none⟩ (.bool (!xw))).cell? ⟨w2.heap.size,1,none⟩=some (.int .i64 (xg)):=HM.out.cells 1 (by omega)
  have z2:(w4.setCell ⟨w2.heap.size,2,none⟩ (.bool (!xw))).cell? ⟨w2.heap.size,2,none⟩=some (.bool (!xw)):=HM.out.cells 2 (by omega)
  have z3:(w4.setCell ⟨w2.heap.size,2,none⟩ (.bool (!xw))).cell? ⟨w2.heap.size,3,none⟩=some (.int .i64 (xf)):=HM.out.cells 3 (by omega)
  have z4:(w4.setCell ⟨w2.heap.size,2,none⟩ (.bool (!xw))).cell? ⟨w2.heap.size,4,none⟩=some (.int .i64 (xl)):=HM.out.cells 4 (by omega)
  have z5:(w4.setCell ⟨w2.heap.size,2,none⟩ (.bool (!xw))).cell? ⟨w2.heap.size,5,none⟩=some (.slice (some ⟨b,0,none⟩) xts.length xts.length):=HM.out.cells 5 (by omega)
  have hlB:=HM.out.ptB.lt
  have hlR:=HM.out.ptR.lt
  obtain ⟨y0,r0⟩:=HM.out.ptR.has 0 (by omega)
  have q0:=HM.out.ptR.free 0 (by omega)
  obtain ⟨y1,r1⟩:=HM.out.ptR.has 1 (by omega)
  have q1:=HM.out.ptR.free 1 (by omega)
  obtain ⟨y2,r2⟩:=HM.out.ptR.has 2 (by omega)
  have q2:=HM.out.ptR.free 2 (by omega)
  obtain ⟨y3,r3⟩:=HM.out.ptR.has 3 (by omega)
  have q3:=HM.out.ptR.free 3 (by omega)
  obtain ⟨y4,r4⟩:=HM.out.ptR.has 4 (by omega)
  have q4:=HM.out.ptR.free 4 (by omega)
  obtain ⟨y5,r5⟩:=HM.out.ptR.has 5 (by omega)
  have q5:=HM.out.ptR.free 5 (by omega)
  have HF:=H_ HM.out.fin
  have HC:=H_ (fin6_cells HM.out.ptR (.string xn) (.int .i64 (xg)) (.bool (!xw)) (.int .i64 (xf)) (.int .i64 (xl)) (.slice (some ⟨b,0,none⟩) xts.length xts.length))
  go_wp2_with fail
  exact bodyPost_ret (v:=.agg #[.string xn,.int .i64 (xg),.bool (!xw),.int .i64 (xf),.int .i64 (xl),.slice (some ⟨b,0,none⟩) xts.length xts.length]) (res6 _ _ _ _ _ _ _ _ _ rfl HC.out) rfl HF.out
end DrawR
end Go.Proofs.YtcilbmhkhllmjaaGreatDoor
