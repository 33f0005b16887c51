/-
  The law's own copy of a list of meters, and two lists held against each other. The condition: at most 1048576 meters, each of at most 1048576 tiers.
  The law's own helpers over a list of credits: their size, copies, two held against each other. The condition: at most 1048576 of them.
  The law's own helpers over a catalog: its size, its copy, two held against each other. The condition: all in it is small.
  Meters and credits in a draw's memory: kept, cut and put. No condition.
-/
import Derived.Test.YtcilbmhkhllmjaaGreatDoorF14
namespace Go.Proofs.YtcilbmhkhllmjaaGreatDoor
open Go.ChangeShapes Go.WideShapes Go.ChangeAt Go.RowKit
set_option linter.unusedVariables false
namespace CatR
open EvtR (Pt cell_put cell_far)
end CatR
namespace CatR
open EvtR (Pt cell_put cell_far)
end CatR
namespace CatR
open EvtR (Pt cell_put cell_far)
structure Ca.Small (c:Ca):Prop where
 ml:c.ms.length≤1048576
 ms:∀i,i<c.ms.length→(c.ms.getD i Me.zero).Small
 cl:c.cs.length≤1048576
 cs:∀i,i<c.cs.length→(c.cs.getD i Cr.zero).a.size≤1048576
structure Ca.In (c:Ca):Prop where
 ml:c.ms.length≤maxLen
 ms:∀i,i<c.ms.length→(c.ms.getD i Me.zero).In
 cl:c.cs.length≤maxLen
 cs:∀i,i<c.cs.length→(c.cs.getD i Cr.zero).a.size≤maxLen
theorem NewMes.far {base g:Nat} {bs:Nat→Nat} {n k:Nat} {ms:List Me} {w:World} (h:NewMes base g bs n k ms w) {b:Nat} (hb:b<base) (o:Nat) (v:Value):NewMes base g bs n k ms (w.setCell ⟨b,o,none⟩ v):=by
 have hg:=h.lo
 refine ⟨h.lo,h.pt.far (by omega) o v,h.inc,fun i hi=>?_⟩
 have hi2:=(h.inc i hi).1
 obtain ⟨⟨h0,h1,h2,h3,h4,h5⟩,h6,h7⟩:=h.cel i hi
 have e:=far_block w b o v g (by omega)
 have f:=fun x=>World.cell?_of_block (a:=⟨g,x,none⟩) e
 exact ⟨⟨(f _).trans h0,(f _).trans h1,(f _).trans h2,(f _).trans h3,(f _).trans h4,(f _).trans h5⟩,h6.far (by omega) o v,h7.far (by omega) o v⟩
theorem NewMes.mono {base base' g:Nat} {bs:Nat→Nat} {n k:Nat} {ms:List Me} {w:World} (h:NewMes base g bs n k ms w) (hb:base'≤base):NewMes base' g bs n k ms w:=⟨by have:=h.lo;omega,h.pt,h.inc,h.cel⟩
theorem Crs.far {b0 off len:Nat} {ts:List Cr} {w:World} (h:Crs (some ⟨b0,off,none⟩) len ts w) {b:Nat} (hb:b≠b0) (o:Nat) (v:Value):Crs (some ⟨b0,off,none⟩) len ts (w.setCell ⟨b,o,none⟩ v):=by
 refine ⟨h.1,?_⟩
 rcases h.2 with h0|⟨b1,off1,e,hlt,hc⟩
 ·exact .inl h0
 ·obtain ⟨rfl,rfl⟩:b0=b1∧off=off1:=by simpa using e
  have e:=far_block w b o v b0 hb
  exact .inr ⟨b0,off,rfl,by simpa using hlt,fun j hj=>⟨(World.cell?_of_block (a:=⟨b0,_,none⟩) e).trans (hc j hj).1,(World.cell?_of_block (a:=⟨b0,_,none⟩) e).trans (hc j hj).2⟩⟩
def NewCa (base:Nat) (v:Value) (c:Ca) (w:World):Prop:=∃g bs h,v=.agg #[.slice (some ⟨g,0,none⟩) c.ms.length c.ms.length,.slice (some ⟨h,0,none⟩) c.cs.length c.cs.length]∧NewMes base g bs c.ms.length c.ms.length c.ms w∧g<h∧(∀i,i<c.ms.length→bs i<h)∧Crs (some ⟨h,0,none⟩) c.cs.length c.cs w∧Pt h (c.cs.length*2) w
theorem NewCa.is {base:Nat} {v:Value} {c:Ca} {w:World} (h:NewCa base v c w):IsCa v c w:=by
 obtain ⟨g,bs,h0,h1,h2,h3,h4,h5,h6⟩:=h
 exact ⟨_,_,_,_,h1,h2.is rfl,h5⟩
theorem NewCa.below {base:Nat} {v:Value} {c:Ca} {w w':World} (h:NewCa base v c w) (hb:Below w.heap.size w w'):NewCa base v c w':=by
 obtain ⟨g,bs,h0,h1,h2,h3,h4,h5,h6⟩:=h
 exact ⟨g,bs,h0,h1,h2.below hb,h3,h4,h5.below hb,h6.below hb⟩
end CatR
namespace DrawR
open CatR (Ti Me Cr Ca Tis Mes Crs TiAt MeAt CrAt IsMe IsCa)
open EvtR (Pt)
def MesF (av:Nat→Prop) (mb off n:Nat) (ms:List Me) (W:World):Prop:=mb<W.heap.size∧ms.length=n∧∀j,j<n→∃ta tc,(∀i,i<6→W.cell? ⟨mb,off+j*6+i,none⟩=(meC (ms.getD j Me.zero) ta tc)[i]?)∧Tis ta (ms.getD j Me.zero).ts.length (ms.getD j Me.zero).ts W∧(∀b o,ta=some ⟨b,o,none⟩→av b)∧(ms.getD j Me.zero).n.size≤100∧(ms.getD j Me.zero).ts.length≤100
theorem MesF.mes {av:Nat→Prop} {mb off n:Nat} {ms:List Me} {W:World} (h:MesF av mb off n ms W):Mes (some ⟨mb,off,none⟩) n ms W:=by
 obtain ⟨h2,h3,h4⟩:=h
 refine ⟨h3,.inr ⟨mb,off,rfl,h2,fun j hj=>?_⟩⟩
 obtain ⟨ta,tc,hc,hT,_⟩:=h4 j hj
 exact ⟨ta,tc,hc 0 (by omega),hc 1 (by omega),hc 2 (by omega),hc 3 (by omega),hc 4 (by omega),hc 5 (by omega),hT⟩
theorem MesF.kept {av:Nat→Prop} {mb off n x:Nat} {ms:List Me} {W W':World} (h:MesF av mb off n ms W) (hg:W.grownBy W' (some x)) (hx:¬av x) (hm:mb≠x):MesF av mb off n ms W':=by
 obtain ⟨h2,h3,h4⟩:=h
 refine ⟨by have:=hg.size;omega,h3,fun j hj=>?_⟩
 obtain ⟨ta,tc,hc,hT,hf,hs⟩:=h4 j hj
 have eb:=hg.block mb h2 (by simp only [ne_eq,Option.some.injEq];omega)
 refine ⟨ta,tc,fun i hi=>(World.cell?_of_block (a:=⟨mb,off+j*6+i,none⟩) eb).trans (hc i hi),tis_kept hT hg (fun b o e q=>?_),hf,hs⟩
 have:=hf b o e
 cases q
 exact hx this
theorem MesF.below {av:Nat→Prop} {mb off n:Nat} {ms:List Me} {W W':World} (h:MesF av mb off n ms W) (hb:Below W.heap.size W W'):MesF av mb off n ms W':=by
 obtain ⟨h2,h3,h4⟩:=h
 refine ⟨by have:=hb.size;omega,h3,fun j hj=>?_⟩
 obtain ⟨ta,tc,hc,hT,hf,hs⟩:=h4 j hj
 exact ⟨ta,tc,fun i hi=>(hb.cell (p:=⟨mb,off+j*6+i,none⟩) h2).trans (hc i hi),hT.below hb,hf,hs⟩
theorem MesF.drop {av:Nat→Prop} {mb n:Nat} {ms:List Me} {W:World} (h:MesF av mb 0 n ms W) (k:Nat) (hk:k≤n):MesF av mb (k*6) (n-k) (ms.drop k) W:=by
 obtain ⟨h2,h3,h4⟩:=h
 refine ⟨h2,by rw [List.length_drop];omega,fun j hj=>?_⟩
 have e:(ms.drop k).getD j Me.zero=ms.getD (k+j) Me.zero:=by simp [List.getD]
 rw [e]
 obtain ⟨ta,tc,hc,r⟩:=h4 (k+j) (by omega)
 refine ⟨ta,tc,fun i hi=>?_,r⟩
 have:=hc i hi
 rw [show 0+(k+j)*6+i=k*6+j*6+i by rw [Nat.add_mul];omega] at this
 exact this
theorem stL_far (p:Nat):∀(vs:List Value) (o:Nat) (W:World) (j:Nat),(j<o∨o+vs.length≤j)→(StR.stL W p o vs).cell? ⟨p,j,none⟩=W.cell? ⟨p,j,none⟩
 | [],o,W,j,_=>rfl
 | v::vs,o,W,j,h=>by
  rw [StR.stL,stL_far p vs (o+1) _ j (by simp only [List.length_cons] at h;omega)]
  exact EvtR.cell_far _ _ (by simp only [List.length_cons] at h;omega) _
theorem MesF.put {av:Nat→Prop} {mb n:Nat} {ms:List Me} {W:World} (h:MesF av mb 0 n ms W) (hav:¬av mb) (hp:Pt mb (n*6) W) (j:Nat) (hj:j<n) (m:Me) (ta:Option Addr) (tc:Nat) (hT:Tis ta m.ts.length m.ts W) (hf:∀b o,ta=some ⟨b,o,none⟩→av b) (hn:m.n.size≤100) (ht:m.ts.length≤100) :
 MesF av mb 0 n (ms.set j m) (StR.stL W mb (j*6) (meC m ta tc)):=by
 have hg:=StR.stL_grown mb (meC m ta tc) (j*6) W
 obtain ⟨h2,h3,h4⟩:=h
 refine ⟨by have:=hg.size;omega,by rw [List.length_set];exact h3,fun i hi=>?_⟩
 by_cases e:i=j
 ·subst e
  have em:(ms.set i m).getD i Me.zero=m:=by simp [List.getD,h3,hi]
  rw [em]
  refine ⟨ta,tc,fun o ho=>?_,tis_kept hT hg (fun b o e q=>by cases q;exact hav (hf _ _ e)),hf,hn,ht⟩
  rw [Nat.zero_add]
  exact StR.stL_cells (meC m ta tc) (i*6) W hp (by simp only [meC,List.length_cons,List.length_nil];omega) o (by simpa [meC] using ho)
 ·have em:(ms.set j m).getD i Me.zero=ms.getD i Me.zero:=by simp [List.getD,Ne.symm e]
  rw [em]
  obtain ⟨ta',tc',hc,hT',hf',hs'⟩:=h4 i hi
  refine ⟨ta',tc',fun o ho=>?_,tis_kept hT' hg (fun b o e q=>by cases q;exact hav (hf' _ _ e)),hf',hs'⟩
  rw [stL_far mb _ _ _ _ (by simp only [meC,List.length_cons,List.length_nil];omega)]
  exact hc o ho
theorem crs_kept {cb off n x:Nat} {cs:List Cr} {W W':World} (h:Crs (some ⟨cb,off,none⟩) n cs W) (hg:W.grownBy W' (some x)) (hx:x≠cb):Crs (some ⟨cb,off,none⟩) n cs W':=by
 obtain ⟨h1,h2⟩:=h
 refine ⟨h1,?_⟩
 rcases h2 with h0|⟨b,o,e,hl,hc⟩
 ·exact .inl h0
 ·cases e
  have eb:=hg.block cb hl (by simp only [ne_eq,Option.some.injEq];omega)
  exact .inr ⟨cb,off,rfl,by have:=hg.size;omega,fun j hj=>⟨(World.cell?_of_block (a:=⟨cb,off+j*2,none⟩) eb).trans (hc j hj).1,(World.cell?_of_block (a:=⟨cb,off+j*2+1,none⟩) eb).trans (hc j hj).2⟩⟩
theorem tis_kp {ta:Option Addr} {len:Nat} {ts:List Ti} {W W':World} (h:Tis ta len ts W) (hs:W.heap.size≤W'.heap.size) (hk:∀b o,ta=some ⟨b,o,none⟩→b<W.heap.size→W'.heap[b]? = W.heap[b]?):Tis ta len ts W':=by
 obtain ⟨h1,h2⟩:=h
 refine ⟨h1,h2.imp id ?_⟩
 rintro ⟨b,o,e,hl,hc⟩
 have eb:=hk b o e hl
 exact ⟨b,o,e,by omega,fun j hj=>⟨(World.cell?_of_block (a:=⟨b,o+j*2,none⟩) eb).trans (hc j hj).1,(World.cell?_of_block (a:=⟨b,o+j*2+1,none⟩) eb).trans (hc j hj).2⟩⟩
theorem crs_kp {ca:Option Addr} {len:Nat} {cs:List Cr} {W W':World} (h:Crs ca len cs W) (hs:W.heap.size≤W'.heap.size) (hk:∀b o,ca=some ⟨b,o,none⟩→b<W.heap.size→W'.heap[b]? = W.heap[b]?):Crs ca len cs W':=by
 obtain ⟨h1,h2⟩:=h
 refine ⟨h1,h2.imp id ?_⟩
 rintro ⟨b,o,e,hl,hc⟩
 have eb:=hk b o e hl
 exact ⟨b,o,e,by omega,fun j hj=>⟨(World.cell?_of_block (a:=⟨b,o+j*2,none⟩) eb).trans (hc j hj).1,(World.cell?_of_block (a:=⟨b,o+j*2+1,none⟩) eb).trans (hc j hj).2⟩⟩
theorem MesF.kp {av:Nat→Prop} {mb off n lo:Nat} {ms:List Me} {W W':World} (h:MesF av mb off n ms W) (hav:∀b,av b→lo≤b) (hm:lo≤mb) (hs:W.heap.size≤W'.heap.size) (hk:∀k,lo≤k→k<W.heap.size→W'.heap[k]? = W.heap[k]?):MesF av mb off n ms W':=by
 obtain ⟨h2,h3,h4⟩:=h
 refine ⟨by omega,h3,fun j hj=>?_⟩
 obtain ⟨ta,tc,hc,hT,hf,hz⟩:=h4 j hj
 have eb:=hk mb hm h2
 exact ⟨ta,tc,fun i hi=>(World.cell?_of_block (a:=⟨mb,off+j*6+i,none⟩) eb).trans (hc i hi),tis_kp hT hs (fun b o e hl=>hk b (hav b (hf b o e)) hl),hf,hz⟩
theorem plain_mesF (w:World) (av:Nat→Prop) (hav:∀b,w.heap.size<b→b≤w.heap.size+4→av b):MesF av (w.heap.size+1+1+1+1+1) 0 4 plainM (plainW w):=by
 refine ⟨(plain_m w).1,rfl,fun j hj=>?_⟩
 obtain ⟨b,h1,h2,h3,hc,hT,t1,t2,t3⟩:=plain_at w j hj
 refine ⟨some ⟨b,0,none⟩,(plainM.getD j Me.zero).ts.length,fun i hi=>?_,hT,fun b' o e=>?_,t3,by omega⟩
 ·rw [Nat.zero_add];exact hc i hi
 ·cases e
  exact hav b h1 h2
theorem plain_ptm (w:World):Pt (w.heap.size+1+1+1+1+1) 24 (plainW w):=by
 refine ⟨(plain_m w).1,fun o ho=>?_,fun o ho=>?_⟩
 ·have h:=(plain_m w).2 o ho
  have hl:o<([.string ⟨#[99,112,117]⟩,.int .i64 1,.bool false,.int .i64 10,.int .i64 0,.slice (some ⟨w.heap.size+1,0,none⟩) 2 2]:List Value).length+18:=by simpa using ho
  obtain ⟨v,hv⟩:∃v,(plainW w).cell? ⟨w.heap.size+1+1+1+1+1,o,none⟩=some v:=by
   rw [h]
   exact ⟨_,List.getElem?_eq_getElem (by simpa using ho)⟩
  exact ⟨v,hv⟩
 ·simp [plainW,go_sem]
def CaOut (ao:Option Addr) (len cap g:Nat) (w:World) (e:Ending) (w':World):Prop:=(∃(c:Ca) (ma:Option Addr) (mc:Nat) (ca:Option Addr) (cc:Nat),e=.returned (.agg #[.slice ma c.ms.length mc,.slice ca c.cs.length cc])∧Mes ma c.ms.length c.ms w'∧Crs ca c.cs.length c.cs w'∧c.Small∧∀W':World,w'.heap.size≤W'.heap.size→(∀k,w.heap.size≤k→k<w'.heap.size→W'.heap[k]? = w'.heap[k]?)→Mes ma c.ms.length c.ms W'∧Crs ca c.cs.length c.cs W')∧Src ao len cap g w'∧w.grownBy w' (some g)
theorem small_of {av:Nat→Prop} {mb off n:Nat} {ms:List Me} {cs:List Cr} {W:World} (h:MesF av mb off n ms W) (hn:n≤4) (hc:cs.length≤10) (hs:∀c∈cs,c.a.size≤100):Ca.Small ⟨ms,cs⟩:=by
 obtain ⟨h2,h3,h4⟩:=h
 refine ⟨by show ms.length≤_;omega,fun i hi=>?_,by show cs.length≤_;omega,fun i hi=>?_⟩
 ·obtain ⟨ta,tc,_,_,_,a1,a2⟩:=h4 i (by rw [←h3];exact hi)
  exact ⟨Nat.le_trans a1 (by omega),Nat.le_trans a2 (by omega)⟩
 ·have hi':i<cs.length:=hi
  have:=hs (cs.getD i Cr.zero) (by simp [List.getD,hi'])
  exact Nat.le_trans this (by omega)
end DrawR
end Go.Proofs.YtcilbmhkhllmjaaGreatDoor
