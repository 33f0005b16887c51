/-
  Tiers, meters, credits and catalogs that came in, read as rows. No condition.
-/
import Derived.Deep.Fields
import Derived.OpenVars
import Derived.Carry
import Derived.ChangeMaps5
import Derived.Lib.SmallJoins
import Derived.DataReads
import Derived.Test.YtnceeaccbcfopaaGreatDoorT32
namespace Go.Proofs.YtnceeaccbcfopaaGreatDoor
open Go.ChangeShapes Go.WideShapes Go.ChangeAt Go.RowKit Go.Deep
set_option linter.unusedVariables false
namespace CatR
section
variable {H:Type} {enc:TypeId × Value→H} {P:Program} {w:World} {base:Nat} {spare:Nat→Bool} {held:Bool}
theorem lst2 {α:Type} {cs:List α} (h:cs.length=2):∃c0 c1,cs=[c0,c1]:=by
 match cs,h with
 | [c0,c1],_=>exact ⟨c0,c1,rfl⟩
theorem lst6 {α:Type} {cs:List α} (h:cs.length=6):∃c0 c1 c2 c3 c4 c5,cs=[c0,c1,c2,c3,c4,c5]:=by
 match cs,h with
 | [c0,c1,c2,c3,c4,c5],_=>exact ⟨c0,c1,c2,c3,c4,c5,rfl⟩
theorem cellsAt {a:Addr} {cs:List Value} {n:Nat} (h:w.cells? base a n=some cs) (j:Nat) (hj:j<n):w.cell? (a.add j)=cs[j]?:=by
 obtain ⟨_,h1,h2⟩:=World.cells?_some h
 exact h2 j hj
theorem row_open {α:Type} (sz:Nat) (cel:α→List Value→Prop) (d:α) {t e:TypeId} {fuel:Nat} {ao:Option Addr} {len cap:Nat} {x:DataW H × List MemPlace} (ht:P.underlying t=some (.slice e)) (hC:P.cellsOf e=sz) (hsz:0<sz)
 (key:∀fuel cs x,DataW.trod enc P w base spare held fuel e cs=some x→∃a,cel a cs∧cs.length=sz)
 (h:DataW.trod enc P w base spare held fuel t [.slice ao len cap]=some x) :
 len≤maxLen∧∃f:Nat→α,(∀j,j<len→∃cs,cel (f j) cs)∧(len=0∨∃b off,ao=some ⟨b,off,none⟩∧b<w.heap.size∧∀j,j<len→∃cs,cel (f j) cs∧∀i,i<sz→w.cell? ⟨b,off+j*sz+i,none⟩=cs[i]?):=by
 rcases DataW.trod_slice ht h with ⟨hcs,_⟩|⟨a,len',cap',elems,rest,n,_,hcs,_,hb,hl,hm,hlen,hel,_,_⟩
 ·simp only [List.cons.injEq,Value.slice.injEq,and_true] at hcs
  obtain ⟨rfl,rfl,rfl⟩:=hcs
  exact ⟨Nat.zero_le _,fun _=>d,fun j hj=>absurd hj (by omega),.inl rfl⟩
 ·simp only [List.cons.injEq,Value.slice.injEq,and_true] at hcs
  obtain ⟨rfl,rfl,rfl⟩:=hcs
  have key2:∀i,i<len→∃E1:α,∃cs,cel E1 cs∧cs.length=sz∧w.cells? base (a.add (i*sz)) sz=some cs:=by
   intro i hi
   have h1:=hel i hi
   rw [hC,List.getElem?_eq_getElem (by omega)] at h1
   cases hc:w.cells? base (a.add (i*sz)) sz with
   | none=>rw [hc] at h1;simp at h1
   | some cs =>
    rw [hc] at h1
    simp only [Option.bind_some] at h1
    obtain ⟨E1,q1,q2⟩:=key _ _ _ h1
    exact ⟨E1,cs,q1,q2,rfl⟩
  have:∃f:Nat→α,∀i,i<len→∃cs,cel (f i) cs∧cs.length=sz∧w.cells? base (a.add (i*sz)) sz=some cs:=by
   refine ⟨fun i=>if hi:i<len then Classical.choose (key2 i hi) else d,fun i hi=>?_⟩
   simp only [hi,dif_pos]
   exact Classical.choose_spec (key2 i hi)
  obtain ⟨f,hf⟩:=this
  refine ⟨by omega,f,fun j hj=>by obtain ⟨cs,h1,_⟩:=hf j hj;exact ⟨cs,h1⟩,?_⟩
  by_cases h0:len=0
  ·exact .inl h0
  ·obtain ⟨b,off,spot⟩:=a
   obtain ⟨cs0,g0,g1,g2⟩:=hf 0 (by omega)
   have hc0:=cellsAt g2 0 hsz
   rw [List.getElem?_eq_getElem (by omega)] at hc0
   have hc1:w.cell? ⟨b,off,spot⟩=some cs0[0]:=by simpa [Addr.add] using hc0
   obtain rfl:spot=none:=World.cell?_spot hc1
   refine .inr ⟨b,off,rfl,World.block_lt_of_cell? w _ hc1,fun j hj=>?_⟩
   obtain ⟨cs,q1,q2,q3⟩:=hf j hj
   refine ⟨cs,q1,fun i hi=>?_⟩
   have g:=cellsAt q3 i hi
   have ad:((⟨b,off,none⟩:Addr).add (j*sz)).add i=⟨b,off+j*sz+i,none⟩:=by
    unfold Addr.add
    split<;>split<;>simp_all
   rw [ad] at g
   exact g
theorem lst_getD {α:Type} (f:Nat→α) (d:α) (len j:Nat) (hj:j<len):((List.range len).map f).getD j d=f j:=by simp [List.getD,hj]
theorem tis_open {t e:TypeId} {f0 f1:Field} {fuel:Nat} {ao:Option Addr} {len cap:Nat} {x:DataW H × List MemPlace} (ht:P.underlying t=some (.slice e)) (hs:P.underlying e=some (.struct #[f0,f1])) (hone:oneCellFields P #[f0,f1]=true) (hC:P.cellsOf e=2)
 (u0:P.underlying f0.type=some (.int .i64)) (u1:P.underlying f1.type=some (.int .i64))
 (h:DataW.trod enc P w base spare held fuel t [.slice ao len cap]=some x):len≤maxLen∧∃ts:List Ti,ts.length=len∧Tis ao len ts w:=by
 obtain ⟨h1,f,_,h2⟩:=row_open 2 (fun (a:Ti) cs=>cs=[.int .i64 a.u,.int .i64 a.p]) Ti.zero ht hC (by omega) (fun fuel cs x h=>by
  obtain ⟨xs,n,_,_,hl,hlen,hf⟩:=DataW.trod_struct hs h
  obtain ⟨c0,c1,rfl⟩:=lst2 (hl.trans hC)
  obtain ⟨y0,y1,rfl⟩:=lst2 (show xs.length=2 from hlen)
  obtain ⟨o0,k0⟩:=hone_of hone 0 f0 rfl
  obtain ⟨o1,k1⟩:=hone_of hone 1 f1 rfl
  have h0:=hf 0 f0 rfl
  have h1:=hf 1 f1 rfl
  simp [o0,k0] at h0
  simp [o1,k1] at h1
  obtain ⟨p,e0,_,_⟩:=DataW.trod_int u0 h0
  obtain ⟨q,e1,_,_⟩:=DataW.trod_int u1 h1
  simp only [List.cons.injEq,and_true] at e0 e1
  subst e0 e1
  exact ⟨⟨p,q⟩,rfl,rfl⟩) h
 refine ⟨h1,(List.range len).map f,by simp,by simp,?_⟩
 rcases h2 with h2|⟨b,off,rfl,hb,hc⟩
 ·exact .inl h2
 ·refine .inr ⟨b,off,rfl,hb,fun j hj=>?_⟩
  obtain ⟨cs,rfl,g⟩:=hc j hj
  rw [lst_getD f _ len j hj]
  exact ⟨g 0 (by omega),g 1 (by omega)⟩
theorem crs_open {t e:TypeId} {f0 f1:Field} {fuel:Nat} {ao:Option Addr} {len cap:Nat} {x:DataW H × List MemPlace} (ht:P.underlying t=some (.slice e)) (hs:P.underlying e=some (.struct #[f0,f1])) (hone:oneCellFields P #[f0,f1]=true) (hC:P.cellsOf e=2)
 (u0:P.underlying f0.type=some .string) (u1:P.underlying f1.type=some (.int .i64))
 (h:DataW.trod enc P w base spare held fuel t [.slice ao len cap]=some x):len≤maxLen∧∃cs:List Cr,cs.length=len∧(∀i,i<len→(cs.getD i Cr.zero).a.size≤maxLen)∧Crs ao len cs w:=by
 obtain ⟨h1,f,hq,h2⟩:=row_open 2 (fun (a:Cr) cs=>cs=[.string a.a,.int .i64 a.m]∧a.a.size≤maxLen) Cr.zero ht hC (by omega) (fun fuel cs x h=>by
  obtain ⟨xs,n,_,_,hl,hlen,hf⟩:=DataW.trod_struct hs h
  obtain ⟨c0,c1,rfl⟩:=lst2 (hl.trans hC)
  obtain ⟨y0,y1,rfl⟩:=lst2 (show xs.length=2 from hlen)
  obtain ⟨o0,k0⟩:=hone_of hone 0 f0 rfl
  obtain ⟨o1,k1⟩:=hone_of hone 1 f1 rfl
  have h0:=hf 0 f0 rfl
  have h1:=hf 1 f1 rfl
  simp [o0,k0] at h0
  simp [o1,k1] at h1
  obtain ⟨p,e0,_,s0⟩:=DataW.trod_string u0 h0
  obtain ⟨q,e1,_,_⟩:=DataW.trod_int u1 h1
  simp only [List.cons.injEq,and_true] at e0 e1
  subst e0 e1
  exact ⟨⟨p,q⟩,⟨rfl,s0⟩,rfl⟩) h
 refine ⟨h1,(List.range len).map f,by simp,fun i hi=>?_,by simp,?_⟩
 ·rw [lst_getD f _ len i hi]
  obtain ⟨cs,_,h⟩:=hq i hi
  exact h
 rcases h2 with h2|⟨b,off,rfl,hb,hc⟩
 ·exact .inl h2
 ·refine .inr ⟨b,off,rfl,hb,fun j hj=>?_⟩
  obtain ⟨cs,⟨rfl,_⟩,g⟩:=hc j hj
  rw [lst_getD f _ len j hj]
  exact ⟨g 0 (by omega),g 1 (by omega)⟩
theorem me_open {t tt te:TypeId} {f0 f1 f2 f3 f4 f5 g0 g1:Field} {fuel:Nat} {cs:List Value} {x:DataW H × List MemPlace} (hs:P.underlying t=some (.struct #[f0,f1,f2,f3,f4,f5])) (hone:oneCellFields P #[f0,f1,f2,f3,f4,f5]=true) (hC:P.cellsOf t=6)
 (u0:P.underlying f0.type=some .string) (u1:P.underlying f1.type=some (.int .i64)) (u2:P.underlying f2.type=some .bool) (u3:P.underlying f3.type=some (.int .i64)) (u4:P.underlying f4.type=some (.int .i64)) (u5:P.underlying f5.type=some (.slice te))
 (hs2:P.underlying te=some (.struct #[g0,g1])) (hone2:oneCellFields P #[g0,g1]=true) (hC2:P.cellsOf te=2) (v0:P.underlying g0.type=some (.int .i64)) (v1:P.underlying g1.type=some (.int .i64))
 (h:DataW.trod enc P w base spare held fuel t cs=some x) :
 ∃(m:Me) (ta:Option Addr) (tc:Nat),cs=[.string m.n,.int .i64 m.g,.bool m.wh,.int .i64 m.f,.int .i64 m.l,.slice ta m.ts.length tc]∧m.n.size≤maxLen∧m.ts.length≤maxLen∧Tis ta m.ts.length m.ts w:=by
 obtain ⟨xs,n,_,_,hl,hlen,hf⟩:=DataW.trod_struct hs h
 obtain ⟨c0,c1,c2,c3,c4,c5,rfl⟩:=lst6 (hl.trans hC)
 obtain ⟨y0,y1,y2,y3,y4,y5,rfl⟩:=lst6 (show xs.length=6 from hlen)
 obtain ⟨o0,k0⟩:=hone_of hone 0 f0 rfl
 obtain ⟨o1,k1⟩:=hone_of hone 1 f1 rfl
 obtain ⟨o2,k2⟩:=hone_of hone 2 f2 rfl
 obtain ⟨o3,k3⟩:=hone_of hone 3 f3 rfl
 obtain ⟨o4,k4⟩:=hone_of hone 4 f4 rfl
 obtain ⟨o5,k5⟩:=hone_of hone 5 f5 rfl
 have h0:=hf 0 f0 rfl
 have h1:=hf 1 f1 rfl
 have h2:=hf 2 f2 rfl
 have h3:=hf 3 f3 rfl
 have h4:=hf 4 f4 rfl
 have h5:=hf 5 f5 rfl
 simp [o0,k0] at h0
 simp [o1,k1] at h1
 simp [o2,k2] at h2
 simp [o3,k3] at h3
 simp [o4,k4] at h4
 simp [o5,k5] at h5
 obtain ⟨i,e0,_,s0⟩:=DataW.trod_string u0 h0
 obtain ⟨a,e1,_,s1⟩:=DataW.trod_int u1 h1
 obtain ⟨q,e2,_⟩:=DataW.trod_bool u2 h2
 obtain ⟨p,e3,_,s3⟩:=DataW.trod_int u3 h3
 obtain ⟨r,e4,_,s4⟩:=DataW.trod_int u4 h4
 obtain ⟨ta,tl,tc,rfl⟩:∃ta tl tc,c5=.slice ta tl tc:=by
  rcases DataW.trod_slice u5 h5 with ⟨hcs,_⟩|⟨a,len',cap',_,_,_,_,hcs,_⟩
  ·simp only [List.cons.injEq,and_true] at hcs
   exact ⟨_,_,_,hcs⟩
  ·simp only [List.cons.injEq,and_true] at hcs
   exact ⟨_,_,_,hcs⟩
 obtain ⟨q1,ts,rfl,q2⟩:=tis_open u5 hs2 hone2 hC2 v0 v1 h5
 simp only [List.cons.injEq,and_true] at e0 e1 e2 e3 e4
 subst e0 e1 e2 e3 e4
 exact ⟨⟨i,a,q,p,r,ts⟩,ta,tc,rfl,s0,q1,q2⟩
theorem mes_open {ts t tt te:TypeId} {f0 f1 f2 f3 f4 f5 g0 g1:Field} {fuel:Nat} {ao:Option Addr} {len cap:Nat} {x:DataW H × List MemPlace} (ht:P.underlying ts=some (.slice t)) (hs:P.underlying t=some (.struct #[f0,f1,f2,f3,f4,f5])) (hone:oneCellFields P #[f0,f1,f2,f3,f4,f5]=true) (hC:P.cellsOf t=6)
 (u0:P.underlying f0.type=some .string) (u1:P.underlying f1.type=some (.int .i64)) (u2:P.underlying f2.type=some .bool) (u3:P.underlying f3.type=some (.int .i64)) (u4:P.underlying f4.type=some (.int .i64)) (u5:P.underlying f5.type=some (.slice te))
 (hs2:P.underlying te=some (.struct #[g0,g1])) (hone2:oneCellFields P #[g0,g1]=true) (hC2:P.cellsOf te=2) (v0:P.underlying g0.type=some (.int .i64)) (v1:P.underlying g1.type=some (.int .i64))
 (h:DataW.trod enc P w base spare held fuel ts [.slice ao len cap]=some x) :
 len≤maxLen∧∃ms:List Me,ms.length=len∧(∀i,i<len→(ms.getD i Me.zero).n.size≤maxLen∧(ms.getD i Me.zero).ts.length≤maxLen)∧Mes ao len ms w:=by
 obtain ⟨h1,f,hq,h2⟩:=row_open 6 (fun (m:Me) cs=>∃(ta:Option Addr) (tc:Nat),cs=[.string m.n,.int .i64 m.g,.bool m.wh,.int .i64 m.f,.int .i64 m.l,.slice ta m.ts.length tc]∧m.n.size≤maxLen∧m.ts.length≤maxLen∧Tis ta m.ts.length m.ts w) Me.zero ht hC (by omega) (fun fuel cs x h=>by
  obtain ⟨m,ta,tc,rfl,q⟩:=me_open (tt:=tt) hs hone hC u0 u1 u2 u3 u4 u5 hs2 hone2 hC2 v0 v1 h
  exact ⟨m,⟨ta,tc,rfl,q⟩,rfl⟩) h
 refine ⟨h1,(List.range len).map f,by simp,fun i hi=>?_,by simp,?_⟩
 ·rw [lst_getD f _ len i hi]
  obtain ⟨cs,_,_,_,q1,q2,_⟩:=hq i hi
  exact ⟨q1,q2⟩
 rcases h2 with h2|⟨b,off,rfl,hb,hc⟩
 ·exact .inl h2
 ·refine .inr ⟨b,off,rfl,hb,fun j hj=>?_⟩
  obtain ⟨cs,⟨ta,tc,rfl,_,_,q3⟩,g⟩:=hc j hj
  rw [lst_getD f _ len j hj]
  exact ⟨ta,tc,g 0 (by omega),g 1 (by omega),g 2 (by omega),g 3 (by omega),g 4 (by omega),g 5 (by omega),q3⟩
theorem slice_of {t e:TypeId} {fuel:Nat} {c:Value} {x:DataW H × List MemPlace} (u5:P.underlying t=some (.slice e)) (h5:DataW.trod enc P w base spare held fuel t [c]=some x):∃ta tl tc,c=.slice ta tl tc:=by
 rcases DataW.trod_slice u5 h5 with ⟨hcs,_⟩|⟨a,len',cap',_,_,_,_,hcs,_⟩
 ·simp only [List.cons.injEq,and_true] at hcs
  exact ⟨_,_,_,hcs⟩
 ·simp only [List.cons.injEq,and_true] at hcs
  exact ⟨_,_,_,hcs⟩
theorem ca_cells {t a b:TypeId} {f0 f1:Field} {fuel:Nat} {cs:List Value} {x:DataW H × List MemPlace} (hs:P.underlying t=some (.struct #[f0,f1])) (hone:oneCellFields P #[f0,f1]=true) (hC:P.cellsOf t=2)
 (u0:P.underlying f0.type=some (.slice a)) (u1:P.underlying f1.type=some (.slice b))
 (h:DataW.trod enc P w base spare held fuel t cs=some x) :
 ∃ma ml mc ca cl cc,cs=[.slice ma ml mc,.slice ca cl cc]∧(∃n y,DataW.trod enc P w base spare held n f0.type [.slice ma ml mc]=some y)∧∃n y,DataW.trod enc P w base spare held n f1.type [.slice ca cl cc]=some y:=by
 obtain ⟨xs,n,_,_,hl,hlen,hf⟩:=DataW.trod_struct hs h
 obtain ⟨c0,c1,rfl⟩:=lst2 (hl.trans hC)
 obtain ⟨y0,y1,rfl⟩:=lst2 (show xs.length=2 from hlen)
 obtain ⟨o0,k0⟩:=hone_of hone 0 f0 rfl
 obtain ⟨o1,k1⟩:=hone_of hone 1 f1 rfl
 have h0:=hf 0 f0 rfl
 have h1:=hf 1 f1 rfl
 simp [o0,k0] at h0
 simp [o1,k1] at h1
 obtain ⟨ma,ml,mc,rfl⟩:=slice_of u0 h0
 obtain ⟨ca,cl,cc,rfl⟩:=slice_of u1 h1
 exact ⟨ma,ml,mc,ca,cl,cc,rfl,⟨n,_,h0⟩,⟨n,_,h1⟩⟩
end
end CatR
end Go.Proofs.YtnceeaccbcfopaaGreatDoor
