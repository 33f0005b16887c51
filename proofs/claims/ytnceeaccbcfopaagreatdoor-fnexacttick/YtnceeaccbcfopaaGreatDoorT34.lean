/-
  A window that came in, read as rows. No condition.
-/
import Derived.Test.YtnceeaccbcfopaaGreatDoorT33
namespace Go.Proofs.YtnceeaccbcfopaaGreatDoor
open Go.ChangeShapes Go.WideShapes Go.ChangeAt Go.RowKit Go.Deep
set_option linter.unusedVariables false
namespace WinR
open RowG
open CatR (row_open lst2 lst_getD slice_of)
section
variable {J:Type} {enc:TypeId × Value→J} {P:Program} {w:World} {base:Nat} {spare:Nat→Bool} {held:Bool}
theorem lst8 {α:Type} {cs:List α} (h:cs.length=8):∃c0 c1 c2 c3 c4 c5 c6 c7,cs=[c0,c1,c2,c3,c4,c5,c6,c7]:=by
 match cs,h with
 | [c0,c1,c2,c3,c4,c5,c6,c7],_=>exact ⟨c0,c1,c2,c3,c4,c5,c6,c7,rfl⟩
theorem tags_open {t e:TypeId} {fuel:Nat} {ao:Option Addr} {len cap:Nat} {x:DataW J × List MemPlace} (ht:P.underlying t=some (.slice e)) (hs:P.underlying e=some .string) (hC:P.cellsOf e=1)
 (h:DataW.trod enc P w base spare held fuel t [.slice ao len cap]=some x):len≤maxLen∧∃ts:List ByteArray,ts.length=len∧(∀t∈ts,t.size≤maxLen)∧Tgs ao ts w:=by
 obtain ⟨h1,f,hq,h2⟩:=row_open 1 (fun (a:ByteArray) cs=>cs=[.string a]∧a.size≤maxLen) tz ht hC (by omega) (fun fuel cs x h=>by
  obtain ⟨i,e0,_,s0⟩:=DataW.trod_string hs h
  exact ⟨i,⟨e0,s0⟩,by rw [e0];rfl⟩) h
 refine ⟨h1,(List.range len).map f,by simp,fun t ht=>?_,?_⟩
 ·obtain ⟨i,hi,rfl⟩:=List.mem_map.1 ht
  obtain ⟨cs,_,q⟩:=hq i (List.mem_range.1 hi)
  exact q
 rcases h2 with h2|⟨b,off,rfl,hb,hc⟩
 ·exact .inl (by simpa using h2)
 ·refine .inr ⟨b,off,rfl,hb,fun j hj i hi=>?_⟩
  have hj':j<len:=by simpa using hj
  obtain ⟨cs,⟨rfl,_⟩,g⟩:=hc j hj'
  rw [lst_getD f _ len j hj']
  exact g i hi
theorem hrs_open {t e:TypeId} {f0 f1:Field} {fuel:Nat} {ao:Option Addr} {len cap:Nat} {x:DataW J × List MemPlace} (ht:P.underlying t=some (.slice e)) (hs:P.underlying e=some (.struct #[f0,f1])) (hone:oneCellFields P #[f0,f1]=true) (hC:P.cellsOf e=2)
 (u0:P.underlying f0.type=some (.int .i64)) (u1:P.underlying f1.type=some (.int .i64))
 (h:DataW.trod enc P w base spare held fuel t [.slice ao len cap]=some x):len≤maxLen∧∃hs:List H,hs.length=len∧Hrs ao hs w:=by
 obtain ⟨h1,f,_,h2⟩:=row_open 2 (fun (a:H) cs=>cs=[.int .i64 a.h,.int .i64 a.s]) H.zero ht hC (by omega) (fun fuel cs x h=>by
  obtain ⟨xs,n,_,_,hl,hlen,hf⟩:=DataW.trod_struct hs h
  obtain ⟨c0,c1,rfl⟩:=lst2 (hl.trans hC)
  obtain ⟨y0,y1,rfl⟩:=lst2 (show xs.length=2 from hlen)
  obtain ⟨o0,k0⟩:=hone_of hone 0 f0 rfl
  obtain ⟨o1,k1⟩:=hone_of hone 1 f1 rfl
  have h0:=hf 0 f0 rfl
  have h1:=hf 1 f1 rfl
  simp [o0,k0] at h0
  simp [o1,k1] at h1
  obtain ⟨p,e0,_,_⟩:=DataW.trod_int u0 h0
  obtain ⟨q,e1,_,_⟩:=DataW.trod_int u1 h1
  simp only [List.cons.injEq,and_true] at e0 e1
  subst e0 e1
  exact ⟨⟨p,q⟩,rfl,rfl⟩) h
 refine ⟨h1,(List.range len).map f,by simp,?_⟩
 rcases h2 with h2|⟨b,off,rfl,hb,hc⟩
 ·exact .inl (by simpa using h2)
 ·refine .inr ⟨b,off,rfl,hb,fun j hj i hi=>?_⟩
  have hj':j<len:=by simpa using hj
  obtain ⟨cs,rfl,g⟩:=hc j hj'
  rw [lst_getD f _ len j hj']
  exact g i hi
theorem win_open {t te th:TypeId} {f0 f1 f2 f3 f4 f5 f6 f7 g0 g1:Field} {fuel:Nat} {cs:List Value} {x:DataW J × List MemPlace} (hs:P.underlying t=some (.struct #[f0,f1,f2,f3,f4,f5,f6,f7])) (hone:oneCellFields P #[f0,f1,f2,f3,f4,f5,f6,f7]=true) (hC:P.cellsOf t=8)
 (u0:P.underlying f0.type=some .string) (u1:P.underlying f1.type=some .string) (u2:P.underlying f2.type=some (.int .i64)) (u3:P.underlying f3.type=some (.int .i64)) (u4:P.underlying f4.type=some (.int .i64)) (u5:P.underlying f5.type=some (.int .i64)) (u6:P.underlying f6.type=some (.slice te)) (u7:P.underlying f7.type=some (.slice th))
 (ut:P.underlying te=some .string) (hCt:P.cellsOf te=1) (hs2:P.underlying th=some (.struct #[g0,g1])) (hone2:oneCellFields P #[g0,g1]=true) (hC2:P.cellsOf th=2) (v0:P.underlying g0.type=some (.int .i64)) (v1:P.underlying g1.type=some (.int .i64))
 (h:DataW.trod enc P w base spare held fuel t cs=some x) :
 ∃(x:Wd) (ta:Option Addr) (tc:Nat) (ha:Option Addr) (hc:Nat),cs=(wcells x ta tc ha hc).toList∧x.In∧Tgs ta x.ts w∧Hrs ha x.hs w:=by
 obtain ⟨xs,n,_,_,hl,hlen,hf⟩:=DataW.trod_struct hs h
 obtain ⟨c0,c1,c2,c3,c4,c5,c6,c7,rfl⟩:=lst8 (hl.trans hC)
 obtain ⟨y0,y1,y2,y3,y4,y5,y6,y7,rfl⟩:=lst8 (show xs.length=8 from hlen)
 obtain ⟨o0,k0⟩:=hone_of hone 0 f0 rfl
 obtain ⟨o1,k1⟩:=hone_of hone 1 f1 rfl
 obtain ⟨o2,k2⟩:=hone_of hone 2 f2 rfl
 obtain ⟨o3,k3⟩:=hone_of hone 3 f3 rfl
 obtain ⟨o4,k4⟩:=hone_of hone 4 f4 rfl
 obtain ⟨o5,k5⟩:=hone_of hone 5 f5 rfl
 obtain ⟨o6,k6⟩:=hone_of hone 6 f6 rfl
 obtain ⟨o7,k7⟩:=hone_of hone 7 f7 rfl
 have h0:=hf 0 f0 rfl
 have h1:=hf 1 f1 rfl
 have h2:=hf 2 f2 rfl
 have h3:=hf 3 f3 rfl
 have h4:=hf 4 f4 rfl
 have h5:=hf 5 f5 rfl
 have h6:=hf 6 f6 rfl
 have h7:=hf 7 f7 rfl
 simp [o0,k0] at h0
 simp [o1,k1] at h1
 simp [o2,k2] at h2
 simp [o3,k3] at h3
 simp [o4,k4] at h4
 simp [o5,k5] at h5
 simp [o6,k6] at h6
 simp [o7,k7] at h7
 obtain ⟨a,e0,_,s0⟩:=DataW.trod_string u0 h0
 obtain ⟨m,e1,_,s1⟩:=DataW.trod_string u1 h1
 obtain ⟨p,e2,_,_⟩:=DataW.trod_int u2 h2
 obtain ⟨q,e3,_,_⟩:=DataW.trod_int u3 h3
 obtain ⟨r,e4,_,_⟩:=DataW.trod_int u4 h4
 obtain ⟨s,e5,_,_⟩:=DataW.trod_int u5 h5
 obtain ⟨ta,tl,tc,rfl⟩:=slice_of u6 h6
 obtain ⟨ha,hl',hc,rfl⟩:=slice_of u7 h7
 obtain ⟨q1,ts,rfl,q2,q3⟩:=tags_open u6 ut hCt h6
 obtain ⟨r1,hs',rfl,r3⟩:=hrs_open u7 hs2 hone2 hC2 v0 v1 h7
 simp only [List.cons.injEq,and_true] at e0 e1 e2 e3 e4 e5
 subst e0 e1 e2 e3 e4 e5
 exact ⟨⟨a,m,p,q,r,s,ts,hs'⟩,ta,tc,ha,hc,rfl,⟨s0,s1,q1,q2,r1⟩,q3,r3⟩
end
end WinR
end Go.Proofs.YtnceeaccbcfopaaGreatDoor
