/-
  What Tick answers, in numbers; what a right engine's parts are bounded by. No condition.
-/
import Derived.Test.YtnceeaccbcfopaaGreatDoorT142
namespace Go.Proofs.YtnceeaccbcfopaaGreatDoor
open Go.ChangeShapes Go.WideShapes Go.ChangeAt Go.RowKit
set_option linter.unusedVariables false
namespace EngR
open OwG CatR ChG DocR
open RowG (cellsAll grown_set)
def E0:Eng:=⟨⟨[],[]⟩,[],[],[],[],0⟩
def six (ss:List Cr) (a:ByteArray):Nat:=ss.findIdx (fun c=>decide (c.a=a))
theorem six_at {ss:List Cr} {a:ByteArray} {k:Nat} (hk:k<ss.length) (hn:∀i,i<k→(ss.getD i Cr.zero).a≠a) (he:(ss.getD k Cr.zero).a=a):six ss a=k:=by
 unfold six
 rw [List.findIdx_eq hk]
 refine ⟨decide_eq_true (by simpa [List.getD,hk] using he),fun j hj=>decide_eq_false (by have:=hn j hj;simpa [List.getD,show j<ss.length by omega] using this)⟩
theorem six_no {ss:List Cr} {a:ByteArray} (hn:∀i,i<ss.length→(ss.getD i Cr.zero).a≠a):six ss a=ss.length:=by
 unfold six
 rw [List.findIdx_eq_length]
 intro x hx
 obtain ⟨i,hi,rfl⟩:=List.getElem_of_mem hx
 exact decide_eq_false (by have:=hn i hi;simpa [List.getD,hi] using this)
def tkD (x:Eng) (v:Int) (a:ByteArray) (m:Int):Eng × Int:=if 8000<a.size then (E0,2) else if engB x v=true then (if six x.ss a<x.ss.length then (if (x.ss.getD (six x.ss a) Cr.zero).m≤m∧m≤121000000 then ({x with ss:=x.ss.set (six x.ss a) ⟨(x.ss.getD (six x.ss a) Cr.zero).a,m⟩},0) else (E0,8)) else (E0,6)) else (E0,1)
theorem set_cr:∀(ss:List Cr) (k:Nat) (m:Int),k<ss.length→(cellsAll Cr.cells ss).set (k*2+1) (.int .i64 m)=cellsAll Cr.cells (ss.set k ⟨(ss.getD k Cr.zero).a,m⟩)
 | [],k,m,h=>absurd h (by simp)
 | x::xs,0,m,_=>by simp [cellsAll,Cr.cells]
 | x::xs,k+1,m,h=>by
  have ih:=set_cr xs k m (by simpa using h)
  have e:(k+1)*2+1=(k*2+1)+1+1:=by omega
  simp only [cellsAll,List.flatMap_cons,Cr.cells,List.cons_append,List.nil_append,List.set_cons_succ,e,List.getD_cons_succ] at *
  rw [ih]
theorem own_wrT {w:World} {base e size n g cap:Nat} {xs:List Value} (h:w.ownsRow base e size (.slice (some ⟨g,0,none⟩) n cap) n xs) (o:Nat) (u:Value):(w.setCell ⟨g,o,none⟩ u).ownsRow base e size (.slice (some ⟨g,0,none⟩) n cap) n (xs.set o u):=by
 obtain ⟨h1,h2⟩:=h
 refine ⟨by rw [List.length_set];exact h1,.inr ?_⟩
 rcases h2 with ⟨h0,_⟩|⟨g',cap',cur,hv,hg,hh,hc,hm,hz,hcur⟩
 ·cases h0
 ·cases hv
  refine ⟨g,cap,cur.setIfInBounds o u,rfl,hg,?_,hc,hm,by simpa using hz,?_⟩
  ·have hlt:g<w.heap.size:=by
    rcases Nat.lt_or_ge g w.heap.size with h|h
    ·exact h
    ·rw [Array.getElem?_eq_none h] at hh;cases hh
   simp only [World.setCell]
   rw [Array.getElem?_modify]
   simp [hh]
  ·rw [Array.toList_setIfInBounds,List.take_set,hcur]
structure Eng.Ok (x:Eng):Prop where
 c:caB x.c=true
 ss:1≤x.ss.length∧x.ss.length≤3
 sm:∀i,i<x.ss.length→0≤(x.ss.getD i Cr.zero).m∧(x.ss.getD i Cr.zero).m≤121000000
 es:x.es.length≤40
 ws:x.ws.length≤16
 wl:∀w∈x.ws,w.ts.length≤12∧1≤w.hs.length∧w.hs.length≤12
 ds:x.ds.length≤30
 dl:∀d∈x.ds,d.ls.length≤6∧d.ls.filter LinR.nz=d.ls
theorem right_nzE {es:List LinR.N} (h:LinR.SRight es):es.filter LinR.nz=es:=by
 rw [List.filter_eq_self]
 intro x hx
 obtain ⟨i,hi,rfl⟩:=List.getElem_of_mem hx
 have:=(h.2 i hi).2
 unfold LinR.lOk at this
 simp only [Bool.and_eq_true] at this
 have h3:=this.2.2
 unfold LinR.nz
 simpa [List.getD,hi] using h3
theorem eng_ok {x:Eng} {v:Int} (h:engB x v=true):x.Ok:=by
 unfold engB at h
 simp only [Bool.and_eq_true] at h
 obtain ⟨⟨⟨⟨⟨hc,hs⟩,hl⟩,hf⟩,he,hg⟩,hw⟩:=h
 unfold srcB at hs
 rw [Bool.and_eq_true] at hs
 have hn:=StxR.nsB_iff.1 hs.2
 have hL:=LedR.lB_iff.1 hl
 have hwd:∀w∈x.ws,WinR.wB w=true:=fun w hm=>by
  obtain ⟨i,hi,rfl⟩:=List.getElem_of_mem hm
  unfold winB at hw
  rw [Bool.and_eq_true] at hw
  have:=List.all_eq_true.1 hw.2 i (List.mem_range.2 hi)
  unfold wok at this
  simp only [Bool.and_eq_true] at this
  have h2:=this.1.1.1
  simpa [List.getD,hi] using h2
 refine ⟨hc,?_,fun i hi=>?_,?_,?_,fun w hm=>?_,hL.1,fun d hm=>?_⟩
 ·have:=hn.1
  rw [nmS_len] at this
  exact this
 ·have:=List.all_eq_true.1 hs.1 _ (RowG.getD_mem (z:=Cr.zero) x.ss i hi)
  unfold minB at this
  exact of_decide_eq_true this
 ·unfold SeenR.sB at he
  have:=@of_decide_eq_true _ (SeenR.SRightDec x.es) he
  exact this.1
 ·unfold winB at hw
  rw [Bool.and_eq_true] at hw
  exact of_decide_eq_true hw.1
 ·have:=hwd w hm
  unfold WinR.wB WinR.tagsB WinR.timedB at this
  simp only [Bool.and_eq_true,decide_eq_true_eq] at this
  exact ⟨this.2.2.1.1,this.2.2.2.1.1,this.2.2.2.1.2⟩
 ·obtain ⟨i,hi,rfl⟩:=List.getElem_of_mem hm
  have:=(hL.2.1 i hi).1
  unfold DocR.dB at this
  simp only [Bool.and_eq_true] at this
  have h2:=LinR.sB_iff.1 this.2.2.2.1
  have e:x.ds.getD i LedR.D.zero=x.ds[i]:=by simp [List.getD,hi]
  rw [e] at h2
  exact ⟨h2.1,right_nzE h2⟩
theorem sum_le {α:Type} (f:α→Nat) (B:Nat):∀l:List α,(∀x∈l,f x≤B)→(l.map f).sum≤B*l.length
 | [],_=>by simp
 | x::l,h=>by
  have h1:=sum_le f B l (fun y hy=>h y (List.mem_cons_of_mem _ hy))
  have h2:=h x (List.mem_cons_self ..)
  simp only [List.map_cons,List.sum_cons,List.length_cons,Nat.mul_add,Nat.mul_one]
  omega
theorem ok_tot {x:Eng} (h:x.Ok):1+totE x≤5300001:=by
 obtain ⟨⟨m6,hm⟩,⟨c6,_⟩⟩:=caB_iffC.1 h.c
 have t1:=sum_le (fun m:Me=>5+2*m.ts.length) 15 x.c.ms (fun m hq=>by
  obtain ⟨i,hi,rfl⟩:=List.getElem_of_mem hq
  have:=(me_facts (hm i hi).1).2.2
  have e:x.c.ms.getD i Me.zero=x.c.ms[i]:=by simp [List.getD,hi]
  rw [e] at this
  show 5+2*x.c.ms[i].ts.length≤15
  omega)
 have t2:=sum_le (fun w:WinR.Wd=>6+w.ts.length+2*w.hs.length) 42 x.ws (fun w hq=>by
  have:=h.wl w hq
  show 6+w.ts.length+2*w.hs.length≤42
  omega)
 have t3:=sum_le (fun d:DocR.D=>3+2*d.ls.length) 15 x.ds (fun d hq=>by
  have:=(h.dl d hq).1
  show 3+2*d.ls.length≤15
  omega)
 have s1:=h.ss.2
 have s2:=h.es
 have s3:=h.ws
 have s4:=h.ds
 unfold totE totM totW totD
 omega
theorem tot_zero:1+totE E0≤5300001:=by decide
theorem small_zero:E0.Small:=⟨⟨by simp [E0],(fun m h=>by simp [E0] at h),by simp [E0],(fun m h=>by simp [E0] at h)⟩,by simp [E0],(fun i h=>by simp [E0] at h),by simp [E0],(fun e h=>by simp [E0] at h),by simp [E0],(fun i h=>by simp [E0] at h),by simp [E0],(fun e h=>by simp [E0] at h)⟩
theorem tk_tot {x:Eng} {v:Int} {a:ByteArray} {m:Int}:1+totE (tkD x v a m).1≤5300001:=by
 unfold tkD
 split
 ·exact tot_zero
 ·split
  ·rename_i hq
   have h:=ok_tot (eng_ok hq)
   split
   ·split
    ·simp only [totE,List.length_set] at *
     exact h
    ·exact tot_zero
   ·exact tot_zero
  ·exact tot_zero
theorem tk_small {x:Eng} {v:Int} {a:ByteArray} {m:Int} (hx:x.Small):(tkD x v a m).1.Small:=by
 unfold tkD
 split
 ·exact small_zero
 ·split
  ·split
   ·split
    ·refine {hx with sl:=by rw [List.length_set];exact hx.sl,ss:=fun i hi=>?_}
     rw [List.length_set] at hi
     by_cases e:six x.ss a=i
     ·subst e
      have:=hx.ss _ hi
      simpa [List.getD,hi] using this
     ·have:=hx.ss i hi
      simpa [List.getD,hi,e] using this
    ·exact small_zero
   ·exact small_zero
  ·exact small_zero
end EngR
end Go.Proofs.YtnceeaccbcfopaaGreatDoor
