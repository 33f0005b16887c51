/-
  Two rising lists of tags laid into one, the program's way. The conditions: at most 1048575 of both together; a list that is nil has no room, any other room for what it holds.
-/
import Derived.Deep.QuietTactic
import Derived.Laws.AppendOwnNone
import Derived.Laws.EntriesVeiled
import Derived.Test.YteejpnkmnmoebaaDoorJ15
namespace Go.Proofs.YteejpnkmnmoebaaDoor
open Go.ChangeShapes Go.WideShapes Go.ChangeAt Go.RowKit
set_option linter.unusedVariables false
set_option linter.unusedSimpArgs false
namespace WinR
open RowG (MadeG Rws cellsAll cellsAll_len cellsAll_get own_made take_more getD_mem)
open CatR (Blk Blk.new)
open LtR
theorem bdN2 {B:Nat} {a w:World} (h:Below B a w) (n:Nat):Below B a (w.drewN n):=⟨h.os,h.tape,h.output,h.size,h.block⟩
def slen:Value→Nat
 | .slice _ n _=>n
 | _=>0
def Lst (w:World) (v:Value) (L:List ByteArray):Prop:=∃ao c,v=.slice ao L.length c∧SlOk ao L.length c∧Tgs ao L w
theorem Lst.tail {w:World} {ao:Option Addr} {c:Nat} {X:ByteArray} {L:List ByteArray} (hS:SlOk ao (X::L).length c) (h:Tgs ao (X::L) w):∃b off,ao=some ⟨b,off,none⟩∧b<w.heap.size∧w.cell? ⟨b,off,none⟩=some (.string X)∧L.length+1≤c∧c≤maxLen∧(c=1→Lst w (.slice (some ⟨b,off,none⟩) 0 0) L)∧(¬c=1→Lst w (.slice (some ⟨b,off+1,none⟩) L.length (c-1)) L):=by
 obtain ⟨b,off,rfl,hbl,c0⟩:=h.at 0 (by simp)
 rcases hS with ⟨h0,_⟩|⟨b',off',he,h1,h2⟩
 ·cases h0
 ·refine ⟨b,off,rfl,hbl,by simpa using c0,by simpa using h1,h2,fun hc=>?_,fun hc=>?_⟩
  ·have:L=[]:=List.length_eq_zero_iff.1 (by simp at h1;omega)
   subst this
   exact ⟨_,_,rfl,.inr ⟨b,off,rfl,Nat.le_refl _,by unfold maxLen;omega⟩,.inl rfl⟩
  ·refine ⟨_,_,rfl,.inr ⟨b,off+1,rfl,by simp at h1;omega,by omega⟩,?_⟩
   rcases h with h|⟨b',off',he,_,hc'⟩
   ·simp at h
   ·simp only [Option.some.injEq,Addr.mk.injEq,and_true] at he
    obtain ⟨rfl,rfl⟩:=he
    refine .inr ⟨b,off+1,rfl,hbl,fun j hj=>?_⟩
    have:=hc' (j+1) (by simpa using hj)
    intro i hi
    have:=this i hi
    simp only [List.getD_cons_succ] at this
    rw [←this]
    congr 2
    omega
def KW (w:World) (ta:Option Addr) (tl tc:Nat) (P:List ByteArray) (bv:Value) (W:World):Prop:=Below w.heap.size w W∧BlkW w.heap.size [.slice ta tl tc,.func (.func 60) #[] #[],.func (.func 61) #[] #[]] W∧BlkW (w.heap.size+2) [.slice none 0 0,.nilFunc,.nilFunc] W∧W.ownsRow (w.heap.size+3) 9 1 bv P.length (cellsAll tcells P)
theorem KW.below {w:World} {ta:Option Addr} {tl tc:Nat} {P:List ByteArray} {bv:Value} {W W':World} (h:KW w ta tl tc P bv W) (hb:Below W.heap.size W W'):KW w ta tl tc P bv W' :=
 ⟨h.1.trans (hb.mono h.1.size),h.2.1.below hb,h.2.2.1.below hb,RowG.own_below h.2.2.2 hb⟩
theorem KW.app {w:World} {ta:Option Addr} {tl tc:Nat} {P:List ByteArray} {bv:Value} {W W':World} {x:ByteArray} {v':Value} (h:KW w ta tl tc P bv W) (ho:W'.ownsRow (w.heap.size+3) 9 1 v' (P.length+1) (cellsAll tcells P ++ [.string x])) (hg:W.grownBy W' bv.ownBlock):KW w ta tl tc (P ++ [x]) v' W':=by
 refine ⟨h.1.grown hg h.1.size (fun c hc=>by have:=(h.2.2.2.lt c hc).1;omega),BlkW.grown h.2.1 hg (fun e=>by have:=(h.2.2.2.lt _ e.symm).1;omega),BlkW.grown h.2.2.1 hg (fun e=>by have:=(h.2.2.2.lt _ e.symm).1;omega),?_⟩
 rw [RowG.cellsAll_app,List.length_append]
 exact ho
theorem KW.appL {w:World} {ta:Option Addr} {tl tc:Nat} {P L:List ByteArray} {bv:Value} {W W':World} {v':Value} (h:KW w ta tl tc P bv W) (ho:W'.ownsRow (w.heap.size+3) 9 1 v' (P.length+L.length) (cellsAll tcells P++cellsAll tcells L)) (hg:W.grownBy W' bv.ownBlock):KW w ta tl tc (P++L) v' W':=by
 refine ⟨h.1.grown hg h.1.size (fun c hc=>by have:=(h.2.2.2.lt c hc).1;omega),BlkW.grown h.2.1 hg (fun e=>by have:=(h.2.2.2.lt _ e.symm).1;omega),BlkW.grown h.2.2.1 hg (fun e=>by have:=(h.2.2.2.lt _ e.symm).1;omega),?_⟩
 rw [show cellsAll tcells (P++L)=cellsAll tcells P++cellsAll tcells L by simp [cellsAll],List.length_append]
 exact ho
theorem KW.nil {w:World} {ta:Option Addr} {tl tc:Nat} {P:List ByteArray} {bv:Value} {W:World} (h:KW w ta tl tc P bv W):KW w ta tl tc (P ++ []) bv W:=by rw [List.append_nil];exact h
theorem tgs_src {b off:Nat} {L:List ByteArray} {w W:World} (h:Tgs (some ⟨b,off,none⟩) L w) (hW:Below w.heap.size w W):∀j u,(cellsAll tcells L)[j]? = some u→W.cell? ((⟨b,off,none⟩:Addr).add j)=some u:=by
 intro j u hj
 have h2:=rws_sub (i:=0) (n:=L.length) t_len (h.below hW) j u (by simpa using hj)
 rw [Nat.zero_mul,Nat.add_zero] at h2
 exact h2
theorem tmeet (x y:ByteArray) (w:World):Calls Tryd.prog 61 #[.string x,.string y] w fun e w'=>e=.returned (.string x)∧w'=w:=by
 go_enter Tryd.func61,Tryd.ntmps61
 go_wp2
 go_ret
 exact ⟨rfl,rfl⟩
theorem nanS (x:ByteArray) (w:World):Calls Tryd.prog 80 #[.string x] w fun e w'=>e=.returned (.bool false)∧w'=w:=by
 go_enter Tryd.func80,Tryd.ntmps80
 go_wp2
 go_ret
 exact ⟨by simp,rfl⟩
def cmpT (x y:ByteArray):Int:=if lt x y=true then -1 else if lt y x=true then 1 else 0
theorem cmpS (x y:ByteArray) (w:World):Calls Tryd.prog 72 #[.string x,.string y] w fun e w'=>e=.returned (.int .i64 (cmpT x y))∧w'=w:=by
 have HN:=H_ nanS
 unfold cmpT lt
 cases h1:Op.bytesLess x.toList y.toList
 ·cases h2:Op.bytesLess y.toList x.toList
  ·obtain rfl:x=y:=toList_inj (bl_total h1 h2)
   have he:(x.toList==x.toList)=true:=by simp
   go_enter Tryd.func72,Tryd.ntmps72
   go_wp2_with (first|(go_at_call 80;refine (HN.out _ _).mono ?_;rintro e w' ⟨rfl,rfl⟩))
   go_ret
   exact ⟨by first|rfl|simp,rfl⟩
  ·have he:(x.toList==y.toList)=false:=by
    cases h:(x.toList==y.toList)
    ·rfl
    ·rw [beq_iff_eq.1 h,bl_irrefl] at h2;cases h2
   go_enter Tryd.func72,Tryd.ntmps72
   go_wp2_with (first|(go_at_call 80;refine (HN.out _ _).mono ?_;rintro e w' ⟨rfl,rfl⟩))
   go_ret
   exact ⟨by first|rfl|simp,rfl⟩
 ·go_enter Tryd.func72,Tryd.ntmps72
  go_wp2_with (first|(go_at_call 80;refine (HN.out _ _).mono ?_;rintro e w' ⟨rfl,rfl⟩))
  go_ret
  exact ⟨by first|rfl|simp,rfl⟩
set_option maxRecDepth 100000 in
set_option maxHeartbeats 16000000 in
theorem with_tags (A0 B0:List ByteArray) (ta tb:Option Addr) (tc tb2:Nat) (w:World) (hlen:A0.length+B0.length≤1048575) (sa:SlOk ta A0.length tc) (sb:SlOk tb B0.length tb2) (hA:Tgs ta A0 w) (hB:Tgs tb B0 w) :
 Calls Tryd.prog 42 #[.agg #[.slice ta A0.length tc,.func (.func 60) #[] #[],.func (.func 61) #[] #[]],.agg #[.slice tb B0.length tb2,.func (.func 60) #[] #[],.func (.func 61) #[] #[]]] w fun e w'=>∃ao c,e=.returned (.agg #[.slice ao (mrg lt fstT A0 B0).length c,.func (.func 60) #[] #[],.func (.func 61) #[] #[]])∧Tgs ao (mrg lt fstT A0 B0) w'∧((mrg lt fstT A0 B0).length=0∨∀b off,ao=some ⟨b,off,none⟩→w.heap.size≤b)∧Below w.heap.size w w':=by
 obtain ⟨i0,hi,hz0,hz1,hz2⟩:=info_parts infoT
 have HLA:Hid (Lst w (.slice ta A0.length tc) A0):=H_ ⟨_,_,rfl,sa,hA⟩
 have HLB:Hid (Lst w (.slice tb B0.length tb2) B0):=H_ ⟨_,_,rfl,sb,hB⟩
 have HKEY:=H_ tkey
 have HCMP:=H_ cmpS
 obtain ⟨R,hR⟩:∃R,R=mrg lt fstT A0 B0:=⟨_,rfl⟩
 have HM0:Hid ([]++mrg lt fstT A0 B0=R):=H_ hR.symm
 rw [←hR]
 clear hR
 obtain ⟨tl,htl⟩:∃tl,tl=A0.length:=⟨_,rfl⟩
 obtain ⟨bl,hbl⟩:∃bl,bl=B0.length:=⟨_,rfl⟩
 have HTL:=H_ htl
 have HBL:=H_ hbl
 rw [←htl] at HLA ⊢
 rw [←hbl] at HLB ⊢
 clear htl hbl sa sb hA hB
 obtain ⟨W0,hW0⟩:∃W0,W0=((w.alloc (.cells #[.slice ta tl tc,.func (.func 60) #[] #[],.func (.func 61) #[] #[]] 48)).alloc (.cells #[.slice tb bl tb2,.func (.func 60) #[] #[],.func (.func 61) #[] #[]] 48)).alloc (.cells #[.slice none 0 0,.nilFunc,.nilFunc] 48):=⟨_,rfl⟩
 have HW0:=H_ hW0
 have HK0:Hid (KW w ta tl tc [] (.slice none 0 0) W0):=H_ (by
  rw [hW0]
  refine ⟨(((Below.refl _ _).alloc (Nat.le_refl _) _).alloc (by simp) _).alloc (by simp;omega) _,((BlkW.new w [.slice ta tl tc,.func (.func 60) #[] #[],.func (.func 61) #[] #[]] 48).below (al _ _)).below (al _ _),?_,World.ownsRow_nil _ _ _ _⟩
  have h:=BlkW.new ((w.alloc (.cells #[.slice ta tl tc,.func (.func 60) #[] #[],.func (.func 61) #[] #[]] 48)).alloc (.cells #[.slice tb bl tb2,.func (.func 60) #[] #[],.func (.func 61) #[] #[]] 48)) [.slice none 0 0,.nilFunc,.nilFunc] 48
  rw [show ((w.alloc (.cells #[.slice ta tl tc,.func (.func 60) #[] #[],.func (.func 61) #[] #[]] 48)).alloc (.cells #[.slice tb bl tb2,.func (.func 60) #[] #[],.func (.func 61) #[] #[]] 48)).heap.size=w.heap.size+2 by simp] at h
  exact h)
 have HY0:Hid (Blk (w.heap.size+1) [.slice tb bl tb2,.func (.func 60) #[] #[],.func (.func 61) #[] #[]] W0):=H_ (by
  have h:=Blk.new (w.alloc (.cells #[.slice ta tl tc,.func (.func 60) #[] #[],.func (.func 61) #[] #[]] 48)) [.slice tb bl tb2,.func (.func 60) #[] #[],.func (.func 61) #[] #[]] 48
  rw [show (w.alloc (.cells #[.slice ta tl tc,.func (.func 60) #[] #[],.func (.func 61) #[] #[]] 48)).heap.size=w.heap.size+1 by simp] at h
  rw [hW0]
  exact h.below (al _ _))
 clear hW0
 go_enter Tryd.func42,Tryd.ntmps42
 go_wp2_with fail
 rw [←HW0.out]
 have x0:W0.cell? ⟨w.heap.size,0,none⟩=some (.slice ta tl tc):=HK0.out.2.1.1.2 0 (by simp)
 have y0:W0.cell? ⟨w.heap.size+1,0,none⟩=some (.slice tb bl tb2):=HY0.out.2 0 (by simp)
 have xl:=HK0.out.2.1.1.1
 have yl:=HY0.out.1
 go_quiet (fail)
 go_wp2_with fail
 obtain ⟨W1,hW1⟩:∃W1,W1=W0.drewN nq:=⟨_,rfl⟩
 rw [←hW1]
 have HK1:Hid (KW w ta tl tc [] (.slice none 0 0) W1):=H_ (by rw [hW1];exact @KW.below w ta tl tc _ _ _ _ HK0.out (bdN2 (Below.refl _ _) _))
 clear hW1 HK0 HY0 HW0 x0 y0 xl yl
 go_loopw [5,6,7] (fun bv lv rv wr=>∃(P L Q:List ByteArray),Hid (Lst w lv L)∧Hid (Lst w rv Q)∧P.length+L.length+Q.length≤1048575∧Hid (P++mrg lt fstT L Q=R)∧Hid (KW w ta tl tc P bv wr)) (fun _ lv rv _=>slen lv+slen rv)
 case atStart=>exact ⟨[],A0,B0,HLA,HLB,by simp;exact hlen,HM0,HK1⟩
 case round =>
  clear HLA HLB HM0 HK1
  obtain ⟨P,L,Q,HL,HQ,hN,HR,HK⟩:=hrel
  obtain ⟨bv,hbv⟩:∃bv,bv=u5:=⟨_,rfl⟩
  subst hbv
  obtain ⟨la,lc,rfl,sl,hl⟩:=HL.out
  obtain ⟨ra,rc,rfl,sr,hr⟩:=HQ.out
  cases L with
  | nil =>
   have HRR:Hid (P ++ []++Q=R):=H_ (by rw [←HR.out,List.append_nil];simp [mrg])
   have HTL1x:=H_ hl
   have HTRx:=H_ hr
   obtain ⟨rl,hrl⟩:∃rl,rl=Q.length:=⟨_,rfl⟩
   have HRn:=H_ hrl
   have HLn:Hid (0=0):=H_ rfl
   simp only [List.length_nil] at hN sl ⊢
   rw [←hrl] at hN sr ⊢
   clear HL HQ hl hr hrl
   rcases sl with ⟨rfl,_,rfl⟩|⟨b,off,rfl,n1,n2⟩
   ·rcases sr with ⟨rfl,hr0,rfl⟩|⟨b2,off2,rfl,m1,m2⟩
    ·subst hr0
     obtain rfl:Q=[]:=List.length_eq_zero_iff.1 HRn.out.symm
     have HKe:=HK
     rw [show P=R from by rw [←HRR.out];simp] at HKe
     have ho:=HKe.out.2.2.2
     obtain ⟨ao,cp,rfl,hm⟩:=own_made (z:=tz) t_len ho
     have HM:=H_ hm
     have HNE:Hid (R.length=0∨∀b off,ao=some ⟨b,off,none⟩→w.heap.size+3≤b):=H_ (by
      rcases hm.own with h0|⟨g,e1,e2,_⟩
      ·exact .inl h0
      ·exact .inr (fun b off q=>by rw [e1] at q;simp at q;omega))
     clear hm ho
     obtain ⟨⟨xl,xk⟩,xf⟩:=HKe.out.2.1
     have x0:wr.cell? ⟨w.heap.size,0,none⟩=some (.slice ta tl tc):=xk 0 (by simp)
     have x1:wr.cell? ⟨w.heap.size,1,none⟩=some (.func (.func 60) #[] #[]):=xk 1 (by simp)
     have x2:wr.cell? ⟨w.heap.size,2,none⟩=some (.func (.func 61) #[] #[]):=xk 2 (by simp)
     have xf0:wr.frozen? ⟨w.heap.size,0,none⟩=false:=xf 0 (by simp)
     obtain ⟨⟨zl,zk⟩,zf⟩:=HKe.out.2.2.1
     have z0:wr.cell? ⟨w.heap.size+2,0,none⟩=some (.slice none 0 0):=zk 0 (by simp)
     have z1:wr.cell? ⟨w.heap.size+2,1,none⟩=some .nilFunc:=zk 1 (by simp)
     have z2:wr.cell? ⟨w.heap.size+2,2,none⟩=some .nilFunc:=zk 2 (by simp)
     have zf0:wr.frozen? ⟨w.heap.size+2,0,none⟩=false:=zf 0 (by simp)
     have zf1:wr.frozen? ⟨w.heap.size+2,1,none⟩=false:=zf 1 (by simp)
     have zf2:wr.frozen? ⟨w.heap.size+2,2,none⟩=false:=zf 2 (by simp)
     clear xk xf zk zf
     go_wp2_with (at_builtin;refine wpList_append_own_none rfl _ _ 23 rfl (w.heap.size+3) 9 i0 1 Tryd.underlying23 hi _ _ _ rfl HKe.out.2.2.2 rfl ?_)
     refine bodyPost_ret (v:=.agg #[.slice ao R.length cp,.func (.func 60) #[] #[],.func (.func 61) #[] #[]]) (by simp [results,Tryd.results42,go_sem,z0,z1,z2]) rfl ?_
     have q3:R.length=0∨∀b off,ao=some ⟨b,off,none⟩→w.heap.size≤b:=HNE.out.imp id (fun h b off e=>by have:=h b off e;omega)
     first|refine ⟨ao,⟨cp,rfl⟩,?_,(by first|exact q3|simpa using q3),?_⟩|refine ⟨ao,cp,rfl,?_,(by first|exact q3|simpa using q3),?_⟩
     ·have q0:R.length=0∨∀b off,ao=some ⟨b,off,none⟩→b≠w.heap.size:=HNE.out.imp id (fun h b off e=>by have:=h b off e;omega)
      have q2:R.length=0∨∀b off,ao=some ⟨b,off,none⟩→b≠w.heap.size+1+1:=HNE.out.imp id (fun h b off e=>by have:=h b off e;omega)
      exact (Rws.put (Rws.put (Rws.put (Rws.put HM.out.rws w.heap.size 0 (.slice ao R.length cp) q0) (w.heap.size+1+1) 0 (.slice ao R.length cp) q2) (w.heap.size+1+1) 1 (.func (.func 60) #[] #[]) q2) (w.heap.size+1+1) 2 (.func (.func 61) #[] #[]) q2)
     ·have hb2:w.heap.size≤w.heap.size+1+1:=by omega
      exact ((((HKe.out.1.setCell (Nat.le_refl _) _).setCell hb2 _).setCell hb2 _).setCell hb2 _)
    ·have HTR1:=H_ HTRx.out
     clear HTRx
     unfold maxLen at m2
     go_wp2_with (first|(at_builtin;refine wpList_append_own_none rfl _ _ 23 rfl (w.heap.size+3) 9 i0 1 Tryd.underlying23 hi _ _ _ rfl HK.out.2.2.2 rfl ?_)|(at_builtin;refine wpList_append_own _ rfl _ _ 23 rfl (w.heap.size+3) 9 i0 (.string ⟨#[]⟩) 1 16 Tryd.underlying23 hi hz0 hz1 hz2 rfl (by decide) _ _ _ rfl HK.out.2.2.2 ⟨b2,off2,none⟩ rl rc (cellsAll tcells Q) rfl ?l0 ?d0 ?e0 ?f0 ?g0 ?s0 ?_))
     case l0=>first|rfl|(rw [cellsAll_len t_len];first|rfl|(have:=HLn.out;simp;omega)|(have:=HRn.out;simp;omega))
     case d0=>exact fun j u hj=>by have h:=tgs_src HTR1.out HK.out.1 j u hj;first|exact h|(rw [Addr.add_lit] at h;exact h)
     case e0=>exact t_one _
     case f0=>unfold maxLen;have:=HLn.out;have:=HRn.out;(try simp only [List.length_append,List.length_cons,List.length_nil]);omega
     case g0=>have:=HLn.out;have:=HRn.out;(try simp only [List.length_append,List.length_cons,List.length_nil]);omega
     case s0=>have:=HK.out.2.2.1.1.1;omega
     intro v0 w0 hown hgrow hne
     have HK0:Hid (KW w ta tl tc (P++Q) v0 w0):=H_ (@KW.appL w ta tl tc _ _ _ _ _ _ HK.out (by first|exact hown|simpa using hown|(have h:=hown;rw [HLn.out] at h;exact h)|(have h:=hown;rw [HRn.out] at h;exact h)|(have h:=hown;rw [HLn.out] at h;simpa using h)|(have h:=hown;rw [HRn.out] at h;simpa using h)) hgrow)
     clear hown hgrow hne
     have HKe:=HK0
     rw [show P++Q=R from by rw [←HRR.out];simp] at HKe
     clear HK0
     have ho:=HKe.out.2.2.2
     obtain ⟨ao,cp,rfl,hm⟩:=own_made (z:=tz) t_len ho
     have HM:=H_ hm
     have HNE:Hid (R.length=0∨∀b off,ao=some ⟨b,off,none⟩→w.heap.size+3≤b):=H_ (by
      rcases hm.own with h0|⟨g,e1,e2,_⟩
      ·exact .inl h0
      ·exact .inr (fun b off q=>by rw [e1] at q;simp at q;omega))
     clear hm ho
     obtain ⟨⟨xl,xk⟩,xf⟩:=HKe.out.2.1
     have x0:w0.cell? ⟨w.heap.size,0,none⟩=some (.slice ta tl tc):=xk 0 (by simp)
     have x1:w0.cell? ⟨w.heap.size,1,none⟩=some (.func (.func 60) #[] #[]):=xk 1 (by simp)
     have x2:w0.cell? ⟨w.heap.size,2,none⟩=some (.func (.func 61) #[] #[]):=xk 2 (by simp)
     have xf0:w0.frozen? ⟨w.heap.size,0,none⟩=false:=xf 0 (by simp)
     obtain ⟨⟨zl,zk⟩,zf⟩:=HKe.out.2.2.1
     have z0:w0.cell? ⟨w.heap.size+2,0,none⟩=some (.slice none 0 0):=zk 0 (by simp)
     have z1:w0.cell? ⟨w.heap.size+2,1,none⟩=some .nilFunc:=zk 1 (by simp)
     have z2:w0.cell? ⟨w.heap.size+2,2,none⟩=some .nilFunc:=zk 2 (by simp)
     have zf0:w0.frozen? ⟨w.heap.size+2,0,none⟩=false:=zf 0 (by simp)
     have zf1:w0.frozen? ⟨w.heap.size+2,1,none⟩=false:=zf 1 (by simp)
     have zf2:w0.frozen? ⟨w.heap.size+2,2,none⟩=false:=zf 2 (by simp)
     clear xk xf zk zf
     go_wp2_with fail
     refine bodyPost_ret (v:=.agg #[.slice ao R.length cp,.func (.func 60) #[] #[],.func (.func 61) #[] #[]]) (by simp [results,Tryd.results42,go_sem,z0,z1,z2]) rfl ?_
     have q3:R.length=0∨∀b off,ao=some ⟨b,off,none⟩→w.heap.size≤b:=HNE.out.imp id (fun h b off e=>by have:=h b off e;omega)
     first|refine ⟨ao,⟨cp,rfl⟩,?_,(by first|exact q3|simpa using q3),?_⟩|refine ⟨ao,cp,rfl,?_,(by first|exact q3|simpa using q3),?_⟩
     ·have q0:R.length=0∨∀b off,ao=some ⟨b,off,none⟩→b≠w.heap.size:=HNE.out.imp id (fun h b off e=>by have:=h b off e;omega)
      have q2:R.length=0∨∀b off,ao=some ⟨b,off,none⟩→b≠w.heap.size+1+1:=HNE.out.imp id (fun h b off e=>by have:=h b off e;omega)
      exact (Rws.put (Rws.put (Rws.put (Rws.put HM.out.rws w.heap.size 0 (.slice ao R.length cp) q0) (w.heap.size+1+1) 0 (.slice ao R.length cp) q2) (w.heap.size+1+1) 1 (.func (.func 60) #[] #[]) q2) (w.heap.size+1+1) 2 (.func (.func 61) #[] #[]) q2)
     ·have hb2:w.heap.size≤w.heap.size+1+1:=by omega
      exact ((((HKe.out.1.setCell (Nat.le_refl _) _).setCell hb2 _).setCell hb2 _).setCell hb2 _)
   ·have HTL1:=H_ HTL1x.out
    unfold maxLen at n2
    rcases sr with ⟨rfl,hr0,rfl⟩|⟨b2,off2,rfl,m1,m2⟩
    ·subst hr0
     obtain rfl:Q=[]:=List.length_eq_zero_iff.1 HRn.out.symm
     go_wp2_with (at_builtin;refine wpList_append_own _ rfl _ _ 23 rfl (w.heap.size+3) 9 i0 (.string ⟨#[]⟩) 1 16 Tryd.underlying23 hi hz0 hz1 hz2 rfl (by decide) _ _ _ rfl HK.out.2.2.2 ⟨b,off,none⟩ 0 lc (cellsAll tcells []) rfl ?l0 ?d0 ?e0 ?f0 ?g0 ?s0 ?_)
     case l0=>first|rfl|(rw [cellsAll_len t_len];first|rfl|(have:=HLn.out;simp;omega)|(have:=HRn.out;simp;omega))
     case d0=>exact fun j u hj=>by have h:=tgs_src HTL1.out HK.out.1 j u hj;first|exact h|(rw [Addr.add_lit] at h;exact h)
     case e0=>exact t_one _
     case f0=>unfold maxLen;have:=HLn.out;have:=HRn.out;(try simp only [List.length_append,List.length_cons,List.length_nil]);omega
     case g0=>have:=HLn.out;have:=HRn.out;(try simp only [List.length_append,List.length_cons,List.length_nil]);omega
     case s0=>have:=HK.out.2.2.1.1.1;omega
     intro v0 w0 hown hgrow hne
     have HK0:Hid (KW w ta tl tc (P ++ []) v0 w0):=H_ (@KW.appL w ta tl tc _ _ _ _ _ _ HK.out (by first|exact hown|simpa using hown|(have h:=hown;rw [HLn.out] at h;exact h)|(have h:=hown;rw [HRn.out] at h;exact h)|(have h:=hown;rw [HLn.out] at h;simpa using h)|(have h:=hown;rw [HRn.out] at h;simpa using h)) hgrow)
     clear hown hgrow hne
     have HKe:=HK0
     rw [show P ++ []=R from by rw [←HRR.out];simp] at HKe
     clear HK0
     have ho:=HKe.out.2.2.2
     obtain ⟨ao,cp,rfl,hm⟩:=own_made (z:=tz) t_len ho
     have HM:=H_ hm
     have HNE:Hid (R.length=0∨∀b off,ao=some ⟨b,off,none⟩→w.heap.size+3≤b):=H_ (by
      rcases hm.own with h0|⟨g,e1,e2,_⟩
      ·exact .inl h0
      ·exact .inr (fun b off q=>by rw [e1] at q;simp at q;omega))
     clear hm ho
     obtain ⟨⟨xl,xk⟩,xf⟩:=HKe.out.2.1
     have x0:w0.cell? ⟨w.heap.size,0,none⟩=some (.slice ta tl tc):=xk 0 (by simp)
     have x1:w0.cell? ⟨w.heap.size,1,none⟩=some (.func (.func 60) #[] #[]):=xk 1 (by simp)
     have x2:w0.cell? ⟨w.heap.size,2,none⟩=some (.func (.func 61) #[] #[]):=xk 2 (by simp)
     have xf0:w0.frozen? ⟨w.heap.size,0,none⟩=false:=xf 0 (by simp)
     obtain ⟨⟨zl,zk⟩,zf⟩:=HKe.out.2.2.1
     have z0:w0.cell? ⟨w.heap.size+2,0,none⟩=some (.slice none 0 0):=zk 0 (by simp)
     have z1:w0.cell? ⟨w.heap.size+2,1,none⟩=some .nilFunc:=zk 1 (by simp)
     have z2:w0.cell? ⟨w.heap.size+2,2,none⟩=some .nilFunc:=zk 2 (by simp)
     have zf0:w0.frozen? ⟨w.heap.size+2,0,none⟩=false:=zf 0 (by simp)
     have zf1:w0.frozen? ⟨w.heap.size+2,1,none⟩=false:=zf 1 (by simp)
     have zf2:w0.frozen? ⟨w.heap.size+2,2,none⟩=false:=zf 2 (by simp)
     clear xk xf zk zf
     go_wp2_with (at_builtin;refine wpList_append_own_none rfl _ _ 23 rfl (w.heap.size+3) 9 i0 1 Tryd.underlying23 hi _ _ _ rfl HKe.out.2.2.2 rfl ?_)
     refine bodyPost_ret (v:=.agg #[.slice ao R.length cp,.func (.func 60) #[] #[],.func (.func 61) #[] #[]]) (by simp [results,Tryd.results42,go_sem,z0,z1,z2]) rfl ?_
     have q3:R.length=0∨∀b off,ao=some ⟨b,off,none⟩→w.heap.size≤b:=HNE.out.imp id (fun h b off e=>by have:=h b off e;omega)
     first|refine ⟨ao,⟨cp,rfl⟩,?_,(by first|exact q3|simpa using q3),?_⟩|refine ⟨ao,cp,rfl,?_,(by first|exact q3|simpa using q3),?_⟩
     ·have q0:R.length=0∨∀b off,ao=some ⟨b,off,none⟩→b≠w.heap.size:=HNE.out.imp id (fun h b off e=>by have:=h b off e;omega)
      have q2:R.length=0∨∀b off,ao=some ⟨b,off,none⟩→b≠w.heap.size+1+1:=HNE.out.imp id (fun h b off e=>by have:=h b off e;omega)
      exact (Rws.put (Rws.put (Rws.put (Rws.put HM.out.rws w.heap.size 0 (.slice ao R.length cp) q0) (w.heap.size+1+1) 0 (.slice ao R.length cp) q2) (w.heap.size+1+1) 1 (.func (.func 60) #[] #[]) q2) (w.heap.size+1+1) 2 (.func (.func 61) #[] #[]) q2)
     ·have hb2:w.heap.size≤w.heap.size+1+1:=by omega
      exact ((((HKe.out.1.setCell (Nat.le_refl _) _).setCell hb2 _).setCell hb2 _).setCell hb2 _)
    ·have HTR1:=H_ HTRx.out
     clear HTRx
     unfold maxLen at m2
     go_wp2_with (at_builtin;refine wpList_append_own _ rfl _ _ 23 rfl (w.heap.size+3) 9 i0 (.string ⟨#[]⟩) 1 16 Tryd.underlying23 hi hz0 hz1 hz2 rfl (by decide) _ _ _ rfl HK.out.2.2.2 ⟨b,off,none⟩ 0 lc (cellsAll tcells []) rfl ?l0 ?d0 ?e0 ?f0 ?g0 ?s0 ?_)
     case l0=>first|rfl|(rw [cellsAll_len t_len];first|rfl|(have:=HLn.out;simp;omega)|(have:=HRn.out;simp;omega))
     case d0=>exact fun j u hj=>by have h:=tgs_src HTL1.out HK.out.1 j u hj;first|exact h|(rw [Addr.add_lit] at h;exact h)
     case e0=>exact t_one _
     case f0=>unfold maxLen;have:=HLn.out;have:=HRn.out;(try simp only [List.length_append,List.length_cons,List.length_nil]);omega
     case g0=>have:=HLn.out;have:=HRn.out;(try simp only [List.length_append,List.length_cons,List.length_nil]);omega
     case s0=>have:=HK.out.2.2.1.1.1;omega
     intro v0 w0 hown hgrow hne
     have HK0:Hid (KW w ta tl tc (P ++ []) v0 w0):=H_ (@KW.appL w ta tl tc _ _ _ _ _ _ HK.out (by first|exact hown|simpa using hown|(have h:=hown;rw [HLn.out] at h;exact h)|(have h:=hown;rw [HRn.out] at h;exact h)|(have h:=hown;rw [HLn.out] at h;simpa using h)|(have h:=hown;rw [HRn.out] at h;simpa using h)) hgrow)
     clear hown hgrow hne
     go_wp2_with (at_builtin;refine wpList_append_own _ rfl _ _ 23 rfl (w.heap.size+3) 9 i0 (.string ⟨#[]⟩) 1 16 Tryd.underlying23 hi hz0 hz1 hz2 rfl (by decide) _ _ _ rfl HK0.out.2.2.2 ⟨b2,off2,none⟩ rl rc (cellsAll tcells Q) rfl ?l1 ?d1 ?e1 ?f1 ?g1 ?s1 ?_)
     case l1=>first|rfl|(rw [cellsAll_len t_len];first|rfl|(have:=HLn.out;simp;omega)|(have:=HRn.out;simp;omega))
     case d1=>exact fun j u hj=>by have h:=tgs_src HTR1.out HK0.out.1 j u hj;first|exact h|(rw [Addr.add_lit] at h;exact h)
     case e1=>exact t_one _
     case f1=>unfold maxLen;have:=HLn.out;have:=HRn.out;(try simp only [List.length_append,List.length_cons,List.length_nil]);omega
     case g1=>have:=HLn.out;have:=HRn.out;(try simp only [List.length_append,List.length_cons,List.length_nil]);omega
     case s1=>have:=HK0.out.2.2.1.1.1;omega
     intro v1 w1 hown hgrow hne
     have HK1:Hid (KW w ta tl tc ((P ++ [])++Q) v1 w1):=H_ (@KW.appL w ta tl tc _ _ _ _ _ _ HK0.out (by first|exact hown|simpa using hown|(have h:=hown;rw [HLn.out] at h;exact h)|(have h:=hown;rw [HRn.out] at h;exact h)|(have h:=hown;rw [HLn.out] at h;simpa using h)|(have h:=hown;rw [HRn.out] at h;simpa using h)) hgrow)
     clear hown hgrow hne
     have HKe:=HK1
     rw [HRR.out] at HKe
     clear HK1
     have ho:=HKe.out.2.2.2
     obtain ⟨ao,cp,rfl,hm⟩:=own_made (z:=tz) t_len ho
     have HM:=H_ hm
     have HNE:Hid (R.length=0∨∀b off,ao=some ⟨b,off,none⟩→w.heap.size+3≤b):=H_ (by
      rcases hm.own with h0|⟨g,e1,e2,_⟩
      ·exact .inl h0
      ·exact .inr (fun b off q=>by rw [e1] at q;simp at q;omega))
     clear hm ho
     obtain ⟨⟨xl,xk⟩,xf⟩:=HKe.out.2.1
     have x0:w1.cell? ⟨w.heap.size,0,none⟩=some (.slice ta tl tc):=xk 0 (by simp)
     have x1:w1.cell? ⟨w.heap.size,1,none⟩=some (.func (.func 60) #[] #[]):=xk 1 (by simp)
     have x2:w1.cell? ⟨w.heap.size,2,none⟩=some (.func (.func 61) #[] #[]):=xk 2 (by simp)
     have xf0:w1.frozen? ⟨w.heap.size,0,none⟩=false:=xf 0 (by simp)
     obtain ⟨⟨zl,zk⟩,zf⟩:=HKe.out.2.2.1
     have z0:w1.cell? ⟨w.heap.size+2,0,none⟩=some (.slice none 0 0):=zk 0 (by simp)
     have z1:w1.cell? ⟨w.heap.size+2,1,none⟩=some .nilFunc:=zk 1 (by simp)
     have z2:w1.cell? ⟨w.heap.size+2,2,none⟩=some .nilFunc:=zk 2 (by simp)
     have zf0:w1.frozen? ⟨w.heap.size+2,0,none⟩=false:=zf 0 (by simp)
     have zf1:w1.frozen? ⟨w.heap.size+2,1,none⟩=false:=zf 1 (by simp)
     have zf2:w1.frozen? ⟨w.heap.size+2,2,none⟩=false:=zf 2 (by simp)
     clear xk xf zk zf
     go_wp2_with fail
     refine bodyPost_ret (v:=.agg #[.slice ao R.length cp,.func (.func 60) #[] #[],.func (.func 61) #[] #[]]) (by simp [results,Tryd.results42,go_sem,z0,z1,z2]) rfl ?_
     have q3:R.length=0∨∀b off,ao=some ⟨b,off,none⟩→w.heap.size≤b:=HNE.out.imp id (fun h b off e=>by have:=h b off e;omega)
     first|refine ⟨ao,⟨cp,rfl⟩,?_,(by first|exact q3|simpa using q3),?_⟩|refine ⟨ao,cp,rfl,?_,(by first|exact q3|simpa using q3),?_⟩
     ·have q0:R.length=0∨∀b off,ao=some ⟨b,off,none⟩→b≠w.heap.size:=HNE.out.imp id (fun h b off e=>by have:=h b off e;omega)
      have q2:R.length=0∨∀b off,ao=some ⟨b,off,none⟩→b≠w.heap.size+1+1:=HNE.out.imp id (fun h b off e=>by have:=h b off e;omega)
      exact (Rws.put (Rws.put (Rws.put (Rws.put HM.out.rws w.heap.size 0 (.slice ao R.length cp) q0) (w.heap.size+1+1) 0 (.slice ao R.length cp) q2) (w.heap.size+1+1) 1 (.func (.func 60) #[] #[]) q2) (w.heap.size+1+1) 2 (.func (.func 61) #[] #[]) q2)
     ·have hb2:w.heap.size≤w.heap.size+1+1:=by omega
      exact ((((HKe.out.1.setCell (Nat.le_refl _) _).setCell hb2 _).setCell hb2 _).setCell hb2 _)
  | cons X L =>
  cases Q with
  | nil =>
   have HRR:Hid (P++(X::L) ++ []=R):=H_ (by rw [←HR.out,List.append_nil];simp [mrg])
   have HTL1x:=H_ hl
   obtain ⟨ll,hll⟩:∃ll,ll=L.length:=⟨_,rfl⟩
   have HLn:=H_ hll
   have HRn:Hid (0=0):=H_ rfl
   simp only [List.length_nil,List.length_cons] at hN sl sr ⊢
   rw [←hll] at hN sl ⊢
   have HTR1x:=H_ hr
   clear HL HQ hl hr hll
   have p1:(0:Int)<((ll+1:Nat):Int):=by omega
   rcases sl with ⟨rfl,h0,_⟩|⟨b,off,rfl,n1,n2⟩
   ·omega
   ·have HTL1:=H_ HTL1x.out
    unfold maxLen at n2
    rcases sr with ⟨rfl,_,rfl⟩|⟨b2,off2,rfl,m1,m2⟩
    ·go_wp2_with (at_builtin;refine wpList_append_own _ rfl _ _ 23 rfl (w.heap.size+3) 9 i0 (.string ⟨#[]⟩) 1 16 Tryd.underlying23 hi hz0 hz1 hz2 rfl (by decide) _ _ _ rfl HK.out.2.2.2 ⟨b,off,none⟩ (ll+1) lc (cellsAll tcells (X::L)) rfl ?l0 ?d0 ?e0 ?f0 ?g0 ?s0 ?_)
     case l0=>first|rfl|(rw [cellsAll_len t_len];first|rfl|(have:=HLn.out;simp;omega)|(have:=HRn.out;simp;omega))
     case d0=>exact fun j u hj=>by have h:=tgs_src HTL1.out HK.out.1 j u hj;first|exact h|(rw [Addr.add_lit] at h;exact h)
     case e0=>exact t_one _
     case f0=>unfold maxLen;have:=HLn.out;have:=HRn.out;(try simp only [List.length_append,List.length_cons,List.length_nil]);omega
     case g0=>have:=HLn.out;have:=HRn.out;(try simp only [List.length_append,List.length_cons,List.length_nil]);omega
     case s0=>have:=HK.out.2.2.1.1.1;omega
     intro v0 w0 hown hgrow hne
     have HK0:Hid (KW w ta tl tc (P++(X::L)) v0 w0):=H_ (@KW.appL w ta tl tc _ _ _ _ _ _ HK.out (by first|exact hown|simpa using hown|(have h:=hown;rw [HLn.out] at h;exact h)|(have h:=hown;rw [HRn.out] at h;exact h)|(have h:=hown;rw [HLn.out] at h;simpa using h)|(have h:=hown;rw [HRn.out] at h;simpa using h)) hgrow)
     clear hown hgrow hne
     have HKe:=HK0
     rw [show P++(X::L)=R from by rw [←HRR.out];simp] at HKe
     clear HK0
     have ho:=HKe.out.2.2.2
     obtain ⟨ao,cp,rfl,hm⟩:=own_made (z:=tz) t_len ho
     have HM:=H_ hm
     have HNE:Hid (R.length=0∨∀b off,ao=some ⟨b,off,none⟩→w.heap.size+3≤b):=H_ (by
      rcases hm.own with h0|⟨g,e1,e2,_⟩
      ·exact .inl h0
      ·exact .inr (fun b off q=>by rw [e1] at q;simp at q;omega))
     clear hm ho
     obtain ⟨⟨xl,xk⟩,xf⟩:=HKe.out.2.1
     have x0:w0.cell? ⟨w.heap.size,0,none⟩=some (.slice ta tl tc):=xk 0 (by simp)
     have x1:w0.cell? ⟨w.heap.size,1,none⟩=some (.func (.func 60) #[] #[]):=xk 1 (by simp)
     have x2:w0.cell? ⟨w.heap.size,2,none⟩=some (.func (.func 61) #[] #[]):=xk 2 (by simp)
     have xf0:w0.frozen? ⟨w.heap.size,0,none⟩=false:=xf 0 (by simp)
     obtain ⟨⟨zl,zk⟩,zf⟩:=HKe.out.2.2.1
     have z0:w0.cell? ⟨w.heap.size+2,0,none⟩=some (.slice none 0 0):=zk 0 (by simp)
     have z1:w0.cell? ⟨w.heap.size+2,1,none⟩=some .nilFunc:=zk 1 (by simp)
     have z2:w0.cell? ⟨w.heap.size+2,2,none⟩=some .nilFunc:=zk 2 (by simp)
     have zf0:w0.frozen? ⟨w.heap.size+2,0,none⟩=false:=zf 0 (by simp)
     have zf1:w0.frozen? ⟨w.heap.size+2,1,none⟩=false:=zf 1 (by simp)
     have zf2:w0.frozen? ⟨w.heap.size+2,2,none⟩=false:=zf 2 (by simp)
     clear xk xf zk zf
     go_wp2_with (at_builtin;refine wpList_append_own_none rfl _ _ 23 rfl (w.heap.size+3) 9 i0 1 Tryd.underlying23 hi _ _ _ rfl HKe.out.2.2.2 rfl ?_)
     refine bodyPost_ret (v:=.agg #[.slice ao R.length cp,.func (.func 60) #[] #[],.func (.func 61) #[] #[]]) (by simp [results,Tryd.results42,go_sem,z0,z1,z2]) rfl ?_
     have q3:R.length=0∨∀b off,ao=some ⟨b,off,none⟩→w.heap.size≤b:=HNE.out.imp id (fun h b off e=>by have:=h b off e;omega)
     first|refine ⟨ao,⟨cp,rfl⟩,?_,(by first|exact q3|simpa using q3),?_⟩|refine ⟨ao,cp,rfl,?_,(by first|exact q3|simpa using q3),?_⟩
     ·have q0:R.length=0∨∀b off,ao=some ⟨b,off,none⟩→b≠w.heap.size:=HNE.out.imp id (fun h b off e=>by have:=h b off e;omega)
      have q2:R.length=0∨∀b off,ao=some ⟨b,off,none⟩→b≠w.heap.size+1+1:=HNE.out.imp id (fun h b off e=>by have:=h b off e;omega)
      exact (Rws.put (Rws.put (Rws.put (Rws.put HM.out.rws w.heap.size 0 (.slice ao R.length cp) q0) (w.heap.size+1+1) 0 (.slice ao R.length cp) q2) (w.heap.size+1+1) 1 (.func (.func 60) #[] #[]) q2) (w.heap.size+1+1) 2 (.func (.func 61) #[] #[]) q2)
     ·have hb2:w.heap.size≤w.heap.size+1+1:=by omega
      exact ((((HKe.out.1.setCell (Nat.le_refl _) _).setCell hb2 _).setCell hb2 _).setCell hb2 _)
    ·have HTR1:=H_ HTR1x.out
     unfold maxLen at m2
     go_wp2_with (at_builtin;refine wpList_append_own _ rfl _ _ 23 rfl (w.heap.size+3) 9 i0 (.string ⟨#[]⟩) 1 16 Tryd.underlying23 hi hz0 hz1 hz2 rfl (by decide) _ _ _ rfl HK.out.2.2.2 ⟨b,off,none⟩ (ll+1) lc (cellsAll tcells (X::L)) rfl ?l0 ?d0 ?e0 ?f0 ?g0 ?s0 ?_)
     case l0=>first|rfl|(rw [cellsAll_len t_len];first|rfl|(have:=HLn.out;simp;omega)|(have:=HRn.out;simp;omega))
     case d0=>exact fun j u hj=>by have h:=tgs_src HTL1.out HK.out.1 j u hj;first|exact h|(rw [Addr.add_lit] at h;exact h)
     case e0=>exact t_one _
     case f0=>unfold maxLen;have:=HLn.out;have:=HRn.out;(try simp only [List.length_append,List.length_cons,List.length_nil]);omega
     case g0=>have:=HLn.out;have:=HRn.out;(try simp only [List.length_append,List.length_cons,List.length_nil]);omega
     case s0=>have:=HK.out.2.2.1.1.1;omega
     intro v0 w0 hown hgrow hne
     have HK0:Hid (KW w ta tl tc (P++(X::L)) v0 w0):=H_ (@KW.appL w ta tl tc _ _ _ _ _ _ HK.out (by first|exact hown|simpa using hown|(have h:=hown;rw [HLn.out] at h;exact h)|(have h:=hown;rw [HRn.out] at h;exact h)|(have h:=hown;rw [HLn.out] at h;simpa using h)|(have h:=hown;rw [HRn.out] at h;simpa using h)) hgrow)
     clear hown hgrow hne
     go_wp2_with (at_builtin;refine wpList_append_own _ rfl _ _ 23 rfl (w.heap.size+3) 9 i0 (.string ⟨#[]⟩) 1 16 Tryd.underlying23 hi hz0 hz1 hz2 rfl (by decide) _ _ _ rfl HK0.out.2.2.2 ⟨b2,off2,none⟩ 0 rc (cellsAll tcells []) rfl ?l1 ?d1 ?e1 ?f1 ?g1 ?s1 ?_)
     case l1=>first|rfl|(rw [cellsAll_len t_len];first|rfl|(have:=HLn.out;simp;omega)|(have:=HRn.out;simp;omega))
     case d1=>exact fun j u hj=>by have h:=tgs_src HTR1.out HK0.out.1 j u hj;first|exact h|(rw [Addr.add_lit] at h;exact h)
     case e1=>exact t_one _
     case f1=>unfold maxLen;have:=HLn.out;have:=HRn.out;(try simp only [List.length_append,List.length_cons,List.length_nil]);omega
     case g1=>have:=HLn.out;have:=HRn.out;(try simp only [List.length_append,List.length_cons,List.length_nil]);omega
     case s1=>have:=HK0.out.2.2.1.1.1;omega
     intro v1 w1 hown hgrow hne
     have HK1:Hid (KW w ta tl tc ((P++(X::L)) ++ []) v1 w1):=H_ (@KW.appL w ta tl tc _ _ _ _ _ _ HK0.out (by first|exact hown|simpa using hown|(have h:=hown;rw [HLn.out] at h;exact h)|(have h:=hown;rw [HRn.out] at h;exact h)|(have h:=hown;rw [HLn.out] at h;simpa using h)|(have h:=hown;rw [HRn.out] at h;simpa using h)) hgrow)
     clear hown hgrow hne
     have HKe:=HK1
     rw [HRR.out] at HKe
     clear HK1
     have ho:=HKe.out.2.2.2
     obtain ⟨ao,cp,rfl,hm⟩:=own_made (z:=tz) t_len ho
     have HM:=H_ hm
     have HNE:Hid (R.length=0∨∀b off,ao=some ⟨b,off,none⟩→w.heap.size+3≤b):=H_ (by
      rcases hm.own with h0|⟨g,e1,e2,_⟩
      ·exact .inl h0
      ·exact .inr (fun b off q=>by rw [e1] at q;simp at q;omega))
     clear hm ho
     obtain ⟨⟨xl,xk⟩,xf⟩:=HKe.out.2.1
     have x0:w1.cell? ⟨w.heap.size,0,none⟩=some (.slice ta tl tc):=xk 0 (by simp)
     have x1:w1.cell? ⟨w.heap.size,1,none⟩=some (.func (.func 60) #[] #[]):=xk 1 (by simp)
     have x2:w1.cell? ⟨w.heap.size,2,none⟩=some (.func (.func 61) #[] #[]):=xk 2 (by simp)
     have xf0:w1.frozen? ⟨w.heap.size,0,none⟩=false:=xf 0 (by simp)
     obtain ⟨⟨zl,zk⟩,zf⟩:=HKe.out.2.2.1
     have z0:w1.cell? ⟨w.heap.size+2,0,none⟩=some (.slice none 0 0):=zk 0 (by simp)
     have z1:w1.cell? ⟨w.heap.size+2,1,none⟩=some .nilFunc:=zk 1 (by simp)
     have z2:w1.cell? ⟨w.heap.size+2,2,none⟩=some .nilFunc:=zk 2 (by simp)
     have zf0:w1.frozen? ⟨w.heap.size+2,0,none⟩=false:=zf 0 (by simp)
     have zf1:w1.frozen? ⟨w.heap.size+2,1,none⟩=false:=zf 1 (by simp)
     have zf2:w1.frozen? ⟨w.heap.size+2,2,none⟩=false:=zf 2 (by simp)
     clear xk xf zk zf
     go_wp2_with fail
     refine bodyPost_ret (v:=.agg #[.slice ao R.length cp,.func (.func 60) #[] #[],.func (.func 61) #[] #[]]) (by simp [results,Tryd.results42,go_sem,z0,z1,z2]) rfl ?_
     have q3:R.length=0∨∀b off,ao=some ⟨b,off,none⟩→w.heap.size≤b:=HNE.out.imp id (fun h b off e=>by have:=h b off e;omega)
     first|refine ⟨ao,⟨cp,rfl⟩,?_,(by first|exact q3|simpa using q3),?_⟩|refine ⟨ao,cp,rfl,?_,(by first|exact q3|simpa using q3),?_⟩
     ·have q0:R.length=0∨∀b off,ao=some ⟨b,off,none⟩→b≠w.heap.size:=HNE.out.imp id (fun h b off e=>by have:=h b off e;omega)
      have q2:R.length=0∨∀b off,ao=some ⟨b,off,none⟩→b≠w.heap.size+1+1:=HNE.out.imp id (fun h b off e=>by have:=h b off e;omega)
      exact (Rws.put (Rws.put (Rws.put (Rws.put HM.out.rws w.heap.size 0 (.slice ao R.length cp) q0) (w.heap.size+1+1) 0 (.slice ao R.length cp) q2) (w.heap.size+1+1) 1 (.func (.func 60) #[] #[]) q2) (w.heap.size+1+1) 2 (.func (.func 61) #[] #[]) q2)
     ·have hb2:w.heap.size≤w.heap.size+1+1:=by omega
      exact ((((HKe.out.1.setCell (Nat.le_refl _) _).setCell hb2 _).setCell hb2 _).setCell hb2 _)
  | cons Y Q =>
   obtain ⟨b,off,rfl,hbl,cx,n1,n2,k1,k2⟩:=Lst.tail sl hl
   obtain ⟨b2,off2,rfl,hb2,cy,m1,m2,j1,j2⟩:=Lst.tail sr hr
   have KL1:=H_ k1
   have KL2:=H_ k2
   have KR1:=H_ j1
   have KR2:=H_ j2
   have HCX:Hid (∀W,Below w.heap.size w W→b<W.heap.size∧W.cell? ⟨b,off,none⟩=some (.string X)):=H_ (fun W hW=>⟨Nat.lt_of_lt_of_le hbl hW.size,(hW.cell (p:=⟨b,off,none⟩) hbl).trans cx⟩)
   have HCY:Hid (∀W,Below w.heap.size w W→b2<W.heap.size∧W.cell? ⟨b2,off2,none⟩=some (.string Y)):=H_ (fun W hW=>⟨Nat.lt_of_lt_of_le hb2 hW.size,(hW.cell (p:=⟨b2,off2,none⟩) hb2).trans cy⟩)
   have HLL:=H_ HL.out
   have HQQ:=H_ HQ.out
   simp only [List.length_cons] at hN HLL HQQ ⊢
   obtain ⟨ll,hll⟩:∃ll,ll=L.length:=⟨_,rfl⟩
   obtain ⟨rl,hrl⟩:∃rl,rl=Q.length:=⟨_,rfl⟩
   have HLn:=H_ hll
   have HRn:=H_ hrl
   rw [←hll] at n1 hN KL2 HLL ⊢
   rw [←hrl] at m1 hN KR2 HQQ ⊢
   clear hll hrl k1 k2 j1 j2 sl sr hl hr HL HQ cx cy hbl hb2
   unfold maxLen at n2 m2
   have sz1:P.length+1≤maxLen:=by unfold maxLen;omega
   have sz2:(P.length+1)*16≤140737488355328:=by omega
   have sz3:0<1:=by omega
   obtain ⟨gx,cX⟩:=HCX.out wr HK.out.1
   obtain ⟨gy,cY⟩:=HCY.out wr HK.out.1
   have p1:(0:Int)<((ll+1:Nat):Int):=by omega
   have p2:(0:Int)<((rl+1:Nat):Int):=by omega
   cases hlt:lt X Y
   ·cases hgt:lt Y X
    ·have hcm:cmpT X Y=0:=by unfold cmpT;rw [hlt,hgt];rfl
     have HMG:Hid (mrg lt fstT (X::L) (Y::Q)=X::mrg lt fstT L Q):=H_ (by rw [mrg,if_neg (by rw [hlt];simp),if_neg (by rw [hgt];simp)];rfl)
     have HC:Hid (∀w,Calls Tryd.prog 72 #[.string X,.string Y] w fun e w'=>e=.returned (.int .i64 (0))∧w'=w):=H_ (fun w=>by have h:=cmpS X Y w;rw [hcm] at h;exact h)
     clear hcm
     try clear hlt
     try clear hgt
     go_wp2_with fail
     go_quiet (fail)
     go_wp2_with fail
     obtain ⟨W1,hW1⟩:∃W1,W1=wr.drewN nq:=⟨_,rfl⟩
     rw [←hW1]
     have HK1:Hid (KW w ta tl tc P bv W1):=H_ (by rw [hW1];exact @KW.below w ta tl tc _ _ _ _ HK.out (bdN2 (Below.refl _ _) _))
     clear hW1 HK gx gy cX cY
     have x1:W1.cell? ⟨w.heap.size,1,none⟩=some (.func (.func 60) #[] #[]):=HK1.out.2.1.1.2 1 (by simp)
     have xl:=HK1.out.2.1.1.1
     go_quiet ((first|(go_at_call 60;exact Calls.quiet_of_same (HKEY.out _ _))|(go_at_call 72;exact Calls.quiet_of_same (HC.out _))))
     go_wp2_with fail
     obtain ⟨W2,hW2⟩:∃W2,W2=W1.drewN nq:=⟨_,rfl⟩
     rw [←hW2]
     have HK2:Hid (KW w ta tl tc P bv W2):=H_ (by rw [hW2];exact @KW.below w ta tl tc _ _ _ _ HK1.out (bdN2 (Below.refl _ _) _))
     clear hW2 HK1 x1 xl HC
     by_cases hlc:lc=1
     ·have hl1:lc=1:=hlc
      obtain rfl:ll=0:=by omega
      subst hl1
      by_cases hrc:rc=1
      ·have hr1:rc=1:=hrc
       obtain rfl:rl=0:=by omega
       subst hr1
       have HS0:Hid (KW w ta tl tc P bv W2.drew):=H_ (@KW.below w ta tl tc _ _ _ _ HK2.out (Below.refl _ _).drew)
       clear HK2
       refine wp_region_held_drew (S:=(fun W=>Below w.heap.size w W∧w.heap.size<W.heap.size∧W.cell? ⟨w.heap.size,2,none⟩=some (.func (.func 61) #[] #[]))) (by kernel_rfl) ⟨HS0.out.1,HS0.out.2.1.1.1,HS0.out.2.1.1.2 2 (by simp)⟩ (fun hHeld=>?_)
       obtain ⟨Wd,hWd⟩:∃Wd,Wd=W2.drew:=⟨_,rfl⟩
       rw [←hWd] at HS0 ⊢
       try rw [←hWd] at hHeld
       clear hWd
       refine tk 0 (⟨some 38,.move (.tmp 5),23,"l07_window.go:74",#[],none⟩) ?_
       refine tk 1 (⟨some 39,.fieldAddr 48 (.tmp 2) 2,0,"l07_window.go:74",#[],none⟩) ?_
       refine tk 2 (⟨some 40,.load 46 (.tmp 39),46,"l07_window.go:74",#[⟨1,.data⟩],none⟩) ?_
       refine tk 3 (⟨some 41,.move (.tmp 8),9,"l07_window.go:74",#[],none⟩) ?_
       refine tk 4 (⟨some 42,.move (.tmp 9),9,"l07_window.go:74",#[],none⟩) ?_
       refine tk 8 (⟨some 46,.move (.tmp 6),23,"l07_window.go:74",#[],none⟩) ?_
       refine tk 9 (⟨some 47,.slice 23 (.tmp 46) (some (.const (Value.int IntKind.i64 1))) none none,23,"l07_window.go:74",#[⟨8,.data⟩],none⟩) ?_
       refine tk 10 (⟨some 48,.move (.tmp 7),23,"l07_window.go:74",#[],none⟩) ?_
       refine tk 11 (⟨some 49,.slice 23 (.tmp 48) (some (.const (Value.int IntKind.i64 1))) none none,23,"l07_window.go:74",#[⟨10,.data⟩],none⟩) ?_
       refine rd 5 (⟨some 43,.call {callee:=Callee.value (.tmp 40),args:=#[.tmp 41,.tmp 42],argTypes:=#[9,9]},9,"l07_window.go:74",#[⟨2,.data⟩,⟨3,.data⟩,⟨4,.data⟩],none⟩) (fun K hK=>?_)
       go_simp
       go_at_call 61
       refine (tmeet X Y _).mono ?_
       rintro e wh ⟨rfl,hwh⟩
       rw [hwh]
       clear hwh wh
       try go_wp2_with fail
       refine hK.out _ _ ⟨HS0.out.1,HS0.out.2.1.1.1,HS0.out.2.1.1.2 2 (by simp)⟩ (fun _=>?_)
       clear hK K
       try simp only [Act.put,SL]
       refine rd 6 (⟨some 44,.buildSlice 23 1 #[(0,.tmp 43)],23,"l07_window.go:74",#[⟨5,.data⟩],none⟩) (fun K hK=>?_)
       go_simp
       try go_wp2_with fail
       have hk2:=@KW.below w ta tl tc _ _ _ _ HS0.out ((Below.refl Wd.heap.size Wd).alloc (Nat.le_refl _) (Obj.cells #[.string X] 9))
       have hz2':=HS0.out.2.1.1.1
       have hz3:=HS0.out.2.2.1.1.1
       refine hK.out _ _ ⟨hk2.1,hk2.2.1.1.1,hk2.2.1.1.2 2 (by simp)⟩ (fun _=>?_)
       clear hK K
       try simp only [Act.put,SL]
       refine rd 7 (⟨some 45,.call {callee:=Callee.builtin Builtin.append,args:=#[.tmp 38,.tmp 44],argTypes:=#[23,23]},23,"l07_window.go:74",#[⟨0,.data⟩,⟨6,.data⟩,⟨5,.chain⟩],none⟩) (fun K hK=>?_)
       refine step_append_own rfl _ _ 23 rfl (w.heap.size+3) 9 i0 (.string ⟨#[]⟩) 1 16 Tryd.underlying23 hi hz0 hz1 hz2 rfl sz3 _ _ _ rfl hk2.2.2.2 ⟨Wd.heap.size,0,none⟩ 1 1 [.string X] rfl rfl (one_cell _ _ _) (one_one _) sz1 sz2 (by simp;omega) ?_
       intro v' w4 hown hgrow hne
       have hk3:KW w ta tl tc (P ++ [X]) v' w4:=@KW.app w ta tl tc _ _ _ _ _ _ hk2 hown hgrow
       refine hK.out _ _ ⟨hk3.1,hk3.2.1.1.1,hk3.2.1.1.2 2 (by simp)⟩ (fun _=>?_)
       clear hK K
       try simp only [Act.put,SL]
       refine tk 12 (⟨some 5,.assign (.tmp 45),23,"l07_window.go:74",#[⟨7,.data⟩,⟨7,.chain⟩,⟨0,.phase⟩,⟨1,.phase⟩,⟨2,.phase⟩,⟨3,.phase⟩,⟨4,.phase⟩,⟨5,.phase⟩,⟨6,.phase⟩,⟨7,.phase⟩,{on:=8,ground:=Ground.textOnly Departure.lateStores},{on:=9,ground:=Ground.textOnly Departure.lateStoresUnsure},{on:=10,ground:=Ground.textOnly Departure.lateStores},{on:=11,ground:=Ground.textOnly Departure.lateStoresUnsure}],none⟩) ?_
       refine tk 13 (⟨some 6,.assign (.tmp 47),23,"l07_window.go:74",#[⟨9,.data⟩,⟨12,.chain⟩,⟨0,.phase⟩,⟨1,.phase⟩,⟨2,.phase⟩,⟨3,.phase⟩,⟨4,.phase⟩,⟨5,.phase⟩,⟨6,.phase⟩,⟨7,.phase⟩,⟨8,.phase⟩,⟨9,.phase⟩,{on:=10,ground:=Ground.textOnly Departure.lateStores},{on:=11,ground:=Ground.textOnly Departure.lateStoresUnsure},⟨12,.phase⟩],none⟩) ?_
       refine tk 14 (⟨some 7,.assign (.tmp 49),23,"l07_window.go:74",#[⟨11,.data⟩,⟨13,.chain⟩,⟨0,.phase⟩,⟨1,.phase⟩,⟨2,.phase⟩,⟨3,.phase⟩,⟨4,.phase⟩,⟨5,.phase⟩,⟨6,.phase⟩,⟨7,.phase⟩,⟨8,.phase⟩,⟨9,.phase⟩,⟨10,.phase⟩,⟨11,.phase⟩,⟨12,.phase⟩,⟨13,.phase⟩],none⟩) ?_
       refine wpAnyH_done (by kernel_rfl) ?_ _
       have HKF:=H_ hk3
       clear hk3 hk2 hown hgrow hne hz2' hz3 HS0
       go_wp2_with fail
       go_roundw
       case rel=>exact ⟨P ++ [X],L,Q,H_ (KL1.out (by first|rfl|trivial)),H_ (KR1.out (by first|rfl|trivial)),by have:=HLn.out;have:=HRn.out;simp;omega,H_ (by rw [←HR.out,List.append_assoc];exact congrArg _ HMG.out.symm),HKF⟩
       case measure=>first|(simp [slen];done)|(simp [slen];omega)
      ·have hr1:(1:Int)≤(rc:Int):=by omega
       have hr2:(1:Int)≤(rl:Int)+1:=by omega
       have HS0:Hid (KW w ta tl tc P bv W2.drew):=H_ (@KW.below w ta tl tc _ _ _ _ HK2.out (Below.refl _ _).drew)
       clear HK2
       refine wp_region_held_drew (S:=(fun W=>Below w.heap.size w W∧w.heap.size<W.heap.size∧W.cell? ⟨w.heap.size,2,none⟩=some (.func (.func 61) #[] #[]))) (by kernel_rfl) ⟨HS0.out.1,HS0.out.2.1.1.1,HS0.out.2.1.1.2 2 (by simp)⟩ (fun hHeld=>?_)
       obtain ⟨Wd,hWd⟩:∃Wd,Wd=W2.drew:=⟨_,rfl⟩
       rw [←hWd] at HS0 ⊢
       try rw [←hWd] at hHeld
       clear hWd
       refine tk 0 (⟨some 38,.move (.tmp 5),23,"l07_window.go:74",#[],none⟩) ?_
       refine tk 1 (⟨some 39,.fieldAddr 48 (.tmp 2) 2,0,"l07_window.go:74",#[],none⟩) ?_
       refine tk 2 (⟨some 40,.load 46 (.tmp 39),46,"l07_window.go:74",#[⟨1,.data⟩],none⟩) ?_
       refine tk 3 (⟨some 41,.move (.tmp 8),9,"l07_window.go:74",#[],none⟩) ?_
       refine tk 4 (⟨some 42,.move (.tmp 9),9,"l07_window.go:74",#[],none⟩) ?_
       refine tk 8 (⟨some 46,.move (.tmp 6),23,"l07_window.go:74",#[],none⟩) ?_
       refine tk 9 (⟨some 47,.slice 23 (.tmp 46) (some (.const (Value.int IntKind.i64 1))) none none,23,"l07_window.go:74",#[⟨8,.data⟩],none⟩) ?_
       refine tk 10 (⟨some 48,.move (.tmp 7),23,"l07_window.go:74",#[],none⟩) ?_
       refine tk 11 (⟨some 49,.slice 23 (.tmp 48) (some (.const (Value.int IntKind.i64 1))) none none,23,"l07_window.go:74",#[⟨10,.data⟩],none⟩) ?_
       refine rd 5 (⟨some 43,.call {callee:=Callee.value (.tmp 40),args:=#[.tmp 41,.tmp 42],argTypes:=#[9,9]},9,"l07_window.go:74",#[⟨2,.data⟩,⟨3,.data⟩,⟨4,.data⟩],none⟩) (fun K hK=>?_)
       go_simp
       go_at_call 61
       refine (tmeet X Y _).mono ?_
       rintro e wh ⟨rfl,hwh⟩
       rw [hwh]
       clear hwh wh
       try go_wp2_with fail
       refine hK.out _ _ ⟨HS0.out.1,HS0.out.2.1.1.1,HS0.out.2.1.1.2 2 (by simp)⟩ (fun _=>?_)
       clear hK K
       try simp only [Act.put,SL]
       refine rd 6 (⟨some 44,.buildSlice 23 1 #[(0,.tmp 43)],23,"l07_window.go:74",#[⟨5,.data⟩],none⟩) (fun K hK=>?_)
       go_simp
       try go_wp2_with fail
       have hk2:=@KW.below w ta tl tc _ _ _ _ HS0.out ((Below.refl Wd.heap.size Wd).alloc (Nat.le_refl _) (Obj.cells #[.string X] 9))
       have hz2':=HS0.out.2.1.1.1
       have hz3:=HS0.out.2.2.1.1.1
       refine hK.out _ _ ⟨hk2.1,hk2.2.1.1.1,hk2.2.1.1.2 2 (by simp)⟩ (fun _=>?_)
       clear hK K
       try simp only [Act.put,SL]
       refine rd 7 (⟨some 45,.call {callee:=Callee.builtin Builtin.append,args:=#[.tmp 38,.tmp 44],argTypes:=#[23,23]},23,"l07_window.go:74",#[⟨0,.data⟩,⟨6,.data⟩,⟨5,.chain⟩],none⟩) (fun K hK=>?_)
       refine step_append_own rfl _ _ 23 rfl (w.heap.size+3) 9 i0 (.string ⟨#[]⟩) 1 16 Tryd.underlying23 hi hz0 hz1 hz2 rfl sz3 _ _ _ rfl hk2.2.2.2 ⟨Wd.heap.size,0,none⟩ 1 1 [.string X] rfl rfl (one_cell _ _ _) (one_one _) sz1 sz2 (by simp;omega) ?_
       intro v' w4 hown hgrow hne
       have hk3:KW w ta tl tc (P ++ [X]) v' w4:=@KW.app w ta tl tc _ _ _ _ _ _ hk2 hown hgrow
       refine hK.out _ _ ⟨hk3.1,hk3.2.1.1.1,hk3.2.1.1.2 2 (by simp)⟩ (fun _=>?_)
       clear hK K
       try simp only [Act.put,SL]
       refine tk 12 (⟨some 5,.assign (.tmp 45),23,"l07_window.go:74",#[⟨7,.data⟩,⟨7,.chain⟩,⟨0,.phase⟩,⟨1,.phase⟩,⟨2,.phase⟩,⟨3,.phase⟩,⟨4,.phase⟩,⟨5,.phase⟩,⟨6,.phase⟩,⟨7,.phase⟩,{on:=8,ground:=Ground.textOnly Departure.lateStores},{on:=9,ground:=Ground.textOnly Departure.lateStoresUnsure},{on:=10,ground:=Ground.textOnly Departure.lateStores},{on:=11,ground:=Ground.textOnly Departure.lateStoresUnsure}],none⟩) ?_
       refine tk 13 (⟨some 6,.assign (.tmp 47),23,"l07_window.go:74",#[⟨9,.data⟩,⟨12,.chain⟩,⟨0,.phase⟩,⟨1,.phase⟩,⟨2,.phase⟩,⟨3,.phase⟩,⟨4,.phase⟩,⟨5,.phase⟩,⟨6,.phase⟩,⟨7,.phase⟩,⟨8,.phase⟩,⟨9,.phase⟩,{on:=10,ground:=Ground.textOnly Departure.lateStores},{on:=11,ground:=Ground.textOnly Departure.lateStoresUnsure},⟨12,.phase⟩],none⟩) ?_
       refine tk 14 (⟨some 7,.assign (.tmp 49),23,"l07_window.go:74",#[⟨11,.data⟩,⟨13,.chain⟩,⟨0,.phase⟩,⟨1,.phase⟩,⟨2,.phase⟩,⟨3,.phase⟩,⟨4,.phase⟩,⟨5,.phase⟩,⟨6,.phase⟩,⟨7,.phase⟩,⟨8,.phase⟩,⟨9,.phase⟩,⟨10,.phase⟩,⟨11,.phase⟩,⟨12,.phase⟩,⟨13,.phase⟩],none⟩) ?_
       refine wpAnyH_done (by kernel_rfl) ?_ _
       have HKF:=H_ hk3
       clear hk3 hk2 hown hgrow hne hz2' hz3 HS0
       go_wp2_with fail
       go_roundw
       case rel=>exact ⟨P ++ [X],L,Q,H_ (KL1.out (by first|rfl|trivial)),H_ (KR2.out hrc),by have:=HLn.out;have:=HRn.out;simp;omega,H_ (by rw [←HR.out,List.append_assoc];exact congrArg _ HMG.out.symm),HKF⟩
       case measure=>first|(simp [slen];done)|(simp [slen];omega)
     ·have hl1:(1:Int)≤(lc:Int):=by omega
      have hl2:(1:Int)≤(ll:Int)+1:=by omega
      by_cases hrc:rc=1
      ·have hr1:rc=1:=hrc
       obtain rfl:rl=0:=by omega
       subst hr1
       have HS0:Hid (KW w ta tl tc P bv W2.drew):=H_ (@KW.below w ta tl tc _ _ _ _ HK2.out (Below.refl _ _).drew)
       clear HK2
       refine wp_region_held_drew (S:=(fun W=>Below w.heap.size w W∧w.heap.size<W.heap.size∧W.cell? ⟨w.heap.size,2,none⟩=some (.func (.func 61) #[] #[]))) (by kernel_rfl) ⟨HS0.out.1,HS0.out.2.1.1.1,HS0.out.2.1.1.2 2 (by simp)⟩ (fun hHeld=>?_)
       obtain ⟨Wd,hWd⟩:∃Wd,Wd=W2.drew:=⟨_,rfl⟩
       rw [←hWd] at HS0 ⊢
       try rw [←hWd] at hHeld
       clear hWd
       refine tk 0 (⟨some 38,.move (.tmp 5),23,"l07_window.go:74",#[],none⟩) ?_
       refine tk 1 (⟨some 39,.fieldAddr 48 (.tmp 2) 2,0,"l07_window.go:74",#[],none⟩) ?_
       refine tk 2 (⟨some 40,.load 46 (.tmp 39),46,"l07_window.go:74",#[⟨1,.data⟩],none⟩) ?_
       refine tk 3 (⟨some 41,.move (.tmp 8),9,"l07_window.go:74",#[],none⟩) ?_
       refine tk 4 (⟨some 42,.move (.tmp 9),9,"l07_window.go:74",#[],none⟩) ?_
       refine tk 8 (⟨some 46,.move (.tmp 6),23,"l07_window.go:74",#[],none⟩) ?_
       refine tk 9 (⟨some 47,.slice 23 (.tmp 46) (some (.const (Value.int IntKind.i64 1))) none none,23,"l07_window.go:74",#[⟨8,.data⟩],none⟩) ?_
       refine tk 10 (⟨some 48,.move (.tmp 7),23,"l07_window.go:74",#[],none⟩) ?_
       refine tk 11 (⟨some 49,.slice 23 (.tmp 48) (some (.const (Value.int IntKind.i64 1))) none none,23,"l07_window.go:74",#[⟨10,.data⟩],none⟩) ?_
       refine rd 5 (⟨some 43,.call {callee:=Callee.value (.tmp 40),args:=#[.tmp 41,.tmp 42],argTypes:=#[9,9]},9,"l07_window.go:74",#[⟨2,.data⟩,⟨3,.data⟩,⟨4,.data⟩],none⟩) (fun K hK=>?_)
       go_simp
       go_at_call 61
       refine (tmeet X Y _).mono ?_
       rintro e wh ⟨rfl,hwh⟩
       rw [hwh]
       clear hwh wh
       try go_wp2_with fail
       refine hK.out _ _ ⟨HS0.out.1,HS0.out.2.1.1.1,HS0.out.2.1.1.2 2 (by simp)⟩ (fun _=>?_)
       clear hK K
       try simp only [Act.put,SL]
       refine rd 6 (⟨some 44,.buildSlice 23 1 #[(0,.tmp 43)],23,"l07_window.go:74",#[⟨5,.data⟩],none⟩) (fun K hK=>?_)
       go_simp
       try go_wp2_with fail
       have hk2:=@KW.below w ta tl tc _ _ _ _ HS0.out ((Below.refl Wd.heap.size Wd).alloc (Nat.le_refl _) (Obj.cells #[.string X] 9))
       have hz2':=HS0.out.2.1.1.1
       have hz3:=HS0.out.2.2.1.1.1
       refine hK.out _ _ ⟨hk2.1,hk2.2.1.1.1,hk2.2.1.1.2 2 (by simp)⟩ (fun _=>?_)
       clear hK K
       try simp only [Act.put,SL]
       refine rd 7 (⟨some 45,.call {callee:=Callee.builtin Builtin.append,args:=#[.tmp 38,.tmp 44],argTypes:=#[23,23]},23,"l07_window.go:74",#[⟨0,.data⟩,⟨6,.data⟩,⟨5,.chain⟩],none⟩) (fun K hK=>?_)
       refine step_append_own rfl _ _ 23 rfl (w.heap.size+3) 9 i0 (.string ⟨#[]⟩) 1 16 Tryd.underlying23 hi hz0 hz1 hz2 rfl sz3 _ _ _ rfl hk2.2.2.2 ⟨Wd.heap.size,0,none⟩ 1 1 [.string X] rfl rfl (one_cell _ _ _) (one_one _) sz1 sz2 (by simp;omega) ?_
       intro v' w4 hown hgrow hne
       have hk3:KW w ta tl tc (P ++ [X]) v' w4:=@KW.app w ta tl tc _ _ _ _ _ _ hk2 hown hgrow
       refine hK.out _ _ ⟨hk3.1,hk3.2.1.1.1,hk3.2.1.1.2 2 (by simp)⟩ (fun _=>?_)
       clear hK K
       try simp only [Act.put,SL]
       refine tk 12 (⟨some 5,.assign (.tmp 45),23,"l07_window.go:74",#[⟨7,.data⟩,⟨7,.chain⟩,⟨0,.phase⟩,⟨1,.phase⟩,⟨2,.phase⟩,⟨3,.phase⟩,⟨4,.phase⟩,⟨5,.phase⟩,⟨6,.phase⟩,⟨7,.phase⟩,{on:=8,ground:=Ground.textOnly Departure.lateStores},{on:=9,ground:=Ground.textOnly Departure.lateStoresUnsure},{on:=10,ground:=Ground.textOnly Departure.lateStores},{on:=11,ground:=Ground.textOnly Departure.lateStoresUnsure}],none⟩) ?_
       refine tk 13 (⟨some 6,.assign (.tmp 47),23,"l07_window.go:74",#[⟨9,.data⟩,⟨12,.chain⟩,⟨0,.phase⟩,⟨1,.phase⟩,⟨2,.phase⟩,⟨3,.phase⟩,⟨4,.phase⟩,⟨5,.phase⟩,⟨6,.phase⟩,⟨7,.phase⟩,⟨8,.phase⟩,⟨9,.phase⟩,{on:=10,ground:=Ground.textOnly Departure.lateStores},{on:=11,ground:=Ground.textOnly Departure.lateStoresUnsure},⟨12,.phase⟩],none⟩) ?_
       refine tk 14 (⟨some 7,.assign (.tmp 49),23,"l07_window.go:74",#[⟨11,.data⟩,⟨13,.chain⟩,⟨0,.phase⟩,⟨1,.phase⟩,⟨2,.phase⟩,⟨3,.phase⟩,⟨4,.phase⟩,⟨5,.phase⟩,⟨6,.phase⟩,⟨7,.phase⟩,⟨8,.phase⟩,⟨9,.phase⟩,⟨10,.phase⟩,⟨11,.phase⟩,⟨12,.phase⟩,⟨13,.phase⟩],none⟩) ?_
       refine wpAnyH_done (by kernel_rfl) ?_ _
       have HKF:=H_ hk3
       clear hk3 hk2 hown hgrow hne hz2' hz3 HS0
       go_wp2_with fail
       go_roundw
       case rel=>exact ⟨P ++ [X],L,Q,H_ (KL2.out hlc),H_ (KR1.out (by first|rfl|trivial)),by have:=HLn.out;have:=HRn.out;simp;omega,H_ (by rw [←HR.out,List.append_assoc];exact congrArg _ HMG.out.symm),HKF⟩
       case measure=>first|(simp [slen];done)|(simp [slen];omega)
      ·have hr1:(1:Int)≤(rc:Int):=by omega
       have hr2:(1:Int)≤(rl:Int)+1:=by omega
       have HS0:Hid (KW w ta tl tc P bv W2.drew):=H_ (@KW.below w ta tl tc _ _ _ _ HK2.out (Below.refl _ _).drew)
       clear HK2
       refine wp_region_held_drew (S:=(fun W=>Below w.heap.size w W∧w.heap.size<W.heap.size∧W.cell? ⟨w.heap.size,2,none⟩=some (.func (.func 61) #[] #[]))) (by kernel_rfl) ⟨HS0.out.1,HS0.out.2.1.1.1,HS0.out.2.1.1.2 2 (by simp)⟩ (fun hHeld=>?_)
       obtain ⟨Wd,hWd⟩:∃Wd,Wd=W2.drew:=⟨_,rfl⟩
       rw [←hWd] at HS0 ⊢
       try rw [←hWd] at hHeld
       clear hWd
       refine tk 0 (⟨some 38,.move (.tmp 5),23,"l07_window.go:74",#[],none⟩) ?_
       refine tk 1 (⟨some 39,.fieldAddr 48 (.tmp 2) 2,0,"l07_window.go:74",#[],none⟩) ?_
       refine tk 2 (⟨some 40,.load 46 (.tmp 39),46,"l07_window.go:74",#[⟨1,.data⟩],none⟩) ?_
       refine tk 3 (⟨some 41,.move (.tmp 8),9,"l07_window.go:74",#[],none⟩) ?_
       refine tk 4 (⟨some 42,.move (.tmp 9),9,"l07_window.go:74",#[],none⟩) ?_
       refine tk 8 (⟨some 46,.move (.tmp 6),23,"l07_window.go:74",#[],none⟩) ?_
       refine tk 9 (⟨some 47,.slice 23 (.tmp 46) (some (.const (Value.int IntKind.i64 1))) none none,23,"l07_window.go:74",#[⟨8,.data⟩],none⟩) ?_
       refine tk 10 (⟨some 48,.move (.tmp 7),23,"l07_window.go:74",#[],none⟩) ?_
       refine tk 11 (⟨some 49,.slice 23 (.tmp 48) (some (.const (Value.int IntKind.i64 1))) none none,23,"l07_window.go:74",#[⟨10,.data⟩],none⟩) ?_
       refine rd 5 (⟨some 43,.call {callee:=Callee.value (.tmp 40),args:=#[.tmp 41,.tmp 42],argTypes:=#[9,9]},9,"l07_window.go:74",#[⟨2,.data⟩,⟨3,.data⟩,⟨4,.data⟩],none⟩) (fun K hK=>?_)
       go_simp
       go_at_call 61
       refine (tmeet X Y _).mono ?_
       rintro e wh ⟨rfl,hwh⟩
       rw [hwh]
       clear hwh wh
       try go_wp2_with fail
       refine hK.out _ _ ⟨HS0.out.1,HS0.out.2.1.1.1,HS0.out.2.1.1.2 2 (by simp)⟩ (fun _=>?_)
       clear hK K
       try simp only [Act.put,SL]
       refine rd 6 (⟨some 44,.buildSlice 23 1 #[(0,.tmp 43)],23,"l07_window.go:74",#[⟨5,.data⟩],none⟩) (fun K hK=>?_)
       go_simp
       try go_wp2_with fail
       have hk2:=@KW.below w ta tl tc _ _ _ _ HS0.out ((Below.refl Wd.heap.size Wd).alloc (Nat.le_refl _) (Obj.cells #[.string X] 9))
       have hz2':=HS0.out.2.1.1.1
       have hz3:=HS0.out.2.2.1.1.1
       refine hK.out _ _ ⟨hk2.1,hk2.2.1.1.1,hk2.2.1.1.2 2 (by simp)⟩ (fun _=>?_)
       clear hK K
       try simp only [Act.put,SL]
       refine rd 7 (⟨some 45,.call {callee:=Callee.builtin Builtin.append,args:=#[.tmp 38,.tmp 44],argTypes:=#[23,23]},23,"l07_window.go:74",#[⟨0,.data⟩,⟨6,.data⟩,⟨5,.chain⟩],none⟩) (fun K hK=>?_)
       refine step_append_own rfl _ _ 23 rfl (w.heap.size+3) 9 i0 (.string ⟨#[]⟩) 1 16 Tryd.underlying23 hi hz0 hz1 hz2 rfl sz3 _ _ _ rfl hk2.2.2.2 ⟨Wd.heap.size,0,none⟩ 1 1 [.string X] rfl rfl (one_cell _ _ _) (one_one _) sz1 sz2 (by simp;omega) ?_
       intro v' w4 hown hgrow hne
       have hk3:KW w ta tl tc (P ++ [X]) v' w4:=@KW.app w ta tl tc _ _ _ _ _ _ hk2 hown hgrow
       refine hK.out _ _ ⟨hk3.1,hk3.2.1.1.1,hk3.2.1.1.2 2 (by simp)⟩ (fun _=>?_)
       clear hK K
       try simp only [Act.put,SL]
       refine tk 12 (⟨some 5,.assign (.tmp 45),23,"l07_window.go:74",#[⟨7,.data⟩,⟨7,.chain⟩,⟨0,.phase⟩,⟨1,.phase⟩,⟨2,.phase⟩,⟨3,.phase⟩,⟨4,.phase⟩,⟨5,.phase⟩,⟨6,.phase⟩,⟨7,.phase⟩,{on:=8,ground:=Ground.textOnly Departure.lateStores},{on:=9,ground:=Ground.textOnly Departure.lateStoresUnsure},{on:=10,ground:=Ground.textOnly Departure.lateStores},{on:=11,ground:=Ground.textOnly Departure.lateStoresUnsure}],none⟩) ?_
       refine tk 13 (⟨some 6,.assign (.tmp 47),23,"l07_window.go:74",#[⟨9,.data⟩,⟨12,.chain⟩,⟨0,.phase⟩,⟨1,.phase⟩,⟨2,.phase⟩,⟨3,.phase⟩,⟨4,.phase⟩,⟨5,.phase⟩,⟨6,.phase⟩,⟨7,.phase⟩,⟨8,.phase⟩,⟨9,.phase⟩,{on:=10,ground:=Ground.textOnly Departure.lateStores},{on:=11,ground:=Ground.textOnly Departure.lateStoresUnsure},⟨12,.phase⟩],none⟩) ?_
       refine tk 14 (⟨some 7,.assign (.tmp 49),23,"l07_window.go:74",#[⟨11,.data⟩,⟨13,.chain⟩,⟨0,.phase⟩,⟨1,.phase⟩,⟨2,.phase⟩,⟨3,.phase⟩,⟨4,.phase⟩,⟨5,.phase⟩,⟨6,.phase⟩,⟨7,.phase⟩,⟨8,.phase⟩,⟨9,.phase⟩,⟨10,.phase⟩,⟨11,.phase⟩,⟨12,.phase⟩,⟨13,.phase⟩],none⟩) ?_
       refine wpAnyH_done (by kernel_rfl) ?_ _
       have HKF:=H_ hk3
       clear hk3 hk2 hown hgrow hne hz2' hz3 HS0
       go_wp2_with fail
       go_roundw
       case rel=>exact ⟨P ++ [X],L,Q,H_ (KL2.out hlc),H_ (KR2.out hrc),by have:=HLn.out;have:=HRn.out;simp;omega,H_ (by rw [←HR.out,List.append_assoc];exact congrArg _ HMG.out.symm),HKF⟩
       case measure=>first|(simp [slen];done)|(simp [slen];omega)
    ·have hcm:cmpT X Y=1:=by unfold cmpT;rw [hlt,hgt];rfl
     have HMG:Hid (mrg lt fstT (X::L) (Y::Q)=Y::mrg lt fstT (X::L) Q):=H_ (by rw [mrg,if_neg (by rw [hlt];simp),if_pos hgt])
     have HC:Hid (∀w,Calls Tryd.prog 72 #[.string X,.string Y] w fun e w'=>e=.returned (.int .i64 (1))∧w'=w):=H_ (fun w=>by have h:=cmpS X Y w;rw [hcm] at h;exact h)
     clear hcm
     try clear hlt
     try clear hgt
     go_wp2_with fail
     go_quiet (fail)
     go_wp2_with fail
     obtain ⟨W1,hW1⟩:∃W1,W1=wr.drewN nq:=⟨_,rfl⟩
     rw [←hW1]
     have HK1:Hid (KW w ta tl tc P bv W1):=H_ (by rw [hW1];exact @KW.below w ta tl tc _ _ _ _ HK.out (bdN2 (Below.refl _ _) _))
     clear hW1 HK gx gy cX cY
     have x1:W1.cell? ⟨w.heap.size,1,none⟩=some (.func (.func 60) #[] #[]):=HK1.out.2.1.1.2 1 (by simp)
     have xl:=HK1.out.2.1.1.1
     go_quiet ((first|(go_at_call 60;exact Calls.quiet_of_same (HKEY.out _ _))|(go_at_call 72;exact Calls.quiet_of_same (HC.out _))))
     go_wp2_with fail
     obtain ⟨W2,hW2⟩:∃W2,W2=W1.drewN nq:=⟨_,rfl⟩
     rw [←hW2]
     have HK2:Hid (KW w ta tl tc P bv W2):=H_ (by rw [hW2];exact @KW.below w ta tl tc _ _ _ _ HK1.out (bdN2 (Below.refl _ _) _))
     clear hW2 HK1 x1 xl HC
     by_cases hrc:rc=1
     ·have hr1:rc=1:=hrc
      obtain rfl:rl=0:=by omega
      subst hr1
      have HS0:Hid (KW w ta tl tc P bv W2.drew):=H_ (@KW.below w ta tl tc _ _ _ _ HK2.out (Below.refl _ _).drew)
      clear HK2
      refine wp_region_held_drew (S:=(fun W=>Below w.heap.size w W∧w.heap.size<W.heap.size∧W.cell? ⟨w.heap.size,2,none⟩=some (.func (.func 61) #[] #[]))) (by kernel_rfl) ⟨HS0.out.1,HS0.out.2.1.1.1,HS0.out.2.1.1.2 2 (by simp)⟩ (fun hHeld=>?_)
      obtain ⟨Wd,hWd⟩:∃Wd,Wd=W2.drew:=⟨_,rfl⟩
      rw [←hWd] at HS0 ⊢
      try rw [←hWd] at hHeld
      clear hWd
      refine tk 0 (⟨some 62,.move (.tmp 5),23,"l07_window.go:72",#[],none⟩) ?_
      refine tk 1 (⟨some 63,.move (.tmp 9),9,"l07_window.go:72",#[],none⟩) ?_
      refine tk 4 (⟨some 66,.move (.tmp 7),23,"l07_window.go:72",#[],none⟩) ?_
      refine tk 5 (⟨some 67,.slice 23 (.tmp 66) (some (.const (Value.int IntKind.i64 1))) none none,23,"l07_window.go:72",#[⟨4,.data⟩],none⟩) ?_
      refine rd 2 (⟨some 64,.buildSlice 23 1 #[(0,.tmp 63)],23,"l07_window.go:72",#[⟨1,.data⟩],none⟩) (fun K hK=>?_)
      go_simp
      try go_wp2_with fail
      have hk2:=@KW.below w ta tl tc _ _ _ _ HS0.out ((Below.refl Wd.heap.size Wd).alloc (Nat.le_refl _) (Obj.cells #[.string Y] 9))
      have hz2':=HS0.out.2.1.1.1
      have hz3:=HS0.out.2.2.1.1.1
      refine hK.out _ _ ⟨hk2.1,hk2.2.1.1.1,hk2.2.1.1.2 2 (by simp)⟩ (fun _=>?_)
      clear hK K
      try simp only [Act.put,SL]
      refine rd 3 (⟨some 65,.call {callee:=Callee.builtin Builtin.append,args:=#[.tmp 62,.tmp 64],argTypes:=#[23,23]},23,"l07_window.go:72",#[⟨0,.data⟩,⟨2,.data⟩],none⟩) (fun K hK=>?_)
      refine step_append_own rfl _ _ 23 rfl (w.heap.size+3) 9 i0 (.string ⟨#[]⟩) 1 16 Tryd.underlying23 hi hz0 hz1 hz2 rfl sz3 _ _ _ rfl hk2.2.2.2 ⟨Wd.heap.size,0,none⟩ 1 1 [.string Y] rfl rfl (one_cell _ _ _) (one_one _) sz1 sz2 (by simp;omega) ?_
      intro v' w4 hown hgrow hne
      have hk3:KW w ta tl tc (P ++ [Y]) v' w4:=@KW.app w ta tl tc _ _ _ _ _ _ hk2 hown hgrow
      refine hK.out _ _ ⟨hk3.1,hk3.2.1.1.1,hk3.2.1.1.2 2 (by simp)⟩ (fun _=>?_)
      clear hK K
      try simp only [Act.put,SL]
      refine tk 6 (⟨some 5,.assign (.tmp 65),23,"l07_window.go:72",#[⟨3,.data⟩,⟨3,.chain⟩,⟨0,.phase⟩,⟨1,.phase⟩,⟨2,.phase⟩,⟨3,.phase⟩,{on:=4,ground:=Ground.textOnly Departure.lateStores},{on:=5,ground:=Ground.textOnly Departure.lateStoresUnsure}],none⟩) ?_
      refine tk 7 (⟨some 7,.assign (.tmp 67),23,"l07_window.go:72",#[⟨5,.data⟩,⟨6,.chain⟩,⟨0,.phase⟩,⟨1,.phase⟩,⟨2,.phase⟩,⟨3,.phase⟩,⟨4,.phase⟩,⟨5,.phase⟩,⟨6,.phase⟩],none⟩) ?_
      refine wpAnyH_done (by kernel_rfl) ?_ _
      have HKF:=H_ hk3
      clear hk3 hk2 hown hgrow hne hz2' hz3 HS0
      go_wp2_with fail
      go_roundw
      case rel=>exact ⟨P ++ [Y],(X::L),Q,HLL,H_ (KR1.out (by first|rfl|trivial)),by have:=HLn.out;have:=HRn.out;simp;omega,H_ (by rw [←HR.out,List.append_assoc];exact congrArg _ HMG.out.symm),HKF⟩
      case measure=>first|(simp [slen];done)|(simp [slen];omega)
     ·have hr1:(1:Int)≤(rc:Int):=by omega
      have hr2:(1:Int)≤(rl:Int)+1:=by omega
      have HS0:Hid (KW w ta tl tc P bv W2.drew):=H_ (@KW.below w ta tl tc _ _ _ _ HK2.out (Below.refl _ _).drew)
      clear HK2
      refine wp_region_held_drew (S:=(fun W=>Below w.heap.size w W∧w.heap.size<W.heap.size∧W.cell? ⟨w.heap.size,2,none⟩=some (.func (.func 61) #[] #[]))) (by kernel_rfl) ⟨HS0.out.1,HS0.out.2.1.1.1,HS0.out.2.1.1.2 2 (by simp)⟩ (fun hHeld=>?_)
      obtain ⟨Wd,hWd⟩:∃Wd,Wd=W2.drew:=⟨_,rfl⟩
      rw [←hWd] at HS0 ⊢
      try rw [←hWd] at hHeld
      clear hWd
      refine tk 0 (⟨some 62,.move (.tmp 5),23,"l07_window.go:72",#[],none⟩) ?_
      refine tk 1 (⟨some 63,.move (.tmp 9),9,"l07_window.go:72",#[],none⟩) ?_
      refine tk 4 (⟨some 66,.move (.tmp 7),23,"l07_window.go:72",#[],none⟩) ?_
      refine tk 5 (⟨some 67,.slice 23 (.tmp 66) (some (.const (Value.int IntKind.i64 1))) none none,23,"l07_window.go:72",#[⟨4,.data⟩],none⟩) ?_
      refine rd 2 (⟨some 64,.buildSlice 23 1 #[(0,.tmp 63)],23,"l07_window.go:72",#[⟨1,.data⟩],none⟩) (fun K hK=>?_)
      go_simp
      try go_wp2_with fail
      have hk2:=@KW.below w ta tl tc _ _ _ _ HS0.out ((Below.refl Wd.heap.size Wd).alloc (Nat.le_refl _) (Obj.cells #[.string Y] 9))
      have hz2':=HS0.out.2.1.1.1
      have hz3:=HS0.out.2.2.1.1.1
      refine hK.out _ _ ⟨hk2.1,hk2.2.1.1.1,hk2.2.1.1.2 2 (by simp)⟩ (fun _=>?_)
      clear hK K
      try simp only [Act.put,SL]
      refine rd 3 (⟨some 65,.call {callee:=Callee.builtin Builtin.append,args:=#[.tmp 62,.tmp 64],argTypes:=#[23,23]},23,"l07_window.go:72",#[⟨0,.data⟩,⟨2,.data⟩],none⟩) (fun K hK=>?_)
      refine step_append_own rfl _ _ 23 rfl (w.heap.size+3) 9 i0 (.string ⟨#[]⟩) 1 16 Tryd.underlying23 hi hz0 hz1 hz2 rfl sz3 _ _ _ rfl hk2.2.2.2 ⟨Wd.heap.size,0,none⟩ 1 1 [.string Y] rfl rfl (one_cell _ _ _) (one_one _) sz1 sz2 (by simp;omega) ?_
      intro v' w4 hown hgrow hne
      have hk3:KW w ta tl tc (P ++ [Y]) v' w4:=@KW.app w ta tl tc _ _ _ _ _ _ hk2 hown hgrow
      refine hK.out _ _ ⟨hk3.1,hk3.2.1.1.1,hk3.2.1.1.2 2 (by simp)⟩ (fun _=>?_)
      clear hK K
      try simp only [Act.put,SL]
      refine tk 6 (⟨some 5,.assign (.tmp 65),23,"l07_window.go:72",#[⟨3,.data⟩,⟨3,.chain⟩,⟨0,.phase⟩,⟨1,.phase⟩,⟨2,.phase⟩,⟨3,.phase⟩,{on:=4,ground:=Ground.textOnly Departure.lateStores},{on:=5,ground:=Ground.textOnly Departure.lateStoresUnsure}],none⟩) ?_
      refine tk 7 (⟨some 7,.assign (.tmp 67),23,"l07_window.go:72",#[⟨5,.data⟩,⟨6,.chain⟩,⟨0,.phase⟩,⟨1,.phase⟩,⟨2,.phase⟩,⟨3,.phase⟩,⟨4,.phase⟩,⟨5,.phase⟩,⟨6,.phase⟩],none⟩) ?_
      refine wpAnyH_done (by kernel_rfl) ?_ _
      have HKF:=H_ hk3
      clear hk3 hk2 hown hgrow hne hz2' hz3 HS0
      go_wp2_with fail
      go_roundw
      case rel=>exact ⟨P ++ [Y],(X::L),Q,HLL,H_ (KR2.out hrc),by have:=HLn.out;have:=HRn.out;simp;omega,H_ (by rw [←HR.out,List.append_assoc];exact congrArg _ HMG.out.symm),HKF⟩
      case measure=>first|(simp [slen];done)|(simp [slen];omega)
   ·have hcm:cmpT X Y=-1:=by unfold cmpT;rw [hlt];rfl
    have HMG:Hid (mrg lt fstT (X::L) (Y::Q)=X::mrg lt fstT L (Y::Q)):=H_ (by rw [mrg,if_pos hlt])
    have HC:Hid (∀w,Calls Tryd.prog 72 #[.string X,.string Y] w fun e w'=>e=.returned (.int .i64 (-1))∧w'=w):=H_ (fun w=>by have h:=cmpS X Y w;rw [hcm] at h;exact h)
    clear hcm
    try clear hlt
    try clear hgt
    go_wp2_with fail
    go_quiet (fail)
    go_wp2_with fail
    obtain ⟨W1,hW1⟩:∃W1,W1=wr.drewN nq:=⟨_,rfl⟩
    rw [←hW1]
    have HK1:Hid (KW w ta tl tc P bv W1):=H_ (by rw [hW1];exact @KW.below w ta tl tc _ _ _ _ HK.out (bdN2 (Below.refl _ _) _))
    clear hW1 HK gx gy cX cY
    have x1:W1.cell? ⟨w.heap.size,1,none⟩=some (.func (.func 60) #[] #[]):=HK1.out.2.1.1.2 1 (by simp)
    have xl:=HK1.out.2.1.1.1
    go_quiet ((first|(go_at_call 60;exact Calls.quiet_of_same (HKEY.out _ _))|(go_at_call 72;exact Calls.quiet_of_same (HC.out _))))
    go_wp2_with fail
    obtain ⟨W2,hW2⟩:∃W2,W2=W1.drewN nq:=⟨_,rfl⟩
    rw [←hW2]
    have HK2:Hid (KW w ta tl tc P bv W2):=H_ (by rw [hW2];exact @KW.below w ta tl tc _ _ _ _ HK1.out (bdN2 (Below.refl _ _) _))
    clear hW2 HK1 x1 xl HC
    by_cases hlc:lc=1
    ·have hl1:lc=1:=hlc
     obtain rfl:ll=0:=by omega
     subst hl1
     have HS0:Hid (KW w ta tl tc P bv W2.drew):=H_ (@KW.below w ta tl tc _ _ _ _ HK2.out (Below.refl _ _).drew)
     clear HK2
     refine wp_region_held_drew (S:=(fun W=>Below w.heap.size w W∧w.heap.size<W.heap.size∧W.cell? ⟨w.heap.size,2,none⟩=some (.func (.func 61) #[] #[]))) (by kernel_rfl) ⟨HS0.out.1,HS0.out.2.1.1.1,HS0.out.2.1.1.2 2 (by simp)⟩ (fun hHeld=>?_)
     obtain ⟨Wd,hWd⟩:∃Wd,Wd=W2.drew:=⟨_,rfl⟩
     rw [←hWd] at HS0 ⊢
     try rw [←hWd] at hHeld
     clear hWd
     refine tk 0 (⟨some 53,.move (.tmp 5),23,"l07_window.go:70",#[],none⟩) ?_
     refine tk 1 (⟨some 54,.move (.tmp 8),9,"l07_window.go:70",#[],none⟩) ?_
     refine tk 4 (⟨some 57,.move (.tmp 6),23,"l07_window.go:70",#[],none⟩) ?_
     refine tk 5 (⟨some 58,.slice 23 (.tmp 57) (some (.const (Value.int IntKind.i64 1))) none none,23,"l07_window.go:70",#[⟨4,.data⟩],none⟩) ?_
     refine rd 2 (⟨some 55,.buildSlice 23 1 #[(0,.tmp 54)],23,"l07_window.go:70",#[⟨1,.data⟩],none⟩) (fun K hK=>?_)
     go_simp
     try go_wp2_with fail
     have hk2:=@KW.below w ta tl tc _ _ _ _ HS0.out ((Below.refl Wd.heap.size Wd).alloc (Nat.le_refl _) (Obj.cells #[.string X] 9))
     have hz2':=HS0.out.2.1.1.1
     have hz3:=HS0.out.2.2.1.1.1
     refine hK.out _ _ ⟨hk2.1,hk2.2.1.1.1,hk2.2.1.1.2 2 (by simp)⟩ (fun _=>?_)
     clear hK K
     try simp only [Act.put,SL]
     refine rd 3 (⟨some 56,.call {callee:=Callee.builtin Builtin.append,args:=#[.tmp 53,.tmp 55],argTypes:=#[23,23]},23,"l07_window.go:70",#[⟨0,.data⟩,⟨2,.data⟩],none⟩) (fun K hK=>?_)
     refine step_append_own rfl _ _ 23 rfl (w.heap.size+3) 9 i0 (.string ⟨#[]⟩) 1 16 Tryd.underlying23 hi hz0 hz1 hz2 rfl sz3 _ _ _ rfl hk2.2.2.2 ⟨Wd.heap.size,0,none⟩ 1 1 [.string X] rfl rfl (one_cell _ _ _) (one_one _) sz1 sz2 (by simp;omega) ?_
     intro v' w4 hown hgrow hne
     have hk3:KW w ta tl tc (P ++ [X]) v' w4:=@KW.app w ta tl tc _ _ _ _ _ _ hk2 hown hgrow
     refine hK.out _ _ ⟨hk3.1,hk3.2.1.1.1,hk3.2.1.1.2 2 (by simp)⟩ (fun _=>?_)
     clear hK K
     try simp only [Act.put,SL]
     refine tk 6 (⟨some 5,.assign (.tmp 56),23,"l07_window.go:70",#[⟨3,.data⟩,⟨3,.chain⟩,⟨0,.phase⟩,⟨1,.phase⟩,⟨2,.phase⟩,⟨3,.phase⟩,{on:=4,ground:=Ground.textOnly Departure.lateStores},{on:=5,ground:=Ground.textOnly Departure.lateStoresUnsure}],none⟩) ?_
     refine tk 7 (⟨some 6,.assign (.tmp 58),23,"l07_window.go:70",#[⟨5,.data⟩,⟨6,.chain⟩,⟨0,.phase⟩,⟨1,.phase⟩,⟨2,.phase⟩,⟨3,.phase⟩,⟨4,.phase⟩,⟨5,.phase⟩,⟨6,.phase⟩],none⟩) ?_
     refine wpAnyH_done (by kernel_rfl) ?_ _
     have HKF:=H_ hk3
     clear hk3 hk2 hown hgrow hne hz2' hz3 HS0
     go_wp2_with fail
     go_roundw
     case rel=>exact ⟨P ++ [X],L,(Y::Q),H_ (KL1.out (by first|rfl|trivial)),HQQ,by have:=HLn.out;have:=HRn.out;simp;omega,H_ (by rw [←HR.out,List.append_assoc];exact congrArg _ HMG.out.symm),HKF⟩
     case measure=>first|(simp [slen];done)|(simp [slen];omega)
    ·have hl1:(1:Int)≤(lc:Int):=by omega
     have hl2:(1:Int)≤(ll:Int)+1:=by omega
     have HS0:Hid (KW w ta tl tc P bv W2.drew):=H_ (@KW.below w ta tl tc _ _ _ _ HK2.out (Below.refl _ _).drew)
     clear HK2
     refine wp_region_held_drew (S:=(fun W=>Below w.heap.size w W∧w.heap.size<W.heap.size∧W.cell? ⟨w.heap.size,2,none⟩=some (.func (.func 61) #[] #[]))) (by kernel_rfl) ⟨HS0.out.1,HS0.out.2.1.1.1,HS0.out.2.1.1.2 2 (by simp)⟩ (fun hHeld=>?_)
     obtain ⟨Wd,hWd⟩:∃Wd,Wd=W2.drew:=⟨_,rfl⟩
     rw [←hWd] at HS0 ⊢
     try rw [←hWd] at hHeld
     clear hWd
     refine tk 0 (⟨some 53,.move (.tmp 5),23,"l07_window.go:70",#[],none⟩) ?_
     refine tk 1 (⟨some 54,.move (.tmp 8),9,"l07_window.go:70",#[],none⟩) ?_
     refine tk 4 (⟨some 57,.move (.tmp 6),23,"l07_window.go:70",#[],none⟩) ?_
     refine tk 5 (⟨some 58,.slice 23 (.tmp 57) (some (.const (Value.int IntKind.i64 1))) none none,23,"l07_window.go:70",#[⟨4,.data⟩],none⟩) ?_
     refine rd 2 (⟨some 55,.buildSlice 23 1 #[(0,.tmp 54)],23,"l07_window.go:70",#[⟨1,.data⟩],none⟩) (fun K hK=>?_)
     go_simp
     try go_wp2_with fail
     have hk2:=@KW.below w ta tl tc _ _ _ _ HS0.out ((Below.refl Wd.heap.size Wd).alloc (Nat.le_refl _) (Obj.cells #[.string X] 9))
     have hz2':=HS0.out.2.1.1.1
     have hz3:=HS0.out.2.2.1.1.1
     refine hK.out _ _ ⟨hk2.1,hk2.2.1.1.1,hk2.2.1.1.2 2 (by simp)⟩ (fun _=>?_)
     clear hK K
     try simp only [Act.put,SL]
     refine rd 3 (⟨some 56,.call {callee:=Callee.builtin Builtin.append,args:=#[.tmp 53,.tmp 55],argTypes:=#[23,23]},23,"l07_window.go:70",#[⟨0,.data⟩,⟨2,.data⟩],none⟩) (fun K hK=>?_)
     refine step_append_own rfl _ _ 23 rfl (w.heap.size+3) 9 i0 (.string ⟨#[]⟩) 1 16 Tryd.underlying23 hi hz0 hz1 hz2 rfl sz3 _ _ _ rfl hk2.2.2.2 ⟨Wd.heap.size,0,none⟩ 1 1 [.string X] rfl rfl (one_cell _ _ _) (one_one _) sz1 sz2 (by simp;omega) ?_
     intro v' w4 hown hgrow hne
     have hk3:KW w ta tl tc (P ++ [X]) v' w4:=@KW.app w ta tl tc _ _ _ _ _ _ hk2 hown hgrow
     refine hK.out _ _ ⟨hk3.1,hk3.2.1.1.1,hk3.2.1.1.2 2 (by simp)⟩ (fun _=>?_)
     clear hK K
     try simp only [Act.put,SL]
     refine tk 6 (⟨some 5,.assign (.tmp 56),23,"l07_window.go:70",#[⟨3,.data⟩,⟨3,.chain⟩,⟨0,.phase⟩,⟨1,.phase⟩,⟨2,.phase⟩,⟨3,.phase⟩,{on:=4,ground:=Ground.textOnly Departure.lateStores},{on:=5,ground:=Ground.textOnly Departure.lateStoresUnsure}],none⟩) ?_
     refine tk 7 (⟨some 6,.assign (.tmp 58),23,"l07_window.go:70",#[⟨5,.data⟩,⟨6,.chain⟩,⟨0,.phase⟩,⟨1,.phase⟩,⟨2,.phase⟩,⟨3,.phase⟩,⟨4,.phase⟩,⟨5,.phase⟩,⟨6,.phase⟩],none⟩) ?_
     refine wpAnyH_done (by kernel_rfl) ?_ _
     have HKF:=H_ hk3
     clear hk3 hk2 hown hgrow hne hz2' hz3 HS0
     go_wp2_with fail
     go_roundw
     case rel=>exact ⟨P ++ [X],L,(Y::Q),H_ (KL2.out hlc),HQQ,by have:=HLn.out;have:=HRn.out;simp;omega,H_ (by rw [←HR.out,List.append_assoc];exact congrArg _ HMG.out.symm),HKF⟩
     case measure=>first|(simp [slen];done)|(simp [slen];omega)
end WinR
end Go.Proofs.YteejpnkmnmoebaaDoor
