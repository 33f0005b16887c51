/-
  Two rising lists of hours laid into one, the program's way: the parts. The conditions: at most 1048575 of both together; a list that is nil has no room, any other room for what it holds; sums that are far from running over.
-/
import Derived.Test.YteejpnkmnmoebaaDoorJ17
namespace Go.Proofs.YteejpnkmnmoebaaDoor
open Go.ChangeShapes Go.WideShapes Go.ChangeAt Go.RowKit
set_option linter.unusedVariables false
set_option linter.unusedSimpArgs false
namespace WinR
open RowG (MadeG Rws cellsAll cellsAll_len cellsAll_get own_made take_more getD_mem)
open CatR (Blk Blk.new)
def LstH (w:World) (v:Value) (L:List H):Prop:=∃ao c,v=.slice ao L.length c∧SlOk ao L.length c∧Hrs ao L w
theorem LstH.tail {w:World} {ao:Option Addr} {c:Nat} {X:H} {L:List H} (hS:SlOk ao (X::L).length c) (h:Hrs ao (X::L) w):∃b off,ao=some ⟨b,off,none⟩∧b<w.heap.size∧w.cell? ⟨b,off,none⟩=some (.int .i64 X.h)∧w.cell? ⟨b,off+1,none⟩=some (.int .i64 X.s)∧L.length+1≤c∧c≤maxLen∧(c=1→LstH w (.slice (some ⟨b,off,none⟩) 0 0) L)∧(¬c=1→LstH w (.slice (some ⟨b,off+2,none⟩) L.length (c-1)) L):=by
 rcases hS with ⟨h0,h1,_⟩|⟨b,off,rfl,h1,h2⟩
 ·simp at h1
 ·obtain ⟨hbl,c0,c1⟩:=Hrs.two h 0 (by simp)
  refine ⟨b,off,rfl,hbl,by simpa using c0,by simpa using c1,by simpa using h1,h2,fun hc=>?_,fun hc=>?_⟩
  ·have:L=[]:=List.length_eq_zero_iff.1 (by simp at h1;omega)
   subst this
   exact ⟨_,_,rfl,.inr ⟨b,off,rfl,Nat.le_refl _,by unfold maxLen;omega⟩,.inl rfl⟩
  ·refine ⟨_,_,rfl,.inr ⟨b,off+2,rfl,by simp at h1;omega,by omega⟩,?_⟩
   rcases h with h|⟨b',off',he,_,hc'⟩
   ·simp at h
   ·simp only [Option.some.injEq,Addr.mk.injEq,and_true] at he
    obtain ⟨rfl,rfl⟩:=he
    refine .inr ⟨b,off+2,rfl,hbl,fun j hj=>?_⟩
    have:=hc' (j+1) (by simpa using hj)
    intro i hi
    have:=this i hi
    simp only [List.getD_cons_succ] at this
    rw [←this]
    congr 2
    omega
def KWH (w:World) (ta:Option Addr) (tl tc:Nat) (P:List H) (bv:Value) (W:World):Prop:=Below w.heap.size w W∧BlkW w.heap.size [.slice ta tl tc,.func (.func 62) #[] #[],.func (.func 63) #[] #[]] W∧BlkW (w.heap.size+2) [.slice none 0 0,.nilFunc,.nilFunc] W∧W.ownsRow (w.heap.size+3) 87 2 bv P.length (cellsAll H.cells P)
theorem KWH.below {w:World} {ta:Option Addr} {tl tc:Nat} {P:List H} {bv:Value} {W W':World} (h:KWH w ta tl tc P bv W) (hb:Below W.heap.size W W'):KWH w ta tl tc P bv W' :=
 ⟨h.1.trans (hb.mono h.1.size),h.2.1.below hb,h.2.2.1.below hb,RowG.own_below h.2.2.2 hb⟩
theorem KWH.put {w:World} {ta:Option Addr} {tl tc:Nat} {P:List H} {bv:Value} {W:World} (h:KWH w ta tl tc P bv W) (B o:Nat) (v:Value) (hB:w.heap.size+3≤B) (hg:∀g,bv.ownBlock=some g→g≠B):KWH w ta tl tc P bv (W.setCell ⟨B,o,none⟩ v) :=
 ⟨h.1.setCell (by show w.heap.size≤B;omega) _,h.2.1.other B o v (by omega),h.2.2.1.other B o v (by omega),RowG.own_set h.2.2.2 B o v hg⟩
theorem KWH.appL {w:World} {ta:Option Addr} {tl tc:Nat} {P L:List H} {bv:Value} {W W':World} {v':Value} (h:KWH w ta tl tc P bv W) (ho:W'.ownsRow (w.heap.size+3) 87 2 v' (P.length+L.length) (cellsAll H.cells P++cellsAll H.cells L)) (hg:W.grownBy W' bv.ownBlock):KWH w ta tl tc (P++L) v' W':=by
 refine ⟨h.1.grown hg h.1.size (fun c hc=>by have:=(h.2.2.2.lt c hc).1;omega),BlkW.grown h.2.1 hg (fun e=>by have:=(h.2.2.2.lt _ e.symm).1;omega),BlkW.grown h.2.2.1 hg (fun e=>by have:=(h.2.2.2.lt _ e.symm).1;omega),?_⟩
 rw [show cellsAll H.cells (P++L)=cellsAll H.cells P++cellsAll H.cells L by simp [cellsAll],List.length_append]
 exact ho
theorem KWH.app {w:World} {ta:Option Addr} {tl tc:Nat} {P:List H} {bv:Value} {W W':World} {x y:Int} {v':Value} (h:KWH w ta tl tc P bv W) (ho:W'.ownsRow (w.heap.size+3) 87 2 v' (P.length+1) (cellsAll H.cells P ++ [.int .i64 x,.int .i64 y])) (hg:W.grownBy W' bv.ownBlock):KWH w ta tl tc (P ++ [⟨x,y⟩]) v' W' :=
 KWH.appL (L:=[⟨x,y⟩]) h (by simpa [cellsAll,H.cells] using ho) hg
theorem KWH.nil {w:World} {ta:Option Addr} {tl tc:Nat} {P:List H} {bv:Value} {W:World} (h:KWH w ta tl tc P bv W):KWH w ta tl tc (P ++ []) bv W:=by rw [List.append_nil];exact h
theorem hrs_src {b off:Nat} {L:List H} {w W:World} (h:Hrs (some ⟨b,off,none⟩) L w) (hW:Below w.heap.size w W):∀j u,(cellsAll H.cells L)[j]? = some u→W.cell? ((⟨b,off,none⟩:Addr).add j)=some u:=by
 intro j u hj
 have h2:=rws_sub (i:=0) (n:=L.length) H.len (h.below hW) j u (by simpa using hj)
 rw [Nat.zero_mul,Nat.add_zero] at h2
 exact h2
theorem hblk_grown {B:Nat} {cs:List Value} {W W':World} {row:Option Nat} (h:Blk B cs W) (hg:W.grownBy W' row) (hne:some B≠row):Blk B cs W' :=
 ⟨by have:=hg.size;have:=h.1;omega,fun j hj=>(World.cell?_of_block (a:=⟨B,j,none⟩) (hg.block B h.1 hne)).trans (h.2 j hj)⟩
theorem K5 {w:World} {ta:Option Addr} {tl tc:Nat} {P:List H} {bv:Value} {W:World} {OB TB:Nat} {xh xs yh ys:Int} (h:KWH w ta tl tc P bv W) (ho:Blk OB [.int .i64 xh,.int .i64 xs] W) (ht:Blk TB [.int .i64 yh,.int .i64 ys] W):Below w.heap.size w W∧w.heap.size<W.heap.size∧OB<W.heap.size∧TB<W.heap.size∧W.cell? ⟨w.heap.size,1,none⟩=some (.func (.func 62) #[] #[])∧W.cell? ⟨w.heap.size,2,none⟩=some (.func (.func 63) #[] #[])∧W.cell? ⟨OB,0,none⟩=some (.int .i64 xh)∧W.cell? ⟨OB,1,none⟩=some (.int .i64 xs)∧W.cell? ⟨TB,0,none⟩=some (.int .i64 yh)∧W.cell? ⟨TB,1,none⟩=some (.int .i64 ys) :=
 ⟨h.1,h.2.1.1.1,ho.1,ht.1,h.2.1.1.2 1 (by simp),h.2.1.1.2 2 (by simp),ho.2 0 (by simp),ho.2 1 (by simp),ht.2 0 (by simp),ht.2 1 (by simp)⟩
set_option maxRecDepth 100000 in
set_option maxHeartbeats 16000000 in
theorem with_hours (A0 B0:List H) (ta tb:Option Addr) (tc tb2:Nat) (w:World) (hlen:A0.length+B0.length≤1048575) (hsa:∀z∈A0,0≤z.s∧z.s≤1000000000000000) (hsb:∀z∈B0,0≤z.s∧z.s≤1000000000000000) (sa:SlOk ta A0.length tc) (sb:SlOk tb B0.length tb2) (hA:Hrs ta A0 w) (hB:Hrs tb B0 w) :
 Calls Tryd.prog 43 #[.agg #[.slice ta A0.length tc,.func (.func 62) #[] #[],.func (.func 63) #[] #[]],.agg #[.slice tb B0.length tb2,.func (.func 62) #[] #[],.func (.func 63) #[] #[]]] w fun e w'=>∃ao c,e=.returned (.agg #[.slice ao (mrg hlt addH A0 B0).length c,.func (.func 62) #[] #[],.func (.func 63) #[] #[]])∧Hrs ao (mrg hlt addH A0 B0) w'∧((mrg hlt addH A0 B0).length=0∨∀b off,ao=some ⟨b,off,none⟩→w.heap.size≤b)∧Below w.heap.size w w':=by
 obtain ⟨i0,hi,hz0,hz1,hz2⟩:=info_parts infoH
 have HLA:Hid (LstH w (.slice ta A0.length tc) A0):=H_ ⟨_,_,rfl,sa,hA⟩
 have HLB:Hid (LstH w (.slice tb B0.length tb2) B0):=H_ ⟨_,_,rfl,sb,hB⟩
 have HSA:=H_ hsa
 have HSB:=H_ hsb
 obtain ⟨R,hR⟩:∃R,R=mrg hlt addH A0 B0:=⟨_,rfl⟩
 have HM0:Hid ([]++mrg hlt addH A0 B0=R):=H_ hR.symm
 rw [←hR]
 clear hR
 obtain ⟨tl,htl⟩:∃tl,tl=A0.length:=⟨_,rfl⟩
 obtain ⟨bl,hbl⟩:∃bl,bl=B0.length:=⟨_,rfl⟩
 rw [←htl] at HLA ⊢
 rw [←hbl] at HLB ⊢
 clear htl hbl sa sb hA hB hsa hsb
 obtain ⟨W0,hW0⟩:∃W0,W0=((w.alloc (.cells #[.slice ta tl tc,.func (.func 62) #[] #[],.func (.func 63) #[] #[]] 52)).alloc (.cells #[.slice tb bl tb2,.func (.func 62) #[] #[],.func (.func 63) #[] #[]] 52)).alloc (.cells #[.slice none 0 0,.nilFunc,.nilFunc] 52):=⟨_,rfl⟩
 have HW0:=H_ hW0
 have HK0:Hid (KWH w ta tl tc [] (.slice none 0 0) W0):=H_ (by
  rw [hW0]
  refine ⟨(((Below.refl _ _).alloc (Nat.le_refl _) _).alloc (by simp) _).alloc (by simp;omega) _,((BlkW.new w [.slice ta tl tc,.func (.func 62) #[] #[],.func (.func 63) #[] #[]] 52).below (al _ _)).below (al _ _),?_,World.ownsRow_nil _ _ _ _⟩
  have h:=BlkW.new ((w.alloc (.cells #[.slice ta tl tc,.func (.func 62) #[] #[],.func (.func 63) #[] #[]] 52)).alloc (.cells #[.slice tb bl tb2,.func (.func 62) #[] #[],.func (.func 63) #[] #[]] 52)) [.slice none 0 0,.nilFunc,.nilFunc] 52
  rw [show ((w.alloc (.cells #[.slice ta tl tc,.func (.func 62) #[] #[],.func (.func 63) #[] #[]] 52)).alloc (.cells #[.slice tb bl tb2,.func (.func 62) #[] #[],.func (.func 63) #[] #[]] 52)).heap.size=w.heap.size+2 by simp] at h
  exact h)
 have HY0:Hid (Blk (w.heap.size+1) [.slice tb bl tb2,.func (.func 62) #[] #[],.func (.func 63) #[] #[]] W0):=H_ (by
  have h:=Blk.new (w.alloc (.cells #[.slice ta tl tc,.func (.func 62) #[] #[],.func (.func 63) #[] #[]] 52)) [.slice tb bl tb2,.func (.func 62) #[] #[],.func (.func 63) #[] #[]] 52
  rw [show (w.alloc (.cells #[.slice ta tl tc,.func (.func 62) #[] #[],.func (.func 63) #[] #[]] 52)).heap.size=w.heap.size+1 by simp] at h
  rw [hW0]
  exact h.below (al _ _))
 clear hW0
 go_enter Tryd.func43,Tryd.ntmps43
 go_wp2_with fail
 rw [←HW0.out]
 have x0:W0.cell? ⟨w.heap.size,0,none⟩=some (.slice ta tl tc):=HK0.out.2.1.1.2 0 (by simp)
 have y0:W0.cell? ⟨w.heap.size+1,0,none⟩=some (.slice tb bl tb2):=HY0.out.2 0 (by simp)
 have xl:=HK0.out.2.1.1.1
 have yl:=HY0.out.1
 go_quiet (fail)
 go_wp2_with fail
 obtain ⟨W1,hW1⟩:∃W1,W1=W0.drewN nq:=⟨_,rfl⟩
 rw [←hW1]
 have HK1:Hid (KWH w ta tl tc [] (.slice none 0 0) W1):=H_ (by rw [hW1];exact @KWH.below w ta tl tc _ _ _ _ HK0.out (bdN2 (Below.refl _ _) _))
 clear hW1 HK0 HY0 HW0 x0 y0 xl yl
 go_loopw [5,6,7] (fun bv lv rv wr=>∃(P L Q:List H),Hid (LstH w lv L)∧Hid (LstH w rv Q)∧P.length+L.length+Q.length≤1048575∧Hid (∀z∈L,0≤z.s∧z.s≤1000000000000000)∧Hid (∀z∈Q,0≤z.s∧z.s≤1000000000000000)∧Hid (P++mrg hlt addH L Q=R)∧Hid (KWH w ta tl tc P bv wr)) (fun _ lv rv _=>slen lv+slen rv)
 case atStart=>exact ⟨[],A0,B0,HLA,HLB,by simp;exact hlen,HSA,HSB,HM0,HK1⟩
 case round =>
  clear HLA HLB HM0 HK1 HSA HSB
  obtain ⟨P,L,Q,HL,HQ,hN,HSL,HSQ,HR,HK⟩:=hrel
  obtain ⟨bv,hbv⟩:∃bv,bv=u5:=⟨_,rfl⟩
  subst hbv
  obtain ⟨la,lc,rfl,sl,hl⟩:=HL.out
  obtain ⟨ra,rc,rfl,sr,hr⟩:=HQ.out
  cases L with
  | nil =>
   have HRR:Hid (P ++ []++Q=R):=H_ (by rw [←HR.out,List.append_nil];simp [mrg])
   have HTL1x:=H_ hl
   have HTRx:=H_ hr
   obtain ⟨rl,hrl⟩:∃rl,rl=Q.length:=⟨_,rfl⟩
   have HRn:=H_ hrl
   have HLn:Hid (0=0):=H_ rfl
   simp only [List.length_nil] at hN sl ⊢
   rw [←hrl] at hN sr ⊢
   clear HL HQ hl hr hrl
   rcases sl with ⟨rfl,_,rfl⟩|⟨b,off,rfl,n1,n2⟩
   ·rcases sr with ⟨rfl,hr0,rfl⟩|⟨b2,off2,rfl,m1,m2⟩
    ·subst hr0
     obtain rfl:Q=[]:=List.length_eq_zero_iff.1 HRn.out.symm
     have HKe:=HK
     rw [show P=R from by rw [←HRR.out];simp] at HKe
     have ho:=HKe.out.2.2.2
     obtain ⟨ao,cp,rfl,hm⟩:=own_made (z:=H.zero) H.len ho
     have HM:=H_ hm
     have HNE:Hid (R.length=0∨∀b off,ao=some ⟨b,off,none⟩→w.heap.size+3≤b):=H_ (by
      rcases hm.own with h0|⟨g,e1,e2,_⟩
      ·exact .inl h0
      ·exact .inr (fun b off q=>by rw [e1] at q;simp at q;omega))
     clear hm ho
     obtain ⟨⟨xl,xk⟩,xf⟩:=HKe.out.2.1
     have x0:wr.cell? ⟨w.heap.size,0,none⟩=some (.slice ta tl tc):=xk 0 (by simp)
     have x1:wr.cell? ⟨w.heap.size,1,none⟩=some (.func (.func 62) #[] #[]):=xk 1 (by simp)
     have x2:wr.cell? ⟨w.heap.size,2,none⟩=some (.func (.func 63) #[] #[]):=xk 2 (by simp)
     have xf0:wr.frozen? ⟨w.heap.size,0,none⟩=false:=xf 0 (by simp)
     obtain ⟨⟨zl,zk⟩,zf⟩:=HKe.out.2.2.1
     have z0:wr.cell? ⟨w.heap.size+2,0,none⟩=some (.slice none 0 0):=zk 0 (by simp)
     have z1:wr.cell? ⟨w.heap.size+2,1,none⟩=some .nilFunc:=zk 1 (by simp)
     have z2:wr.cell? ⟨w.heap.size+2,2,none⟩=some .nilFunc:=zk 2 (by simp)
     have zf0:wr.frozen? ⟨w.heap.size+2,0,none⟩=false:=zf 0 (by simp)
     have zf1:wr.frozen? ⟨w.heap.size+2,1,none⟩=false:=zf 1 (by simp)
     have zf2:wr.frozen? ⟨w.heap.size+2,2,none⟩=false:=zf 2 (by simp)
     clear xk xf zk zf
     go_wp2_with (at_builtin;refine wpList_append_own_none rfl _ _ 24 rfl (w.heap.size+3) 87 i0 2 Tryd.underlying24 hi _ _ _ rfl HKe.out.2.2.2 rfl ?_)
     refine bodyPost_ret (v:=.agg #[.slice ao R.length cp,.func (.func 62) #[] #[],.func (.func 63) #[] #[]]) (by simp [results,Tryd.results43,go_sem,z0,z1,z2]) rfl ?_
     have q3:R.length=0∨∀b off,ao=some ⟨b,off,none⟩→w.heap.size≤b:=HNE.out.imp id (fun h b off e=>by have:=h b off e;omega)
     first|refine ⟨ao,⟨cp,rfl⟩,?_,(by first|exact q3|simpa using q3),?_⟩|refine ⟨ao,cp,rfl,?_,(by first|exact q3|simpa using q3),?_⟩
     ·have q0:R.length=0∨∀b off,ao=some ⟨b,off,none⟩→b≠w.heap.size:=HNE.out.imp id (fun h b off e=>by have:=h b off e;omega)
      have q2:R.length=0∨∀b off,ao=some ⟨b,off,none⟩→b≠w.heap.size+1+1:=HNE.out.imp id (fun h b off e=>by have:=h b off e;omega)
      exact (Rws.put (Rws.put (Rws.put (Rws.put HM.out.rws w.heap.size 0 (.slice ao R.length cp) q0) (w.heap.size+1+1) 0 (.slice ao R.length cp) q2) (w.heap.size+1+1) 1 (.func (.func 62) #[] #[]) q2) (w.heap.size+1+1) 2 (.func (.func 63) #[] #[]) q2)
     ·have hb2:w.heap.size≤w.heap.size+1+1:=by omega
      exact ((((HKe.out.1.setCell (Nat.le_refl _) _).setCell hb2 _).setCell hb2 _).setCell hb2 _)
    ·have HTR1:=H_ HTRx.out
     clear HTRx
     unfold maxLen at m2
     go_wp2_with (first|(at_builtin;refine wpList_append_own_none rfl _ _ 24 rfl (w.heap.size+3) 87 i0 2 Tryd.underlying24 hi _ _ _ rfl HK.out.2.2.2 rfl ?_)|(at_builtin;refine wpList_append_own _ rfl _ _ 24 rfl (w.heap.size+3) 87 i0 (.agg #[.int .i64 0,.int .i64 0]) 2 16 Tryd.underlying24 hi hz0 hz1 hz2 rfl (by decide) _ _ _ rfl HK.out.2.2.2 ⟨b2,off2,none⟩ rl rc (cellsAll H.cells Q) rfl ?l0 ?d0 ?e0 ?f0 ?g0 ?s0 ?_))
     case l0=>first|rfl|(rw [cellsAll_len H.len];first|rfl|(rw [HRn.out];done)|(have:=HLn.out;simp only [List.length_cons];omega)|(have:=HLn.out;simp;omega)|(have:=HRn.out;simp;omega))
     case d0=>exact fun j u hj=>by have h:=hrs_src HTR1.out HK.out.1 j u hj;first|exact h|(rw [Addr.add_lit] at h;exact h)
     case e0=>exact hrs_one _
     case f0=>unfold maxLen;have:=HLn.out;have:=HRn.out;(try simp only [List.length_append,List.length_cons,List.length_nil]);omega
     case g0=>have:=HLn.out;have:=HRn.out;(try simp only [List.length_append,List.length_cons,List.length_nil]);omega
     case s0=>have:=HK.out.2.2.1.1.1;omega
     intro v0 w0 hown hgrow hne
     have HK0:Hid (KWH w ta tl tc (P++Q) v0 w0):=H_ (@KWH.appL w ta tl tc _ _ _ _ _ _ HK.out (by first|exact hown|simpa using hown|(have h:=hown;rw [HLn.out] at h;exact h)|(have h:=hown;rw [HRn.out] at h;exact h)|(have h:=hown;rw [HLn.out] at h;simpa using h)|(have h:=hown;rw [HRn.out] at h;simpa using h)) hgrow)
     clear hown hgrow hne
     have HKe:=HK0
     rw [show P++Q=R from by rw [←HRR.out];simp] at HKe
     clear HK0
     have ho:=HKe.out.2.2.2
     obtain ⟨ao,cp,rfl,hm⟩:=own_made (z:=H.zero) H.len ho
     have HM:=H_ hm
     have HNE:Hid (R.length=0∨∀b off,ao=some ⟨b,off,none⟩→w.heap.size+3≤b):=H_ (by
      rcases hm.own with h0|⟨g,e1,e2,_⟩
      ·exact .inl h0
      ·exact .inr (fun b off q=>by rw [e1] at q;simp at q;omega))
     clear hm ho
     obtain ⟨⟨xl,xk⟩,xf⟩:=HKe.out.2.1
     have x0:w0.cell? ⟨w.heap.size,0,none⟩=some (.slice ta tl tc):=xk 0 (by simp)
     have x1:w0.cell? ⟨w.heap.size,1,none⟩=some (.func (.func 62) #[] #[]):=xk 1 (by simp)
     have x2:w0.cell? ⟨w.heap.size,2,none⟩=some (.func (.func 63) #[] #[]):=xk 2 (by simp)
     have xf0:w0.frozen? ⟨w.heap.size,0,none⟩=false:=xf 0 (by simp)
     obtain ⟨⟨zl,zk⟩,zf⟩:=HKe.out.2.2.1
     have z0:w0.cell? ⟨w.heap.size+2,0,none⟩=some (.slice none 0 0):=zk 0 (by simp)
     have z1:w0.cell? ⟨w.heap.size+2,1,none⟩=some .nilFunc:=zk 1 (by simp)
     have z2:w0.cell? ⟨w.heap.size+2,2,none⟩=some .nilFunc:=zk 2 (by simp)
     have zf0:w0.frozen? ⟨w.heap.size+2,0,none⟩=false:=zf 0 (by simp)
     have zf1:w0.frozen? ⟨w.heap.size+2,1,none⟩=false:=zf 1 (by simp)
     have zf2:w0.frozen? ⟨w.heap.size+2,2,none⟩=false:=zf 2 (by simp)
     clear xk xf zk zf
     go_wp2_with fail
     refine bodyPost_ret (v:=.agg #[.slice ao R.length cp,.func (.func 62) #[] #[],.func (.func 63) #[] #[]]) (by simp [results,Tryd.results43,go_sem,z0,z1,z2]) rfl ?_
     have q3:R.length=0∨∀b off,ao=some ⟨b,off,none⟩→w.heap.size≤b:=HNE.out.imp id (fun h b off e=>by have:=h b off e;omega)
     first|refine ⟨ao,⟨cp,rfl⟩,?_,(by first|exact q3|simpa using q3),?_⟩|refine ⟨ao,cp,rfl,?_,(by first|exact q3|simpa using q3),?_⟩
     ·have q0:R.length=0∨∀b off,ao=some ⟨b,off,none⟩→b≠w.heap.size:=HNE.out.imp id (fun h b off e=>by have:=h b off e;omega)
      have q2:R.length=0∨∀b off,ao=some ⟨b,off,none⟩→b≠w.heap.size+1+1:=HNE.out.imp id (fun h b off e=>by have:=h b off e;omega)
      exact (Rws.put (Rws.put (Rws.put (Rws.put HM.out.rws w.heap.size 0 (.slice ao R.length cp) q0) (w.heap.size+1+1) 0 (.slice ao R.length cp) q2) (w.heap.size+1+1) 1 (.func (.func 62) #[] #[]) q2) (w.heap.size+1+1) 2 (.func (.func 63) #[] #[]) q2)
     ·have hb2:w.heap.size≤w.heap.size+1+1:=by omega
      exact ((((HKe.out.1.setCell (Nat.le_refl _) _).setCell hb2 _).setCell hb2 _).setCell hb2 _)
   ·have HTL1:=H_ HTL1x.out
    unfold maxLen at n2
    rcases sr with ⟨rfl,hr0,rfl⟩|⟨b2,off2,rfl,m1,m2⟩
    ·subst hr0
     obtain rfl:Q=[]:=List.length_eq_zero_iff.1 HRn.out.symm
     go_wp2_with (at_builtin;refine wpList_append_own _ rfl _ _ 24 rfl (w.heap.size+3) 87 i0 (.agg #[.int .i64 0,.int .i64 0]) 2 16 Tryd.underlying24 hi hz0 hz1 hz2 rfl (by decide) _ _ _ rfl HK.out.2.2.2 ⟨b,off,none⟩ 0 lc (cellsAll H.cells []) rfl ?l0 ?d0 ?e0 ?f0 ?g0 ?s0 ?_)
     case l0=>first|rfl|(rw [cellsAll_len H.len];first|rfl|(rw [HRn.out];done)|(have:=HLn.out;simp only [List.length_cons];omega)|(have:=HLn.out;simp;omega)|(have:=HRn.out;simp;omega))
     case d0=>exact fun j u hj=>by have h:=hrs_src HTL1.out HK.out.1 j u hj;first|exact h|(rw [Addr.add_lit] at h;exact h)
     case e0=>exact hrs_one _
     case f0=>unfold maxLen;have:=HLn.out;have:=HRn.out;(try simp only [List.length_append,List.length_cons,List.length_nil]);omega
     case g0=>have:=HLn.out;have:=HRn.out;(try simp only [List.length_append,List.length_cons,List.length_nil]);omega
     case s0=>have:=HK.out.2.2.1.1.1;omega
     intro v0 w0 hown hgrow hne
     have HK0:Hid (KWH w ta tl tc (P ++ []) v0 w0):=H_ (@KWH.appL w ta tl tc _ _ _ _ _ _ HK.out (by first|exact hown|simpa using hown|(have h:=hown;rw [HLn.out] at h;exact h)|(have h:=hown;rw [HRn.out] at h;exact h)|(have h:=hown;rw [HLn.out] at h;simpa using h)|(have h:=hown;rw [HRn.out] at h;simpa using h)) hgrow)
     clear hown hgrow hne
     have HKe:=HK0
     rw [show P ++ []=R from by rw [←HRR.out];simp] at HKe
     clear HK0
     have ho:=HKe.out.2.2.2
     obtain ⟨ao,cp,rfl,hm⟩:=own_made (z:=H.zero) H.len ho
     have HM:=H_ hm
     have HNE:Hid (R.length=0∨∀b off,ao=some ⟨b,off,none⟩→w.heap.size+3≤b):=H_ (by
      rcases hm.own with h0|⟨g,e1,e2,_⟩
      ·exact .inl h0
      ·exact .inr (fun b off q=>by rw [e1] at q;simp at q;omega))
     clear hm ho
     obtain ⟨⟨xl,xk⟩,xf⟩:=HKe.out.2.1
     have x0:w0.cell? ⟨w.heap.size,0,none⟩=some (.slice ta tl tc):=xk 0 (by simp)
     have x1:w0.cell? ⟨w.heap.size,1,none⟩=some (.func (.func 62) #[] #[]):=xk 1 (by simp)
     have x2:w0.cell? ⟨w.heap.size,2,none⟩=some (.func (.func 63) #[] #[]):=xk 2 (by simp)
     have xf0:w0.frozen? ⟨w.heap.size,0,none⟩=false:=xf 0 (by simp)
     obtain ⟨⟨zl,zk⟩,zf⟩:=HKe.out.2.2.1
     have z0:w0.cell? ⟨w.heap.size+2,0,none⟩=some (.slice none 0 0):=zk 0 (by simp)
     have z1:w0.cell? ⟨w.heap.size+2,1,none⟩=some .nilFunc:=zk 1 (by simp)
     have z2:w0.cell? ⟨w.heap.size+2,2,none⟩=some .nilFunc:=zk 2 (by simp)
     have zf0:w0.frozen? ⟨w.heap.size+2,0,none⟩=false:=zf 0 (by simp)
     have zf1:w0.frozen? ⟨w.heap.size+2,1,none⟩=false:=zf 1 (by simp)
     have zf2:w0.frozen? ⟨w.heap.size+2,2,none⟩=false:=zf 2 (by simp)
     clear xk xf zk zf
     go_wp2_with (at_builtin;refine wpList_append_own_none rfl _ _ 24 rfl (w.heap.size+3) 87 i0 2 Tryd.underlying24 hi _ _ _ rfl HKe.out.2.2.2 rfl ?_)
     refine bodyPost_ret (v:=.agg #[.slice ao R.length cp,.func (.func 62) #[] #[],.func (.func 63) #[] #[]]) (by simp [results,Tryd.results43,go_sem,z0,z1,z2]) rfl ?_
     have q3:R.length=0∨∀b off,ao=some ⟨b,off,none⟩→w.heap.size≤b:=HNE.out.imp id (fun h b off e=>by have:=h b off e;omega)
     first|refine ⟨ao,⟨cp,rfl⟩,?_,(by first|exact q3|simpa using q3),?_⟩|refine ⟨ao,cp,rfl,?_,(by first|exact q3|simpa using q3),?_⟩
     ·have q0:R.length=0∨∀b off,ao=some ⟨b,off,none⟩→b≠w.heap.size:=HNE.out.imp id (fun h b off e=>by have:=h b off e;omega)
      have q2:R.length=0∨∀b off,ao=some ⟨b,off,none⟩→b≠w.heap.size+1+1:=HNE.out.imp id (fun h b off e=>by have:=h b off e;omega)
      exact (Rws.put (Rws.put (Rws.put (Rws.put HM.out.rws w.heap.size 0 (.slice ao R.length cp) q0) (w.heap.size+1+1) 0 (.slice ao R.length cp) q2) (w.heap.size+1+1) 1 (.func (.func 62) #[] #[]) q2) (w.heap.size+1+1) 2 (.func (.func 63) #[] #[]) q2)
     ·have hb2:w.heap.size≤w.heap.size+1+1:=by omega
      exact ((((HKe.out.1.setCell (Nat.le_refl _) _).setCell hb2 _).setCell hb2 _).setCell hb2 _)
    ·have HTR1:=H_ HTRx.out
     clear HTRx
     unfold maxLen at m2
     go_wp2_with (at_builtin;refine wpList_append_own _ rfl _ _ 24 rfl (w.heap.size+3) 87 i0 (.agg #[.int .i64 0,.int .i64 0]) 2 16 Tryd.underlying24 hi hz0 hz1 hz2 rfl (by decide) _ _ _ rfl HK.out.2.2.2 ⟨b,off,none⟩ 0 lc (cellsAll H.cells []) rfl ?l0 ?d0 ?e0 ?f0 ?g0 ?s0 ?_)
     case l0=>first|rfl|(rw [cellsAll_len H.len];first|rfl|(rw [HRn.out];done)|(have:=HLn.out;simp only [List.length_cons];omega)|(have:=HLn.out;simp;omega)|(have:=HRn.out;simp;omega))
     case d0=>exact fun j u hj=>by have h:=hrs_src HTL1.out HK.out.1 j u hj;first|exact h|(rw [Addr.add_lit] at h;exact h)
     case e0=>exact hrs_one _
     case f0=>unfold maxLen;have:=HLn.out;have:=HRn.out;(try simp only [List.length_append,List.length_cons,List.length_nil]);omega
     case g0=>have:=HLn.out;have:=HRn.out;(try simp only [List.length_append,List.length_cons,List.length_nil]);omega
     case s0=>have:=HK.out.2.2.1.1.1;omega
     intro v0 w0 hown hgrow hne
     have HK0:Hid (KWH w ta tl tc (P ++ []) v0 w0):=H_ (@KWH.appL w ta tl tc _ _ _ _ _ _ HK.out (by first|exact hown|simpa using hown|(have h:=hown;rw [HLn.out] at h;exact h)|(have h:=hown;rw [HRn.out] at h;exact h)|(have h:=hown;rw [HLn.out] at h;simpa using h)|(have h:=hown;rw [HRn.out] at h;simpa using h)) hgrow)
     clear hown hgrow hne
     go_wp2_with (at_builtin;refine wpList_append_own _ rfl _ _ 24 rfl (w.heap.size+3) 87 i0 (.agg #[.int .i64 0,.int .i64 0]) 2 16 Tryd.underlying24 hi hz0 hz1 hz2 rfl (by decide) _ _ _ rfl HK0.out.2.2.2 ⟨b2,off2,none⟩ rl rc (cellsAll H.cells Q) rfl ?l1 ?d1 ?e1 ?f1 ?g1 ?s1 ?_)
     case l1=>first|rfl|(rw [cellsAll_len H.len];first|rfl|(rw [HRn.out];done)|(have:=HLn.out;simp only [List.length_cons];omega)|(have:=HLn.out;simp;omega)|(have:=HRn.out;simp;omega))
     case d1=>exact fun j u hj=>by have h:=hrs_src HTR1.out HK0.out.1 j u hj;first|exact h|(rw [Addr.add_lit] at h;exact h)
     case e1=>exact hrs_one _
     case f1=>unfold maxLen;have:=HLn.out;have:=HRn.out;(try simp only [List.length_append,List.length_cons,List.length_nil]);omega
     case g1=>have:=HLn.out;have:=HRn.out;(try simp only [List.length_append,List.length_cons,List.length_nil]);omega
     case s1=>have:=HK0.out.2.2.1.1.1;omega
     intro v1 w1 hown hgrow hne
     have HK1:Hid (KWH w ta tl tc ((P ++ [])++Q) v1 w1):=H_ (@KWH.appL w ta tl tc _ _ _ _ _ _ HK0.out (by first|exact hown|simpa using hown|(have h:=hown;rw [HLn.out] at h;exact h)|(have h:=hown;rw [HRn.out] at h;exact h)|(have h:=hown;rw [HLn.out] at h;simpa using h)|(have h:=hown;rw [HRn.out] at h;simpa using h)) hgrow)
     clear hown hgrow hne
     have HKe:=HK1
     rw [HRR.out] at HKe
     clear HK1
     have ho:=HKe.out.2.2.2
     obtain ⟨ao,cp,rfl,hm⟩:=own_made (z:=H.zero) H.len ho
     have HM:=H_ hm
     have HNE:Hid (R.length=0∨∀b off,ao=some ⟨b,off,none⟩→w.heap.size+3≤b):=H_ (by
      rcases hm.own with h0|⟨g,e1,e2,_⟩
      ·exact .inl h0
      ·exact .inr (fun b off q=>by rw [e1] at q;simp at q;omega))
     clear hm ho
     obtain ⟨⟨xl,xk⟩,xf⟩:=HKe.out.2.1
     have x0:w1.cell? ⟨w.heap.size,0,none⟩=some (.slice ta tl tc):=xk 0 (by simp)
     have x1:w1.cell? ⟨w.heap.size,1,none⟩=some (.func (.func 62) #[] #[]):=xk 1 (by simp)
     have x2:w1.cell? ⟨w.heap.size,2,none⟩=some (.func (.func 63) #[] #[]):=xk 2 (by simp)
     have xf0:w1.frozen? ⟨w.heap.size,0,none⟩=false:=xf 0 (by simp)
     obtain ⟨⟨zl,zk⟩,zf⟩:=HKe.out.2.2.1
     have z0:w1.cell? ⟨w.heap.size+2,0,none⟩=some (.slice none 0 0):=zk 0 (by simp)
     have z1:w1.cell? ⟨w.heap.size+2,1,none⟩=some .nilFunc:=zk 1 (by simp)
     have z2:w1.cell? ⟨w.heap.size+2,2,none⟩=some .nilFunc:=zk 2 (by simp)
     have zf0:w1.frozen? ⟨w.heap.size+2,0,none⟩=false:=zf 0 (by simp)
     have zf1:w1.frozen? ⟨w.heap.size+2,1,none⟩=false:=zf 1 (by simp)
     have zf2:w1.frozen? ⟨w.heap.size+2,2,none⟩=false:=zf 2 (by simp)
     clear xk xf zk zf
     go_wp2_with fail
     refine bodyPost_ret (v:=.agg #[.slice ao R.length cp,.func (.func 62) #[] #[],.func (.func 63) #[] #[]]) (by simp [results,Tryd.results43,go_sem,z0,z1,z2]) rfl ?_
     have q3:R.length=0∨∀b off,ao=some ⟨b,off,none⟩→w.heap.size≤b:=HNE.out.imp id (fun h b off e=>by have:=h b off e;omega)
     first|refine ⟨ao,⟨cp,rfl⟩,?_,(by first|exact q3|simpa using q3),?_⟩|refine ⟨ao,cp,rfl,?_,(by first|exact q3|simpa using q3),?_⟩
     ·have q0:R.length=0∨∀b off,ao=some ⟨b,off,none⟩→b≠w.heap.size:=HNE.out.imp id (fun h b off e=>by have:=h b off e;omega)
      have q2:R.length=0∨∀b off,ao=some ⟨b,off,none⟩→b≠w.heap.size+1+1:=HNE.out.imp id (fun h b off e=>by have:=h b off e;omega)
      exact (Rws.put (Rws.put (Rws.put (Rws.put HM.out.rws w.heap.size 0 (.slice ao R.length cp) q0) (w.heap.size+1+1) 0 (.slice ao R.length cp) q2) (w.heap.size+1+1) 1 (.func (.func 62) #[] #[]) q2) (w.heap.size+1+1) 2 (.func (.func 63) #[] #[]) q2)
     ·have hb2:w.heap.size≤w.heap.size+1+1:=by omega
      exact ((((HKe.out.1.setCell (Nat.le_refl _) _).setCell hb2 _).setCell hb2 _).setCell hb2 _)
  | cons X L =>
  cases Q with
  | nil =>
   have HRR:Hid (P++(X::L) ++ []=R):=H_ (by rw [←HR.out,List.append_nil];simp [mrg])
   have HTL1x:=H_ hl
   obtain ⟨ll,hll⟩:∃ll,ll=L.length:=⟨_,rfl⟩
   have HLn:=H_ hll
   have HRn:Hid (0=0):=H_ rfl
   simp only [List.length_nil,List.length_cons] at hN sl sr ⊢
   rw [←hll] at hN sl ⊢
   have HTR1x:=H_ hr
   clear HL HQ hl hr hll
   have p1:(0:Int)<((ll+1:Nat):Int):=by omega
   rcases sl with ⟨rfl,h0,_⟩|⟨b,off,rfl,n1,n2⟩
   ·omega
   ·have HTL1:=H_ HTL1x.out
    unfold maxLen at n2
    rcases sr with ⟨rfl,_,rfl⟩|⟨b2,off2,rfl,m1,m2⟩
    ·go_wp2_with (at_builtin;refine wpList_append_own _ rfl _ _ 24 rfl (w.heap.size+3) 87 i0 (.agg #[.int .i64 0,.int .i64 0]) 2 16 Tryd.underlying24 hi hz0 hz1 hz2 rfl (by decide) _ _ _ rfl HK.out.2.2.2 ⟨b,off,none⟩ (ll+1) lc (cellsAll H.cells (X::L)) rfl ?l0 ?d0 ?e0 ?f0 ?g0 ?s0 ?_)
     case l0=>first|rfl|(rw [cellsAll_len H.len];first|rfl|(rw [HRn.out];done)|(have:=HLn.out;simp only [List.length_cons];omega)|(have:=HLn.out;simp;omega)|(have:=HRn.out;simp;omega))
     case d0=>exact fun j u hj=>by have h:=hrs_src HTL1.out HK.out.1 j u hj;first|exact h|(rw [Addr.add_lit] at h;exact h)
     case e0=>exact hrs_one _
     case f0=>unfold maxLen;have:=HLn.out;have:=HRn.out;(try simp only [List.length_append,List.length_cons,List.length_nil]);omega
     case g0=>have:=HLn.out;have:=HRn.out;(try simp only [List.length_append,List.length_cons,List.length_nil]);omega
     case s0=>have:=HK.out.2.2.1.1.1;omega
     intro v0 w0 hown hgrow hne
     have HK0:Hid (KWH w ta tl tc (P++(X::L)) v0 w0):=H_ (@KWH.appL w ta tl tc _ _ _ _ _ _ HK.out (by first|exact hown|simpa using hown|(have h:=hown;rw [HLn.out] at h;exact h)|(have h:=hown;rw [HRn.out] at h;exact h)|(have h:=hown;rw [HLn.out] at h;simpa using h)|(have h:=hown;rw [HRn.out] at h;simpa using h)) hgrow)
     clear hown hgrow hne
     have HKe:=HK0
     rw [show P++(X::L)=R from by rw [←HRR.out];simp] at HKe
     clear HK0
     have ho:=HKe.out.2.2.2
     obtain ⟨ao,cp,rfl,hm⟩:=own_made (z:=H.zero) H.len ho
     have HM:=H_ hm
     have HNE:Hid (R.length=0∨∀b off,ao=some ⟨b,off,none⟩→w.heap.size+3≤b):=H_ (by
      rcases hm.own with h0|⟨g,e1,e2,_⟩
      ·exact .inl h0
      ·exact .inr (fun b off q=>by rw [e1] at q;simp at q;omega))
     clear hm ho
     obtain ⟨⟨xl,xk⟩,xf⟩:=HKe.out.2.1
     have x0:w0.cell? ⟨w.heap.size,0,none⟩=some (.slice ta tl tc):=xk 0 (by simp)
     have x1:w0.cell? ⟨w.heap.size,1,none⟩=some (.func (.func 62) #[] #[]):=xk 1 (by simp)
     have x2:w0.cell? ⟨w.heap.size,2,none⟩=some (.func (.func 63) #[] #[]):=xk 2 (by simp)
     have xf0:w0.frozen? ⟨w.heap.size,0,none⟩=false:=xf 0 (by simp)
     obtain ⟨⟨zl,zk⟩,zf⟩:=HKe.out.2.2.1
     have z0:w0.cell? ⟨w.heap.size+2,0,none⟩=some (.slice none 0 0):=zk 0 (by simp)
     have z1:w0.cell? ⟨w.heap.size+2,1,none⟩=some .nilFunc:=zk 1 (by simp)
     have z2:w0.cell? ⟨w.heap.size+2,2,none⟩=some .nilFunc:=zk 2 (by simp)
     have zf0:w0.frozen? ⟨w.heap.size+2,0,none⟩=false:=zf 0 (by simp)
     have zf1:w0.frozen? ⟨w.heap.size+2,1,none⟩=false:=zf 1 (by simp)
     have zf2:w0.frozen? ⟨w.heap.size+2,2,none⟩=false:=zf 2 (by simp)
     clear xk xf zk zf
     go_wp2_with (at_builtin;refine wpList_append_own_none rfl _ _ 24 rfl (w.heap.size+3) 87 i0 2 Tryd.underlying24 hi _ _ _ rfl HKe.out.2.2.2 rfl ?_)
     refine bodyPost_ret (v:=.agg #[.slice ao R.length cp,.func (.func 62) #[] #[],.func (.func 63) #[] #[]]) (by simp [results,Tryd.results43,go_sem,z0,z1,z2]) rfl ?_
     have q3:R.length=0∨∀b off,ao=some ⟨b,off,none⟩→w.heap.size≤b:=HNE.out.imp id (fun h b off e=>by have:=h b off e;omega)
     first|refine ⟨ao,⟨cp,rfl⟩,?_,(by first|exact q3|simpa using q3),?_⟩|refine ⟨ao,cp,rfl,?_,(by first|exact q3|simpa using q3),?_⟩
     ·have q0:R.length=0∨∀b off,ao=some ⟨b,off,none⟩→b≠w.heap.size:=HNE.out.imp id (fun h b off e=>by have:=h b off e;omega)
      have q2:R.length=0∨∀b off,ao=some ⟨b,off,none⟩→b≠w.heap.size+1+1:=HNE.out.imp id (fun h b off e=>by have:=h b off e;omega)
      exact (Rws.put (Rws.put (Rws.put (Rws.put HM.out.rws w.heap.size 0 (.slice ao R.length cp) q0) (w.heap.size+1+1) 0 (.slice ao R.length cp) q2) (w.heap.size+1+1) 1 (.func (.func 62) #[] #[]) q2) (w.heap.size+1+1) 2 (.func (.func 63) #[] #[]) q2)
     ·have hb2:w.heap.size≤w.heap.size+1+1:=by omega
      exact ((((HKe.out.1.setCell (Nat.le_refl _) _).setCell hb2 _).setCell hb2 _).setCell hb2 _)
    ·have HTR1:=H_ HTR1x.out
     unfold maxLen at m2
     go_wp2_with (at_builtin;refine wpList_append_own _ rfl _ _ 24 rfl (w.heap.size+3) 87 i0 (.agg #[.int .i64 0,.int .i64 0]) 2 16 Tryd.underlying24 hi hz0 hz1 hz2 rfl (by decide) _ _ _ rfl HK.out.2.2.2 ⟨b,off,none⟩ (ll+1) lc (cellsAll H.cells (X::L)) rfl ?l0 ?d0 ?e0 ?f0 ?g0 ?s0 ?_)
     case l0=>first|rfl|(rw [cellsAll_len H.len];first|rfl|(rw [HRn.out];done)|(have:=HLn.out;simp only [List.length_cons];omega)|(have:=HLn.out;simp;omega)|(have:=HRn.out;simp;omega))
     case d0=>exact fun j u hj=>by have h:=hrs_src HTL1.out HK.out.1 j u hj;first|exact h|(rw [Addr.add_lit] at h;exact h)
     case e0=>exact hrs_one _
     case f0=>unfold maxLen;have:=HLn.out;have:=HRn.out;(try simp only [List.length_append,List.length_cons,List.length_nil]);omega
     case g0=>have:=HLn.out;have:=HRn.out;(try simp only [List.length_append,List.length_cons,List.length_nil]);omega
     case s0=>have:=HK.out.2.2.1.1.1;omega
     intro v0 w0 hown hgrow hne
     have HK0:Hid (KWH w ta tl tc (P++(X::L)) v0 w0):=H_ (@KWH.appL w ta tl tc _ _ _ _ _ _ HK.out (by first|exact hown|simpa using hown|(have h:=hown;rw [HLn.out] at h;exact h)|(have h:=hown;rw [HRn.out] at h;exact h)|(have h:=hown;rw [HLn.out] at h;simpa using h)|(have h:=hown;rw [HRn.out] at h;simpa using h)) hgrow)
     clear hown hgrow hne
     go_wp2_with (at_builtin;refine wpList_append_own _ rfl _ _ 24 rfl (w.heap.size+3) 87 i0 (.agg #[.int .i64 0,.int .i64 0]) 2 16 Tryd.underlying24 hi hz0 hz1 hz2 rfl (by decide) _ _ _ rfl HK0.out.2.2.2 ⟨b2,off2,none⟩ 0 rc (cellsAll H.cells []) rfl ?l1 ?d1 ?e1 ?f1 ?g1 ?s1 ?_)
     case l1=>first|rfl|(rw [cellsAll_len H.len];first|rfl|(rw [HRn.out];done)|(have:=HLn.out;simp only [List.length_cons];omega)|(have:=HLn.out;simp;omega)|(have:=HRn.out;simp;omega))
     case d1=>exact fun j u hj=>by have h:=hrs_src HTR1.out HK0.out.1 j u hj;first|exact h|(rw [Addr.add_lit] at h;exact h)
     case e1=>exact hrs_one _
     case f1=>unfold maxLen;have:=HLn.out;have:=HRn.out;(try simp only [List.length_append,List.length_cons,List.length_nil]);omega
     case g1=>have:=HLn.out;have:=HRn.out;(try simp only [List.length_append,List.length_cons,List.length_nil]);omega
     case s1=>have:=HK0.out.2.2.1.1.1;omega
     intro v1 w1 hown hgrow hne
     have HK1:Hid (KWH w ta tl tc ((P++(X::L)) ++ []) v1 w1):=H_ (@KWH.appL w ta tl tc _ _ _ _ _ _ HK0.out (by first|exact hown|simpa using hown|(have h:=hown;rw [HLn.out] at h;exact h)|(have h:=hown;rw [HRn.out] at h;exact h)|(have h:=hown;rw [HLn.out] at h;simpa using h)|(have h:=hown;rw [HRn.out] at h;simpa using h)) hgrow)
     clear hown hgrow hne
     have HKe:=HK1
     rw [HRR.out] at HKe
     clear HK1
     have ho:=HKe.out.2.2.2
     obtain ⟨ao,cp,rfl,hm⟩:=own_made (z:=H.zero) H.len ho
     have HM:=H_ hm
     have HNE:Hid (R.length=0∨∀b off,ao=some ⟨b,off,none⟩→w.heap.size+3≤b):=H_ (by
      rcases hm.own with h0|⟨g,e1,e2,_⟩
      ·exact .inl h0
      ·exact .inr (fun b off q=>by rw [e1] at q;simp at q;omega))
     clear hm ho
     obtain ⟨⟨xl,xk⟩,xf⟩:=HKe.out.2.1
     have x0:w1.cell? ⟨w.heap.size,0,none⟩=some (.slice ta tl tc):=xk 0 (by simp)
     have x1:w1.cell? ⟨w.heap.size,1,none⟩=some (.func (.func 62) #[] #[]):=xk 1 (by simp)
     have x2:w1.cell? ⟨w.heap.size,2,none⟩=some (.func (.func 63) #[] #[]):=xk 2 (by simp)
     have xf0:w1.frozen? ⟨w.heap.size,0,none⟩=false:=xf 0 (by simp)
     obtain ⟨⟨zl,zk⟩,zf⟩:=HKe.out.2.2.1
     have z0:w1.cell? ⟨w.heap.size+2,0,none⟩=some (.slice none 0 0):=zk 0 (by simp)
     have z1:w1.cell? ⟨w.heap.size+2,1,none⟩=some .nilFunc:=zk 1 (by simp)
     have z2:w1.cell? ⟨w.heap.size+2,2,none⟩=some .nilFunc:=zk 2 (by simp)
     have zf0:w1.frozen? ⟨w.heap.size+2,0,none⟩=false:=zf 0 (by simp)
     have zf1:w1.frozen? ⟨w.heap.size+2,1,none⟩=false:=zf 1 (by simp)
     have zf2:w1.frozen? ⟨w.heap.size+2,2,none⟩=false:=zf 2 (by simp)
     clear xk xf zk zf
     go_wp2_with fail
     refine bodyPost_ret (v:=.agg #[.slice ao R.length cp,.func (.func 62) #[] #[],.func (.func 63) #[] #[]]) (by simp [results,Tryd.results43,go_sem,z0,z1,z2]) rfl ?_
     have q3:R.length=0∨∀b off,ao=some ⟨b,off,none⟩→w.heap.size≤b:=HNE.out.imp id (fun h b off e=>by have:=h b off e;omega)
     first|refine ⟨ao,⟨cp,rfl⟩,?_,(by first|exact q3|simpa using q3),?_⟩|refine ⟨ao,cp,rfl,?_,(by first|exact q3|simpa using q3),?_⟩
     ·have q0:R.length=0∨∀b off,ao=some ⟨b,off,none⟩→b≠w.heap.size:=HNE.out.imp id (fun h b off e=>by have:=h b off e;omega)
      have q2:R.length=0∨∀b off,ao=some ⟨b,off,none⟩→b≠w.heap.size+1+1:=HNE.out.imp id (fun h b off e=>by have:=h b off e;omega)
      exact (Rws.put (Rws.put (Rws.put (Rws.put HM.out.rws w.heap.size 0 (.slice ao R.length cp) q0) (w.heap.size+1+1) 0 (.slice ao R.length cp) q2) (w.heap.size+1+1) 1 (.func (.func 62) #[] #[]) q2) (w.heap.size+1+1) 2 (.func (.func 63) #[] #[]) q2)
     ·have hb2:w.heap.size≤w.heap.size+1+1:=by omega
      exact ((((HKe.out.1.setCell (Nat.le_refl _) _).setCell hb2 _).setCell hb2 _).setCell hb2 _)
  | cons Y Q =>
   obtain ⟨xh,xs⟩:=X
   obtain ⟨yh,ys⟩:=Y
   obtain ⟨b,off,rfl,hbl,cx,cx1,n1,n2,k1,k2⟩:=LstH.tail sl hl
   obtain ⟨b2,off2,rfl,hb2,cy,cy1,m1,m2,j1,j2⟩:=LstH.tail sr hr
   dsimp only at cx cx1 cy cy1
   have KL1:=H_ k1
   have KL2:=H_ k2
   have KR1:=H_ j1
   have KR2:=H_ j2
   obtain ⟨sx1,sx2⟩:=HSL.out _ (List.mem_cons_self)
   obtain ⟨sy1,sy2⟩:=HSQ.out _ (List.mem_cons_self)
   dsimp only at sx1 sx2 sy1 sy2
   have HSX:Hid (∀W,Below w.heap.size w W→Below w.heap.size w W∧b<W.heap.size∧b2<W.heap.size∧W.cell? ⟨b,off,none⟩=some (.int .i64 xh)∧W.cell? ⟨b,off+1,none⟩=some (.int .i64 xs)∧W.cell? ⟨b2,off2,none⟩=some (.int .i64 yh)∧W.cell? ⟨b2,off2+1,none⟩=some (.int .i64 ys)):=H_ (fun W hW=>⟨hW,Nat.lt_of_lt_of_le hbl hW.size,Nat.lt_of_lt_of_le hb2 hW.size,(hW.cell (p:=⟨b,off,none⟩) hbl).trans cx,(hW.cell (p:=⟨b,off+1,none⟩) hbl).trans cx1,(hW.cell (p:=⟨b2,off2,none⟩) hb2).trans cy,(hW.cell (p:=⟨b2,off2+1,none⟩) hb2).trans cy1⟩)
   have HLL:=H_ HL.out
   have HQQ:=H_ HQ.out
   simp only [List.length_cons] at hN HLL HQQ ⊢
   obtain ⟨ll,hll⟩:∃ll,ll=L.length:=⟨_,rfl⟩
   obtain ⟨rl,hrl⟩:∃rl,rl=Q.length:=⟨_,rfl⟩
   have HLn:=H_ hll
   have HRn:=H_ hrl
   rw [←hll] at n1 hN KL2 HLL ⊢
   rw [←hrl] at m1 hN KR2 HQQ ⊢
   clear hll hrl k1 k2 j1 j2 sl sr hl hr HL HQ cx cy cx1 cy1 hbl hb2
   unfold maxLen at n2 m2
   have sz1:P.length+1≤maxLen:=by unfold maxLen;omega
   have sz2:(P.length+1)*16≤140737488355328:=by omega
   have sz3:0<2:=by omega
   have p1:(0:Int)<((ll+1:Nat):Int):=by omega
   have p2:(0:Int)<((rl+1:Nat):Int):=by omega
   have hc3:xh<yh∨(¬xh<yh∧yh<xh)∨xh=yh:=by omega
   rcases hc3 with h1|⟨h1,h2⟩|h1
   ·have hcm:cmpH xh yh=-1:=by unfold cmpH;rw [if_pos h1]
    have HMG:Hid (mrg hlt addH ((⟨xh,xs⟩:H)::L) (⟨yh,ys⟩::Q)=⟨xh,xs⟩::mrg hlt addH L (⟨yh,ys⟩::Q)):=H_ (by rw [mrg,if_pos (by unfold hlt;simpa using h1)])
    have HC:Hid (∀w,Calls Tryd.prog 73 #[.int .i64 xh,.int .i64 yh] w fun e w'=>e=.returned (.int .i64 (-1))∧w'=w):=H_ (fun w=>by have h:=cmpI xh yh w;rw [hcm] at h;exact h)
    clear hcm
    go_wp2_with fail
    go_cut [8,9] from 23 to 28 (fun v8 v9 wx=>∃OB TB,v8=.pointer (some ⟨OB,0,none⟩)∧v9=.pointer (some ⟨TB,0,none⟩)∧Hid (KWH w ta tl tc P bv wx)∧Hid (Blk OB [.int .i64 xh,.int .i64 xs] wx)∧Hid (Blk TB [.int .i64 yh,.int .i64 ys] wx)∧Hid (∀g,bv.ownBlock=some g→g≠OB∧g≠TB))
    case first =>
     have HKd:Hid (KWH w ta tl tc P bv wr.drew):=H_ (@KWH.below w ta tl tc _ _ _ _ HK.out (Below.refl _ _).drew)
     refine wp_region_held_drew (S:=(fun W=>Below w.heap.size w W∧b<W.heap.size∧b2<W.heap.size∧W.cell? ⟨b,off,none⟩=some (.int .i64 xh)∧W.cell? ⟨b,off+1,none⟩=some (.int .i64 xs)∧W.cell? ⟨b2,off2,none⟩=some (.int .i64 yh)∧W.cell? ⟨b2,off2+1,none⟩=some (.int .i64 ys))) (by kernel_rfl) (HSX.out _ HKd.out.1) (fun hHeld=>?_)
     obtain ⟨Wd,hWd⟩:∃Wd,Wd=wr.drew:=⟨_,rfl⟩
     rw [←hWd] at HKd ⊢
     try rw [←hWd] at hHeld
     clear hWd
     refine tk 0 (⟨some 23,.move (.tmp 6),24,"l07_window.go:67",#[],none⟩) ?_
     refine tk 1 (⟨some 24,.indexAddr 24 (.tmp 23) (.const (Value.int IntKind.i64 0)),0,"l07_window.go:67",#[⟨0,.data⟩],none⟩) ?_
     refine tk 2 (⟨some 25,.load 87 (.tmp 24),87,"l07_window.go:67",#[⟨1,.data⟩],none⟩) ?_
     refine tk 3 (⟨some 26,.move (.tmp 7),24,"l07_window.go:67",#[{on:=8,ground:=Ground.gcOnly Departure.lateStores}],none⟩) ?_
     refine tk 4 (⟨some 27,.indexAddr 24 (.tmp 26) (.const (Value.int IntKind.i64 0)),0,"l07_window.go:67",#[⟨3,.data⟩,{on:=8,ground:=Ground.gcOnly Departure.lateStores}],none⟩) ?_
     refine tk 5 (⟨some 28,.load 87 (.tmp 27),87,"l07_window.go:67",#[⟨4,.data⟩,{on:=8,ground:=Ground.gcOnly Departure.lateStores}],none⟩) ?_
     refine wpAnyH_ready (rs:=[6,7]) (by kernel_rfl) (by simp) ?_
     refine AllReadyH.cons (o:=⟨some 8,.alloc 87,0,"l07_window.go:67",#[],none⟩) rfl (fun K hK=>?_) (AllReadyH.cons (o:=⟨some 9,.alloc 87,0,"l07_window.go:67",#[],none⟩) rfl (fun K hK=>?_) AllReadyH.nil)
     ·go_simp
      try go_wp2_with fail
      have hk1:=@KWH.below w ta tl tc _ _ _ _ HKd.out ((Below.refl Wd.heap.size Wd).alloc (Nat.le_refl _) (Obj.cells #[.int .i64 0,.int .i64 0] 87))
      have vo:=BlkW.new Wd [.int .i64 0,.int .i64 0] 87
      have hlo1:=HKd.out.2.2.2
      have hsz1:=HKd.out.1.size
      refine hK.out _ _ (HSX.out _ hk1.1) (fun _=>?_)
      clear hK K
      try simp only [Act.put,SL]
      obtain ⟨OB,hOB⟩:∃B,B=Wd.heap.size:=⟨_,rfl⟩
      obtain ⟨W1,hW1⟩:∃B,B=Wd.alloc (Obj.cells #[.int .i64 0,.int .i64 0] 87):=⟨_,rfl⟩
      have hgOB:∀g,bv.ownBlock=some g→g≠OB:=fun g hg=>by have:=(hlo1.lt g hg).2;omega
      have hwOB:w.heap.size+3≤OB:=by have:=HKd.out.2.2.1.1.1;omega
      rw [←hW1] at hk1 vo ⊢
      rw [←hOB] at vo ⊢
      clear hW1 hOB
      refine rd 7 (⟨some 9,.alloc 87,0,"l07_window.go:67",#[],none⟩) (fun K hK=>?_)
      go_simp
      try go_wp2_with fail
      have hk2:=@KWH.below w ta tl tc _ _ _ _ hk1 ((Below.refl W1.heap.size W1).alloc (Nat.le_refl _) (Obj.cells #[.int .i64 0,.int .i64 0] 87))
      have vt:=BlkW.new W1 [.int .i64 0,.int .i64 0] 87
      have hlo2:=hk1.2.2.2
      have hsz2:=hk1.1.size
      have vob:=BlkW.below vo ((Below.refl W1.heap.size W1).alloc (Nat.le_refl _) (Obj.cells #[.int .i64 0,.int .i64 0] 87))
      have hl2:OB<W1.heap.size:=vo.1.1
      refine hK.out _ _ (HSX.out _ hk2.1) (fun _=>?_)
      clear hK K
      try simp only [Act.put,SL]
      obtain ⟨TB,hTB⟩:∃B,B=W1.heap.size:=⟨_,rfl⟩
      obtain ⟨W2,hW2⟩:∃B,B=W1.alloc (Obj.cells #[.int .i64 0,.int .i64 0] 87):=⟨_,rfl⟩
      have hgTB:∀g,bv.ownBlock=some g→g≠TB:=fun g hg=>by have:=(hlo2.lt g hg).2;omega
      have hwTB:w.heap.size+3≤TB:=by have:=hk1.2.2.1.1.1;omega
      have hne:OB≠TB:=by omega
      rw [←hW2] at hk2 vt ⊢
      rw [←hW2] at vob
      rw [←hTB] at vt ⊢
      clear hW2 hTB
      refine rd 8 (⟨none,.store 87 (.tmp 8) (.tmp 25),0,"l07_window.go:67",#[⟨6,.data⟩,⟨2,.data⟩,⟨0,.phase⟩,⟨1,.phase⟩,⟨2,.phase⟩,{on:=3,ground:=Ground.textOnly Departure.lateStores},{on:=4,ground:=Ground.textOnly Departure.lateStores},{on:=5,ground:=Ground.textOnly Departure.lateStores},⟨6,.phase⟩,⟨7,.phase⟩],none⟩) (fun K hK=>?_)
      have a0:W2.cell? ⟨OB,0,none⟩=some (.int .i64 0):=vob.1.2 0 (by simp)
      have a1:W2.cell? ⟨OB,1,none⟩=some (.int .i64 0):=vob.1.2 1 (by simp)
      have g0:W2.frozen? ⟨OB,0,none⟩=false:=vob.2 0 (by simp)
      have g1:W2.frozen? ⟨OB,1,none⟩=false:=vob.2 1 (by simp)
      have gl:=vob.1.1
      go_simp
      try go_wp2_with fail
      have hk3:=@KWH.put w ta tl tc _ _ _ (@KWH.put w ta tl tc _ _ _ hk2 OB 0 (.int .i64 xh) hwOB hgOB) OB 1 (.int .i64 xs) hwOB hgOB
      have vobc:=BlkW.set (BlkW.set vob 0 (.int .i64 xh) (by simp)) 1 (.int .i64 xs) (by simp)
      have vtc:=BlkW.other (BlkW.other vt OB 0 (.int .i64 xh) (by omega)) OB 1 (.int .i64 xs) (by omega)
      clear a0 a1 g0 g1 gl
      refine hK.out _ _ (HSX.out _ hk3.1) (fun _=>?_)
      clear hK K
      try simp only [Act.put,SL]
      obtain ⟨W3,hW3⟩:∃B,B=(W2.setCell ⟨OB,0,none⟩ (.int .i64 xh)).setCell ⟨OB,1,none⟩ (.int .i64 xs):=⟨_,rfl⟩
      rw [←hW3] at hk3 vobc vtc ⊢
      clear hW3
      refine rd 9 (⟨none,.store 87 (.tmp 9) (.tmp 28),0,"l07_window.go:67",#[⟨7,.data⟩,⟨5,.data⟩,⟨8,.chain⟩,⟨0,.phase⟩,⟨1,.phase⟩,⟨2,.phase⟩,⟨3,.phase⟩,⟨4,.phase⟩,⟨5,.phase⟩,⟨6,.phase⟩,⟨7,.phase⟩,⟨8,.phase⟩],none⟩) (fun K hK=>?_)
      have a0:W3.cell? ⟨TB,0,none⟩=some (.int .i64 0):=vtc.1.2 0 (by simp)
      have a1:W3.cell? ⟨TB,1,none⟩=some (.int .i64 0):=vtc.1.2 1 (by simp)
      have g0:W3.frozen? ⟨TB,0,none⟩=false:=vtc.2 0 (by simp)
      have g1:W3.frozen? ⟨TB,1,none⟩=false:=vtc.2 1 (by simp)
      have gl:=vtc.1.1
      go_simp
      try go_wp2_with fail
      have hk4:=@KWH.put w ta tl tc _ _ _ (@KWH.put w ta tl tc _ _ _ hk3 TB 0 (.int .i64 yh) hwTB hgTB) TB 1 (.int .i64 ys) hwTB hgTB
      have vtcc:=BlkW.set (BlkW.set vtc 0 (.int .i64 yh) (by simp)) 1 (.int .i64 ys) (by simp)
      have vobcc:=BlkW.other (BlkW.other vobc TB 0 (.int .i64 yh) (by omega)) TB 1 (.int .i64 ys) (by omega)
      clear a0 a1 g0 g1 gl
      refine hK.out _ _ (HSX.out _ hk4.1) (fun _=>?_)
      clear hK K
      try simp only [Act.put,SL]
      obtain ⟨W4,hW4⟩:∃B,B=(W3.setCell ⟨TB,0,none⟩ (.int .i64 yh)).setCell ⟨TB,1,none⟩ (.int .i64 ys):=⟨_,rfl⟩
      rw [←hW4] at hk4 vtcc vobcc ⊢
      clear hW4
      refine wpAnyH_done (by kernel_rfl) ?_ _
      have HKF:=H_ hk4
      have HOF:=H_ vobcc.1
      have HTF:=H_ vtcc.1
      go_wp2_with fail
      go_meet
      case rel=>exact ⟨OB,TB,rfl,rfl,HKF,HOF,HTF,H_ (fun g hg=>⟨hgOB g hg,hgTB g hg⟩)⟩
     ·go_simp
      try go_wp2_with fail
      have hk1:=@KWH.below w ta tl tc _ _ _ _ HKd.out ((Below.refl Wd.heap.size Wd).alloc (Nat.le_refl _) (Obj.cells #[.int .i64 0,.int .i64 0] 87))
      have vt:=BlkW.new Wd [.int .i64 0,.int .i64 0] 87
      have hlo1:=HKd.out.2.2.2
      have hsz1:=HKd.out.1.size
      refine hK.out _ _ (HSX.out _ hk1.1) (fun _=>?_)
      clear hK K
      try simp only [Act.put,SL]
      obtain ⟨TB,hTB⟩:∃B,B=Wd.heap.size:=⟨_,rfl⟩
      obtain ⟨W1,hW1⟩:∃B,B=Wd.alloc (Obj.cells #[.int .i64 0,.int .i64 0] 87):=⟨_,rfl⟩
      have hgTB:∀g,bv.ownBlock=some g→g≠TB:=fun g hg=>by have:=(hlo1.lt g hg).2;omega
      have hwTB:w.heap.size+3≤TB:=by have:=HKd.out.2.2.1.1.1;omega
      rw [←hW1] at hk1 vt ⊢
      rw [←hTB] at vt ⊢
      clear hW1 hTB
      refine rd 6 (⟨some 8,.alloc 87,0,"l07_window.go:67",#[],none⟩) (fun K hK=>?_)
      go_simp
      try go_wp2_with fail
      have hk2:=@KWH.below w ta tl tc _ _ _ _ hk1 ((Below.refl W1.heap.size W1).alloc (Nat.le_refl _) (Obj.cells #[.int .i64 0,.int .i64 0] 87))
      have vo:=BlkW.new W1 [.int .i64 0,.int .i64 0] 87
      have hlo2:=hk1.2.2.2
      have hsz2:=hk1.1.size
      have vtb:=BlkW.below vt ((Below.refl W1.heap.size W1).alloc (Nat.le_refl _) (Obj.cells #[.int .i64 0,.int .i64 0] 87))
      have hl2:TB<W1.heap.size:=vt.1.1
      refine hK.out _ _ (HSX.out _ hk2.1) (fun _=>?_)
      clear hK K
      try simp only [Act.put,SL]
      obtain ⟨OB,hOB⟩:∃B,B=W1.heap.size:=⟨_,rfl⟩
      obtain ⟨W2,hW2⟩:∃B,B=W1.alloc (Obj.cells #[.int .i64 0,.int .i64 0] 87):=⟨_,rfl⟩
      have hgOB:∀g,bv.ownBlock=some g→g≠OB:=fun g hg=>by have:=(hlo2.lt g hg).2;omega
      have hwOB:w.heap.size+3≤OB:=by have:=hk1.2.2.1.1.1;omega
      have hne:TB≠OB:=by omega
      rw [←hW2] at hk2 vo ⊢
      rw [←hW2] at vtb
      rw [←hOB] at vo ⊢
      clear hW2 hOB
      refine rd 8 (⟨none,.store 87 (.tmp 8) (.tmp 25),0,"l07_window.go:67",#[⟨6,.data⟩,⟨2,.data⟩,⟨0,.phase⟩,⟨1,.phase⟩,⟨2,.phase⟩,{on:=3,ground:=Ground.textOnly Departure.lateStores},{on:=4,ground:=Ground.textOnly Departure.lateStores},{on:=5,ground:=Ground.textOnly Departure.lateStores},⟨6,.phase⟩,⟨7,.phase⟩],none⟩) (fun K hK=>?_)
      have a0:W2.cell? ⟨OB,0,none⟩=some (.int .i64 0):=vo.1.2 0 (by simp)
      have a1:W2.cell? ⟨OB,1,none⟩=some (.int .i64 0):=vo.1.2 1 (by simp)
      have g0:W2.frozen? ⟨OB,0,none⟩=false:=vo.2 0 (by simp)
      have g1:W2.frozen? ⟨OB,1,none⟩=false:=vo.2 1 (by simp)
      have gl:=vo.1.1
      go_simp
      try go_wp2_with fail
      have hk3:=@KWH.put w ta tl tc _ _ _ (@KWH.put w ta tl tc _ _ _ hk2 OB 0 (.int .i64 xh) hwOB hgOB) OB 1 (.int .i64 xs) hwOB hgOB
      have voc:=BlkW.set (BlkW.set vo 0 (.int .i64 xh) (by simp)) 1 (.int .i64 xs) (by simp)
      have vtbc:=BlkW.other (BlkW.other vtb OB 0 (.int .i64 xh) (by omega)) OB 1 (.int .i64 xs) (by omega)
      clear a0 a1 g0 g1 gl
      refine hK.out _ _ (HSX.out _ hk3.1) (fun _=>?_)
      clear hK K
      try simp only [Act.put,SL]
      obtain ⟨W3,hW3⟩:∃B,B=(W2.setCell ⟨OB,0,none⟩ (.int .i64 xh)).setCell ⟨OB,1,none⟩ (.int .i64 xs):=⟨_,rfl⟩
      rw [←hW3] at hk3 voc vtbc ⊢
      clear hW3
      refine rd 9 (⟨none,.store 87 (.tmp 9) (.tmp 28),0,"l07_window.go:67",#[⟨7,.data⟩,⟨5,.data⟩,⟨8,.chain⟩,⟨0,.phase⟩,⟨1,.phase⟩,⟨2,.phase⟩,⟨3,.phase⟩,⟨4,.phase⟩,⟨5,.phase⟩,⟨6,.phase⟩,⟨7,.phase⟩,⟨8,.phase⟩],none⟩) (fun K hK=>?_)
      have a0:W3.cell? ⟨TB,0,none⟩=some (.int .i64 0):=vtbc.1.2 0 (by simp)
      have a1:W3.cell? ⟨TB,1,none⟩=some (.int .i64 0):=vtbc.1.2 1 (by simp)
      have g0:W3.frozen? ⟨TB,0,none⟩=false:=vtbc.2 0 (by simp)
      have g1:W3.frozen? ⟨TB,1,none⟩=false:=vtbc.2 1 (by simp)
      have gl:=vtbc.1.1
      go_simp
      try go_wp2_with fail
      have hk4:=@KWH.put w ta tl tc _ _ _ (@KWH.put w ta tl tc _ _ _ hk3 TB 0 (.int .i64 yh) hwTB hgTB) TB 1 (.int .i64 ys) hwTB hgTB
      have vtbcc:=BlkW.set (BlkW.set vtbc 0 (.int .i64 yh) (by simp)) 1 (.int .i64 ys) (by simp)
      have vocc:=BlkW.other (BlkW.other voc TB 0 (.int .i64 yh) (by omega)) TB 1 (.int .i64 ys) (by omega)
      clear a0 a1 g0 g1 gl
      refine hK.out _ _ (HSX.out _ hk4.1) (fun _=>?_)
      clear hK K
      try simp only [Act.put,SL]
      obtain ⟨W4,hW4⟩:∃B,B=(W3.setCell ⟨TB,0,none⟩ (.int .i64 yh)).setCell ⟨TB,1,none⟩ (.int .i64 ys):=⟨_,rfl⟩
      rw [←hW4] at hk4 vtbcc vocc ⊢
      clear hW4
      refine wpAnyH_done (by kernel_rfl) ?_ _
      have HKF:=H_ hk4
      have HOF:=H_ vocc.1
      have HTF:=H_ vtbcc.1
      go_wp2_with fail
      go_meet
      case rel=>exact ⟨OB,TB,rfl,rfl,HKF,HOF,HTF,H_ (fun g hg=>⟨hgOB g hg,hgTB g hg⟩)⟩
    case rest =>
     obtain ⟨OB,TB,rfl,rfl,HKc,HOc,HTc,HGN⟩:=hcut
     clear HK
     have HKd:Hid (KWH w ta tl tc P bv wc.drew):=H_ (@KWH.below w ta tl tc _ _ _ _ HKc.out (Below.refl _ _).drew)
     have HOd:=H_ (HOc.out.below (Below.refl _ _).drew)
     have HTd:=H_ (HTc.out.below (Below.refl _ _).drew)
     clear HKc HOc HTc
     go_wp2_with fail
     refine wp_region_held_drew (S:=(fun W=>Below w.heap.size w W∧w.heap.size<W.heap.size∧OB<W.heap.size∧TB<W.heap.size∧W.cell? ⟨w.heap.size,1,none⟩=some (.func (.func 62) #[] #[])∧W.cell? ⟨w.heap.size,2,none⟩=some (.func (.func 63) #[] #[])∧W.cell? ⟨OB,0,none⟩=some (.int .i64 xh)∧W.cell? ⟨OB,1,none⟩=some (.int .i64 xs)∧W.cell? ⟨TB,0,none⟩=some (.int .i64 yh)∧W.cell? ⟨TB,1,none⟩=some (.int .i64 ys))) (by kernel_rfl) (K5 (w:=w) (ta:=ta) (tl:=tl) (tc:=tc) HKd.out HOd.out HTd.out) (fun hHeld=>?_)
     obtain ⟨Wd,hWd⟩:∃Wd,Wd=wc.drew:=⟨_,rfl⟩
     rw [←hWd] at HKd HOd HTd ⊢
     try rw [←hWd] at hHeld
     clear hWd
     refine tk 0 (⟨some 29,.fieldAddr 52 (.tmp 2) 1,0,"l07_window.go:68",#[],none⟩) ?_
     refine tk 1 (⟨some 30,.load 49 (.tmp 29),49,"l07_window.go:68",#[⟨0,.data⟩],none⟩) ?_
     refine tk 2 (⟨some 31,.load 87 (.tmp 8),87,"l07_window.go:68",#[],none⟩) ?_
     refine tk 4 (⟨some 33,.fieldAddr 52 (.tmp 2) 1,0,"l07_window.go:68",#[],none⟩) ?_
     refine tk 5 (⟨some 34,.load 49 (.tmp 33),49,"l07_window.go:68",#[⟨4,.data⟩],none⟩) ?_
     refine tk 6 (⟨some 35,.load 87 (.tmp 9),87,"l07_window.go:68",#[],none⟩) ?_
     refine rd 3 (⟨some 32,.call {callee:=Callee.value (.tmp 30),args:=#[.tmp 31],argTypes:=#[87]},2,"l07_window.go:68",#[⟨1,.data⟩,⟨2,.data⟩],none⟩) (fun K hK=>?_)
     go_simp
     go_at_call 62
     refine (hkey xh xs _).mono ?_
     rintro e q1 ⟨rfl,hq1⟩
     try go_wp2_with fail
     have hkq1:=@KWH.below w ta tl tc _ _ _ _ HKd.out hq1
     have hoq1:=HOd.out.below hq1
     have htq1:=HTd.out.below hq1
     refine hK.out _ _ (K5 (w:=w) (ta:=ta) (tl:=tl) (tc:=tc) hkq1 hoq1 htq1) (fun _=>?_)
     clear hK K
     try simp only [Act.put,SL]
     refine rd 7 (⟨some 36,.call {callee:=Callee.value (.tmp 34),args:=#[.tmp 35],argTypes:=#[87]},2,"l07_window.go:68",#[⟨5,.data⟩,⟨6,.data⟩,⟨3,.chain⟩],none⟩) (fun K hK=>?_)
     go_simp
     go_at_call 62
     refine (hkey yh ys _).mono ?_
     rintro e q2 ⟨rfl,hq2⟩
     try go_wp2_with fail
     have hkq2:=@KWH.below w ta tl tc _ _ _ _ hkq1 hq2
     have hoq2:=hoq1.below hq2
     have htq2:=htq1.below hq2
     refine hK.out _ _ (K5 (w:=w) (ta:=ta) (tl:=tl) (tc:=tc) hkq2 hoq2 htq2) (fun _=>?_)
     clear hK K
     try simp only [Act.put,SL]
     refine rd 8 (⟨some 37,.call {callee:=Callee.value (.func 73),args:=#[.tmp 32,.tmp 36],argTypes:=#[2,2]},3,"l07_window.go:68",#[⟨3,.data⟩,⟨7,.data⟩,⟨7,.chain⟩],none⟩) (fun K hK=>?_)
     go_simp
     go_at_call 73
     refine (HC.out _).mono ?_
     rintro e wh ⟨rfl,hwh⟩
     rw [hwh]
     clear hwh wh
     try go_wp2_with fail
     refine hK.out _ _ (K5 (w:=w) (ta:=ta) (tl:=tl) (tc:=tc) hkq2 hoq2 htq2) (fun _=>?_)
     clear hK K
     try simp only [Act.put,SL]
     refine tk 9 (⟨some 10,.assign (.tmp 37),3,"l07_window.go:68",#[⟨8,.data⟩,⟨8,.chain⟩,⟨0,.phase⟩,⟨1,.phase⟩,⟨2,.phase⟩,⟨3,.phase⟩,⟨4,.phase⟩,⟨5,.phase⟩,⟨6,.phase⟩,⟨7,.phase⟩,⟨8,.phase⟩],none⟩) ?_
     refine wpAnyH_done (by kernel_rfl) ?_ _
     have HK2:=H_ hkq2
     have HO2:=H_ hoq2
     have HT2:=H_ htq2
     clear hkq2 hoq2 htq2
     obtain ⟨W2,hW2⟩:∃W2,W2=q2:=⟨_,rfl⟩
     rw [←hW2] at HK2 HO2 HT2 ⊢
     clear hW2
     go_wp2_with fail
     by_cases hlc:lc=1
     ·have hl1:lc=1:=hlc
      obtain rfl:ll=0:=by omega
      subst hl1
      have HKd:Hid (KWH w ta tl tc P bv W2.drew):=H_ (@KWH.below w ta tl tc _ _ _ _ HK2.out (Below.refl _ _).drew)
      have HOd:=H_ (HO2.out.below (Below.refl _ _).drew)
      have HTd:=H_ (HT2.out.below (Below.refl _ _).drew)
      clear HK2 HO2 HT2
      refine wp_region_held_drew (S:=(fun W=>Below w.heap.size w W∧w.heap.size<W.heap.size∧OB<W.heap.size∧TB<W.heap.size∧W.cell? ⟨w.heap.size,1,none⟩=some (.func (.func 62) #[] #[])∧W.cell? ⟨w.heap.size,2,none⟩=some (.func (.func 63) #[] #[])∧W.cell? ⟨OB,0,none⟩=some (.int .i64 xh)∧W.cell? ⟨OB,1,none⟩=some (.int .i64 xs)∧W.cell? ⟨TB,0,none⟩=some (.int .i64 yh)∧W.cell? ⟨TB,1,none⟩=some (.int .i64 ys))) (by kernel_rfl) (K5 (w:=w) (ta:=ta) (tl:=tl) (tc:=tc) HKd.out HOd.out HTd.out) (fun hHeld=>?_)
      obtain ⟨Wd,hWd⟩:∃Wd,Wd=W2.drew:=⟨_,rfl⟩
      rw [←hWd] at HKd HOd HTd ⊢
      try rw [←hWd] at hHeld
      clear hWd
      refine tk 0 (⟨some 53,.move (.tmp 5),24,"l07_window.go:70",#[],none⟩) ?_
      refine tk 1 (⟨some 54,.load 87 (.tmp 8),87,"l07_window.go:70",#[],none⟩) ?_
      refine tk 4 (⟨some 57,.move (.tmp 6),24,"l07_window.go:70",#[],none⟩) ?_
      refine tk 5 (⟨some 58,.slice 24 (.tmp 57) (some (.const (Value.int IntKind.i64 1))) none none,24,"l07_window.go:70",#[⟨4,.data⟩],none⟩) ?_
      refine rd 2 (⟨some 55,.buildSlice 24 1 #[(0,.tmp 54)],24,"l07_window.go:70",#[⟨1,.data⟩],none⟩) (fun K hK=>?_)
      go_simp
      try go_wp2_with fail
      have hk8:=@KWH.below w ta tl tc _ _ _ _ HKd.out ((Below.refl Wd.heap.size Wd).alloc (Nat.le_refl _) (Obj.cells #[.int .i64 xh,.int .i64 xs] 87))
      have ho8:=HOd.out.below ((Below.refl Wd.heap.size Wd).alloc (Nat.le_refl _) (Obj.cells #[.int .i64 xh,.int .i64 xs] 87))
      have ht8:=HTd.out.below ((Below.refl Wd.heap.size Wd).alloc (Nat.le_refl _) (Obj.cells #[.int .i64 xh,.int .i64 xs] 87))
      have hz2':=HKd.out.2.1.1.1
      have hz3:=HKd.out.2.2.1.1.1
      refine hK.out _ _ (K5 (w:=w) (ta:=ta) (tl:=tl) (tc:=tc) hk8 ho8 ht8) (fun _=>?_)
      clear hK K
      try simp only [Act.put,SL]
      refine rd 3 (⟨some 56,.call {callee:=Callee.builtin Builtin.append,args:=#[.tmp 53,.tmp 55],argTypes:=#[24,24]},24,"l07_window.go:70",#[⟨0,.data⟩,⟨2,.data⟩],none⟩) (fun K hK=>?_)
      refine step_append_own rfl _ _ 24 rfl (w.heap.size+3) 87 i0 (.agg #[.int .i64 0,.int .i64 0]) 2 16 Tryd.underlying24 hi hz0 hz1 hz2 rfl sz3 _ _ _ rfl hk8.2.2.2 ⟨Wd.heap.size,0,none⟩ 1 1 [.int .i64 xh,.int .i64 xs] rfl rfl (h2_cells _ _ _) (h2_one _ _) sz1 sz2 (by simp;omega) ?_
      intro v' w4 hown hgrow hne
      have hk9:KWH w ta tl tc (P ++ [⟨xh,xs⟩]) v' w4:=@KWH.app w ta tl tc _ _ _ _ _ _ _ hk8 hown hgrow
      have ho9:=hblk_grown ho8 hgrow (fun e=>(HGN.out _ e.symm).1 rfl)
      have ht9:=hblk_grown ht8 hgrow (fun e=>(HGN.out _ e.symm).2 rfl)
      refine hK.out _ _ (K5 (w:=w) (ta:=ta) (tl:=tl) (tc:=tc) hk9 ho9 ht9) (fun _=>?_)
      clear hK K
      try simp only [Act.put,SL]
      refine tk 6 (⟨some 5,.assign (.tmp 56),24,"l07_window.go:70",#[⟨3,.data⟩,⟨3,.chain⟩,⟨0,.phase⟩,⟨1,.phase⟩,⟨2,.phase⟩,⟨3,.phase⟩,{on:=4,ground:=Ground.textOnly Departure.lateStores},{on:=5,ground:=Ground.textOnly Departure.lateStoresUnsure}],none⟩) ?_
      refine tk 7 (⟨some 6,.assign (.tmp 58),24,"l07_window.go:70",#[⟨5,.data⟩,⟨6,.chain⟩,⟨0,.phase⟩,⟨1,.phase⟩,⟨2,.phase⟩,⟨3,.phase⟩,⟨4,.phase⟩,⟨5,.phase⟩,⟨6,.phase⟩],none⟩) ?_
      refine wpAnyH_done (by kernel_rfl) ?_ _
      have HKF:=H_ hk9
      clear hk9 hk8 ho8 ht8 ho9 ht9 hown hgrow hne hz2' hz3 HKd HOd HTd
      go_wp2_with fail
      go_roundw
      case rel=>exact ⟨P ++ [(⟨xh,xs⟩:H)],L,((⟨yh,ys⟩:H)::Q),H_ (KL1.out (by first|rfl|trivial)),HQQ,by have:=HLn.out;have:=HRn.out;simp;omega,H_ (fun z hz=>HSL.out z (List.mem_cons_of_mem _ hz)),HSQ,H_ (by rw [←HR.out,List.append_assoc];exact congrArg _ HMG.out.symm),HKF⟩
      case measure=>first|(simp [slen];done)|(simp [slen];omega)
     ·have hl1:(1:Int)≤(lc:Int):=by omega
      have hl2:(1:Int)≤(ll:Int)+1:=by omega
      have HKd:Hid (KWH w ta tl tc P bv W2.drew):=H_ (@KWH.below w ta tl tc _ _ _ _ HK2.out (Below.refl _ _).drew)
      have HOd:=H_ (HO2.out.below (Below.refl _ _).drew)
      have HTd:=H_ (HT2.out.below (Below.refl _ _).drew)
      clear HK2 HO2 HT2
      refine wp_region_held_drew (S:=(fun W=>Below w.heap.size w W∧w.heap.size<W.heap.size∧OB<W.heap.size∧TB<W.heap.size∧W.cell? ⟨w.heap.size,1,none⟩=some (.func (.func 62) #[] #[])∧W.cell? ⟨w.heap.size,2,none⟩=some (.func (.func 63) #[] #[])∧W.cell? ⟨OB,0,none⟩=some (.int .i64 xh)∧W.cell? ⟨OB,1,none⟩=some (.int .i64 xs)∧W.cell? ⟨TB,0,none⟩=some (.int .i64 yh)∧W.cell? ⟨TB,1,none⟩=some (.int .i64 ys))) (by kernel_rfl) (K5 (w:=w) (ta:=ta) (tl:=tl) (tc:=tc) HKd.out HOd.out HTd.out) (fun hHeld=>?_)
      obtain ⟨Wd,hWd⟩:∃Wd,Wd=W2.drew:=⟨_,rfl⟩
      rw [←hWd] at HKd HOd HTd ⊢
      try rw [←hWd] at hHeld
      clear hWd
      refine tk 0 (⟨some 53,.move (.tmp 5),24,"l07_window.go:70",#[],none⟩) ?_
      refine tk 1 (⟨some 54,.load 87 (.tmp 8),87,"l07_window.go:70",#[],none⟩) ?_
      refine tk 4 (⟨some 57,.move (.tmp 6),24,"l07_window.go:70",#[],none⟩) ?_
      refine tk 5 (⟨some 58,.slice 24 (.tmp 57) (some (.const (Value.int IntKind.i64 1))) none none,24,"l07_window.go:70",#[⟨4,.data⟩],none⟩) ?_
      refine rd 2 (⟨some 55,.buildSlice 24 1 #[(0,.tmp 54)],24,"l07_window.go:70",#[⟨1,.data⟩],none⟩) (fun K hK=>?_)
      go_simp
      try go_wp2_with fail
      have hk8:=@KWH.below w ta tl tc _ _ _ _ HKd.out ((Below.refl Wd.heap.size Wd).alloc (Nat.le_refl _) (Obj.cells #[.int .i64 xh,.int .i64 xs] 87))
      have ho8:=HOd.out.below ((Below.refl Wd.heap.size Wd).alloc (Nat.le_refl _) (Obj.cells #[.int .i64 xh,.int .i64 xs] 87))
      have ht8:=HTd.out.below ((Below.refl Wd.heap.size Wd).alloc (Nat.le_refl _) (Obj.cells #[.int .i64 xh,.int .i64 xs] 87))
      have hz2':=HKd.out.2.1.1.1
      have hz3:=HKd.out.2.2.1.1.1
      refine hK.out _ _ (K5 (w:=w) (ta:=ta) (tl:=tl) (tc:=tc) hk8 ho8 ht8) (fun _=>?_)
      clear hK K
      try simp only [Act.put,SL]
      refine rd 3 (⟨some 56,.call {callee:=Callee.builtin Builtin.append,args:=#[.tmp 53,.tmp 55],argTypes:=#[24,24]},24,"l07_window.go:70",#[⟨0,.data⟩,⟨2,.data⟩],none⟩) (fun K hK=>?_)
      refine step_append_own rfl _ _ 24 rfl (w.heap.size+3) 87 i0 (.agg #[.int .i64 0,.int .i64 0]) 2 16 Tryd.underlying24 hi hz0 hz1 hz2 rfl sz3 _ _ _ rfl hk8.2.2.2 ⟨Wd.heap.size,0,none⟩ 1 1 [.int .i64 xh,.int .i64 xs] rfl rfl (h2_cells _ _ _) (h2_one _ _) sz1 sz2 (by simp;omega) ?_
      intro v' w4 hown hgrow hne
      have hk9:KWH w ta tl tc (P ++ [⟨xh,xs⟩]) v' w4:=@KWH.app w ta tl tc _ _ _ _ _ _ _ hk8 hown hgrow
      have ho9:=hblk_grown ho8 hgrow (fun e=>(HGN.out _ e.symm).1 rfl)
      have ht9:=hblk_grown ht8 hgrow (fun e=>(HGN.out _ e.symm).2 rfl)
      refine hK.out _ _ (K5 (w:=w) (ta:=ta) (tl:=tl) (tc:=tc) hk9 ho9 ht9) (fun _=>?_)
      clear hK K
      try simp only [Act.put,SL]
      refine tk 6 (⟨some 5,.assign (.tmp 56),24,"l07_window.go:70",#[⟨3,.data⟩,⟨3,.chain⟩,⟨0,.phase⟩,⟨1,.phase⟩,⟨2,.phase⟩,⟨3,.phase⟩,{on:=4,ground:=Ground.textOnly Departure.lateStores},{on:=5,ground:=Ground.textOnly Departure.lateStoresUnsure}],none⟩) ?_
      refine tk 7 (⟨some 6,.assign (.tmp 58),24,"l07_window.go:70",#[⟨5,.data⟩,⟨6,.chain⟩,⟨0,.phase⟩,⟨1,.phase⟩,⟨2,.phase⟩,⟨3,.phase⟩,⟨4,.phase⟩,⟨5,.phase⟩,⟨6,.phase⟩],none⟩) ?_
      refine wpAnyH_done (by kernel_rfl) ?_ _
      have HKF:=H_ hk9
      clear hk9 hk8 ho8 ht8 ho9 ht9 hown hgrow hne hz2' hz3 HKd HOd HTd
      go_wp2_with fail
      go_roundw
      case rel=>exact ⟨P ++ [(⟨xh,xs⟩:H)],L,((⟨yh,ys⟩:H)::Q),H_ (KL2.out hlc),HQQ,by have:=HLn.out;have:=HRn.out;simp;omega,H_ (fun z hz=>HSL.out z (List.mem_cons_of_mem _ hz)),HSQ,H_ (by rw [←HR.out,List.append_assoc];exact congrArg _ HMG.out.symm),HKF⟩
      case measure=>first|(simp [slen];done)|(simp [slen];omega)
   ·have hcm:cmpH xh yh=1:=by unfold cmpH;rw [if_neg h1,if_pos h2]
    have HMG:Hid (mrg hlt addH ((⟨xh,xs⟩:H)::L) (⟨yh,ys⟩::Q)=⟨yh,ys⟩::mrg hlt addH (⟨xh,xs⟩::L) Q):=H_ (by rw [mrg,if_neg (by unfold hlt;simpa using h1),if_pos (by unfold hlt;simpa using h2)])
    have HC:Hid (∀w,Calls Tryd.prog 73 #[.int .i64 xh,.int .i64 yh] w fun e w'=>e=.returned (.int .i64 (1))∧w'=w):=H_ (fun w=>by have h:=cmpI xh yh w;rw [hcm] at h;exact h)
    clear hcm
    go_wp2_with fail
    go_cut [8,9] from 23 to 28 (fun v8 v9 wx=>∃OB TB,v8=.pointer (some ⟨OB,0,none⟩)∧v9=.pointer (some ⟨TB,0,none⟩)∧Hid (KWH w ta tl tc P bv wx)∧Hid (Blk OB [.int .i64 xh,.int .i64 xs] wx)∧Hid (Blk TB [.int .i64 yh,.int .i64 ys] wx)∧Hid (∀g,bv.ownBlock=some g→g≠OB∧g≠TB))
    case first =>
     have HKd:Hid (KWH w ta tl tc P bv wr.drew):=H_ (@KWH.below w ta tl tc _ _ _ _ HK.out (Below.refl _ _).drew)
     refine wp_region_held_drew (S:=(fun W=>Below w.heap.size w W∧b<W.heap.size∧b2<W.heap.size∧W.cell? ⟨b,off,none⟩=some (.int .i64 xh)∧W.cell? ⟨b,off+1,none⟩=some (.int .i64 xs)∧W.cell? ⟨b2,off2,none⟩=some (.int .i64 yh)∧W.cell? ⟨b2,off2+1,none⟩=some (.int .i64 ys))) (by kernel_rfl) (HSX.out _ HKd.out.1) (fun hHeld=>?_)
     obtain ⟨Wd,hWd⟩:∃Wd,Wd=wr.drew:=⟨_,rfl⟩
     rw [←hWd] at HKd ⊢
     try rw [←hWd] at hHeld
     clear hWd
     refine tk 0 (⟨some 23,.move (.tmp 6),24,"l07_window.go:67",#[],none⟩) ?_
     refine tk 1 (⟨some 24,.indexAddr 24 (.tmp 23) (.const (Value.int IntKind.i64 0)),0,"l07_window.go:67",#[⟨0,.data⟩],none⟩) ?_
     refine tk 2 (⟨some 25,.load 87 (.tmp 24),87,"l07_window.go:67",#[⟨1,.data⟩],none⟩) ?_
     refine tk 3 (⟨some 26,.move (.tmp 7),24,"l07_window.go:67",#[{on:=8,ground:=Ground.gcOnly Departure.lateStores}],none⟩) ?_
     refine tk 4 (⟨some 27,.indexAddr 24 (.tmp 26) (.const (Value.int IntKind.i64 0)),0,"l07_window.go:67",#[⟨3,.data⟩,{on:=8,ground:=Ground.gcOnly Departure.lateStores}],none⟩) ?_
     refine tk 5 (⟨some 28,.load 87 (.tmp 27),87,"l07_window.go:67",#[⟨4,.data⟩,{on:=8,ground:=Ground.gcOnly Departure.lateStores}],none⟩) ?_
     refine wpAnyH_ready (rs:=[6,7]) (by kernel_rfl) (by simp) ?_
     refine AllReadyH.cons (o:=⟨some 8,.alloc 87,0,"l07_window.go:67",#[],none⟩) rfl (fun K hK=>?_) (AllReadyH.cons (o:=⟨some 9,.alloc 87,0,"l07_window.go:67",#[],none⟩) rfl (fun K hK=>?_) AllReadyH.nil)
     ·go_simp
      try go_wp2_with fail
      have hk1:=@KWH.below w ta tl tc _ _ _ _ HKd.out ((Below.refl Wd.heap.size Wd).alloc (Nat.le_refl _) (Obj.cells #[.int .i64 0,.int .i64 0] 87))
      have vo:=BlkW.new Wd [.int .i64 0,.int .i64 0] 87
      have hlo1:=HKd.out.2.2.2
      have hsz1:=HKd.out.1.size
      refine hK.out _ _ (HSX.out _ hk1.1) (fun _=>?_)
      clear hK K
      try simp only [Act.put,SL]
      obtain ⟨OB,hOB⟩:∃B,B=Wd.heap.size:=⟨_,rfl⟩
      obtain ⟨W1,hW1⟩:∃B,B=Wd.alloc (Obj.cells #[.int .i64 0,.int .i64 0] 87):=⟨_,rfl⟩
      have hgOB:∀g,bv.ownBlock=some g→g≠OB:=fun g hg=>by have:=(hlo1.lt g hg).2;omega
      have hwOB:w.heap.size+3≤OB:=by have:=HKd.out.2.2.1.1.1;omega
      rw [←hW1] at hk1 vo ⊢
      rw [←hOB] at vo ⊢
      clear hW1 hOB
      refine rd 7 (⟨some 9,.alloc 87,0,"l07_window.go:67",#[],none⟩) (fun K hK=>?_)
      go_simp
      try go_wp2_with fail
      have hk2:=@KWH.below w ta tl tc _ _ _ _ hk1 ((Below.refl W1.heap.size W1).alloc (Nat.le_refl _) (Obj.cells #[.int .i64 0,.int .i64 0] 87))
      have vt:=BlkW.new W1 [.int .i64 0,.int .i64 0] 87
      have hlo2:=hk1.2.2.2
      have hsz2:=hk1.1.size
      have vob:=BlkW.below vo ((Below.refl W1.heap.size W1).alloc (Nat.le_refl _) (Obj.cells #[.int .i64 0,.int .i64 0] 87))
      have hl2:OB<W1.heap.size:=vo.1.1
      refine hK.out _ _ (HSX.out _ hk2.1) (fun _=>?_)
      clear hK K
      try simp only [Act.put,SL]
      obtain ⟨TB,hTB⟩:∃B,B=W1.heap.size:=⟨_,rfl⟩
      obtain ⟨W2,hW2⟩:∃B,B=W1.alloc (Obj.cells #[.int .i64 0,.int .i64 0] 87):=⟨_,rfl⟩
      have hgTB:∀g,bv.ownBlock=some g→g≠TB:=fun g hg=>by have:=(hlo2.lt g hg).2;omega
      have hwTB:w.heap.size+3≤TB:=by have:=hk1.2.2.1.1.1;omega
      have hne:OB≠TB:=by omega
      rw [←hW2] at hk2 vt ⊢
      rw [←hW2] at vob
      rw [←hTB] at vt ⊢
      clear hW2 hTB
      refine rd 8 (⟨none,.store 87 (.tmp 8) (.tmp 25),0,"l07_window.go:67",#[⟨6,.data⟩,⟨2,.data⟩,⟨0,.phase⟩,⟨1,.phase⟩,⟨2,.phase⟩,{on:=3,ground:=Ground.textOnly Departure.lateStores},{on:=4,ground:=Ground.textOnly Departure.lateStores},{on:=5,ground:=Ground.textOnly Departure.lateStores},⟨6,.phase⟩,⟨7,.phase⟩],none⟩) (fun K hK=>?_)
      have a0:W2.cell? ⟨OB,0,none⟩=some (.int .i64 0):=vob.1.2 0 (by simp)
      have a1:W2.cell? ⟨OB,1,none⟩=some (.int .i64 0):=vob.1.2 1 (by simp)
      have g0:W2.frozen? ⟨OB,0,none⟩=false:=vob.2 0 (by simp)
      have g1:W2.frozen? ⟨OB,1,none⟩=false:=vob.2 1 (by simp)
      have gl:=vob.1.1
      go_simp
      try go_wp2_with fail
      have hk3:=@KWH.put w ta tl tc _ _ _ (@KWH.put w ta tl tc _ _ _ hk2 OB 0 (.int .i64 xh) hwOB hgOB) OB 1 (.int .i64 xs) hwOB hgOB
      have vobc:=BlkW.set (BlkW.set vob 0 (.int .i64 xh) (by simp)) 1 (.int .i64 xs) (by simp)
      have vtc:=BlkW.other (BlkW.other vt OB 0 (.int .i64 xh) (by omega)) OB 1 (.int .i64 xs) (by omega)
      clear a0 a1 g0 g1 gl
      refine hK.out _ _ (HSX.out _ hk3.1) (fun _=>?_)
      clear hK K
      try simp only [Act.put,SL]
      obtain ⟨W3,hW3⟩:∃B,B=(W2.setCell ⟨OB,0,none⟩ (.int .i64 xh)).setCell ⟨OB,1,none⟩ (.int .i64 xs):=⟨_,rfl⟩
      rw [←hW3] at hk3 vobc vtc ⊢
      clear hW3
      refine rd 9 (⟨none,.store 87 (.tmp 9) (.tmp 28),0,"l07_window.go:67",#[⟨7,.data⟩,⟨5,.data⟩,⟨8,.chain⟩,⟨0,.phase⟩,⟨1,.phase⟩,⟨2,.phase⟩,⟨3,.phase⟩,⟨4,.phase⟩,⟨5,.phase⟩,⟨6,.phase⟩,⟨7,.phase⟩,⟨8,.phase⟩],none⟩) (fun K hK=>?_)
      have a0:W3.cell? ⟨TB,0,none⟩=some (.int .i64 0):=vtc.1.2 0 (by simp)
      have a1:W3.cell? ⟨TB,1,none⟩=some (.int .i64 0):=vtc.1.2 1 (by simp)
      have g0:W3.frozen? ⟨TB,0,none⟩=false:=vtc.2 0 (by simp)
      have g1:W3.frozen? ⟨TB,1,none⟩=false:=vtc.2 1 (by simp)
      have gl:=vtc.1.1
      go_simp
      try go_wp2_with fail
      have hk4:=@KWH.put w ta tl tc _ _ _ (@KWH.put w ta tl tc _ _ _ hk3 TB 0 (.int .i64 yh) hwTB hgTB) TB 1 (.int .i64 ys) hwTB hgTB
      have vtcc:=BlkW.set (BlkW.set vtc 0 (.int .i64 yh) (by simp)) 1 (.int .i64 ys) (by simp)
      have vobcc:=BlkW.other (BlkW.other vobc TB 0 (.int .i64 yh) (by omega)) TB 1 (.int .i64 ys) (by omega)
      clear a0 a1 g0 g1 gl
      refine hK.out _ _ (HSX.out _ hk4.1) (fun _=>?_)
      clear hK K
      try simp only [Act.put,SL]
      obtain ⟨W4,hW4⟩:∃B,B=(W3.setCell ⟨TB,0,none⟩ (.int .i64 yh)).setCell ⟨TB,1,none⟩ (.int .i64 ys):=⟨_,rfl⟩
      rw [←hW4] at hk4 vtcc vobcc ⊢
      clear hW4
      refine wpAnyH_done (by kernel_rfl) ?_ _
      have HKF:=H_ hk4
      have HOF:=H_ vobcc.1
      have HTF:=H_ vtcc.1
      go_wp2_with fail
      go_meet
      case rel=>exact ⟨OB,TB,rfl,rfl,HKF,HOF,HTF,H_ (fun g hg=>⟨hgOB g hg,hgTB g hg⟩)⟩
     ·go_simp
      try go_wp2_with fail
      have hk1:=@KWH.below w ta tl tc _ _ _ _ HKd.out ((Below.refl Wd.heap.size Wd).alloc (Nat.le_refl _) (Obj.cells #[.int .i64 0,.int .i64 0] 87))
      have vt:=BlkW.new Wd [.int .i64 0,.int .i64 0] 87
      have hlo1:=HKd.out.2.2.2
      have hsz1:=HKd.out.1.size
      refine hK.out _ _ (HSX.out _ hk1.1) (fun _=>?_)
      clear hK K
      try simp only [Act.put,SL]
      obtain ⟨TB,hTB⟩:∃B,B=Wd.heap.size:=⟨_,rfl⟩
      obtain ⟨W1,hW1⟩:∃B,B=Wd.alloc (Obj.cells #[.int .i64 0,.int .i64 0] 87):=⟨_,rfl⟩
      have hgTB:∀g,bv.ownBlock=some g→g≠TB:=fun g hg=>by have:=(hlo1.lt g hg).2;omega
      have hwTB:w.heap.size+3≤TB:=by have:=HKd.out.2.2.1.1.1;omega
      rw [←hW1] at hk1 vt ⊢
      rw [←hTB] at vt ⊢
      clear hW1 hTB
      refine rd 6 (⟨some 8,.alloc 87,0,"l07_window.go:67",#[],none⟩) (fun K hK=>?_)
      go_simp
      try go_wp2_with fail
      have hk2:=@KWH.below w ta tl tc _ _ _ _ hk1 ((Below.refl W1.heap.size W1).alloc (Nat.le_refl _) (Obj.cells #[.int .i64 0,.int .i64 0] 87))
      have vo:=BlkW.new W1 [.int .i64 0,.int .i64 0] 87
      have hlo2:=hk1.2.2.2
      have hsz2:=hk1.1.size
      have vtb:=BlkW.below vt ((Below.refl W1.heap.size W1).alloc (Nat.le_refl _) (Obj.cells #[.int .i64 0,.int .i64 0] 87))
      have hl2:TB<W1.heap.size:=vt.1.1
      refine hK.out _ _ (HSX.out _ hk2.1) (fun _=>?_)
      clear hK K
      try simp only [Act.put,SL]
      obtain ⟨OB,hOB⟩:∃B,B=W1.heap.size:=⟨_,rfl⟩
      obtain ⟨W2,hW2⟩:∃B,B=W1.alloc (Obj.cells #[.int .i64 0,.int .i64 0] 87):=⟨_,rfl⟩
      have hgOB:∀g,bv.ownBlock=some g→g≠OB:=fun g hg=>by have:=(hlo2.lt g hg).2;omega
      have hwOB:w.heap.size+3≤OB:=by have:=hk1.2.2.1.1.1;omega
      have hne:TB≠OB:=by omega
      rw [←hW2] at hk2 vo ⊢
      rw [←hW2] at vtb
      rw [←hOB] at vo ⊢
      clear hW2 hOB
      refine rd 8 (⟨none,.store 87 (.tmp 8) (.tmp 25),0,"l07_window.go:67",#[⟨6,.data⟩,⟨2,.data⟩,⟨0,.phase⟩,⟨1,.phase⟩,⟨2,.phase⟩,{on:=3,ground:=Ground.textOnly Departure.lateStores},{on:=4,ground:=Ground.textOnly Departure.lateStores},{on:=5,ground:=Ground.textOnly Departure.lateStores},⟨6,.phase⟩,⟨7,.phase⟩],none⟩) (fun K hK=>?_)
      have a0:W2.cell? ⟨OB,0,none⟩=some (.int .i64 0):=vo.1.2 0 (by simp)
      have a1:W2.cell? ⟨OB,1,none⟩=some (.int .i64 0):=vo.1.2 1 (by simp)
      have g0:W2.frozen? ⟨OB,0,none⟩=false:=vo.2 0 (by simp)
      have g1:W2.frozen? ⟨OB,1,none⟩=false:=vo.2 1 (by simp)
      have gl:=vo.1.1
      go_simp
      try go_wp2_with fail
      have hk3:=@KWH.put w ta tl tc _ _ _ (@KWH.put w ta tl tc _ _ _ hk2 OB 0 (.int .i64 xh) hwOB hgOB) OB 1 (.int .i64 xs) hwOB hgOB
      have voc:=BlkW.set (BlkW.set vo 0 (.int .i64 xh) (by simp)) 1 (.int .i64 xs) (by simp)
      have vtbc:=BlkW.other (BlkW.other vtb OB 0 (.int .i64 xh) (by omega)) OB 1 (.int .i64 xs) (by omega)
      clear a0 a1 g0 g1 gl
      refine hK.out _ _ (HSX.out _ hk3.1) (fun _=>?_)
      clear hK K
      try simp only [Act.put,SL]
      obtain ⟨W3,hW3⟩:∃B,B=(W2.setCell ⟨OB,0,none⟩ (.int .i64 xh)).setCell ⟨OB,1,none⟩ (.int .i64 xs):=⟨_,rfl⟩
      rw [←hW3] at hk3 voc vtbc ⊢
      clear hW3
      refine rd 9 (⟨none,.store 87 (.tmp 9) (.tmp 28),0,"l07_window.go:67",#[⟨7,.data⟩,⟨5,.data⟩,⟨8,.chain⟩,⟨0,.phase⟩,⟨1,.phase⟩,⟨2,.phase⟩,⟨3,.phase⟩,⟨4,.phase⟩,⟨5,.phase⟩,⟨6,.phase⟩,⟨7,.phase⟩,⟨8,.phase⟩],none⟩) (fun K hK=>?_)
      have a0:W3.cell? ⟨TB,0,none⟩=some (.int .i64 0):=vtbc.1.2 0 (by simp)
      have a1:W3.cell? ⟨TB,1,none⟩=some (.int .i64 0):=vtbc.1.2 1 (by simp)
      have g0:W3.frozen? ⟨TB,0,none⟩=false:=vtbc.2 0 (by simp)
      have g1:W3.frozen? ⟨TB,1,none⟩=false:=vtbc.2 1 (by simp)
      have gl:=vtbc.1.1
      go_simp
      try go_wp2_with fail
      have hk4:=@KWH.put w ta tl tc _ _ _ (@KWH.put w ta tl tc _ _ _ hk3 TB 0 (.int .i64 yh) hwTB hgTB) TB 1 (.int .i64 ys) hwTB hgTB
      have vtbcc:=BlkW.set (BlkW.set vtbc 0 (.int .i64 yh) (by simp)) 1 (.int .i64 ys) (by simp)
      have vocc:=BlkW.other (BlkW.other voc TB 0 (.int .i64 yh) (by omega)) TB 1 (.int .i64 ys) (by omega)
      clear a0 a1 g0 g1 gl
      refine hK.out _ _ (HSX.out _ hk4.1) (fun _=>?_)
      clear hK K
      try simp only [Act.put,SL]
      obtain ⟨W4,hW4⟩:∃B,B=(W3.setCell ⟨TB,0,none⟩ (.int .i64 yh)).setCell ⟨TB,1,none⟩ (.int .i64 ys):=⟨_,rfl⟩
      rw [←hW4] at hk4 vtbcc vocc ⊢
      clear hW4
      refine wpAnyH_done (by kernel_rfl) ?_ _
      have HKF:=H_ hk4
      have HOF:=H_ vocc.1
      have HTF:=H_ vtbcc.1
      go_wp2_with fail
      go_meet
      case rel=>exact ⟨OB,TB,rfl,rfl,HKF,HOF,HTF,H_ (fun g hg=>⟨hgOB g hg,hgTB g hg⟩)⟩
    case rest =>
     obtain ⟨OB,TB,rfl,rfl,HKc,HOc,HTc,HGN⟩:=hcut
     clear HK
     have HKd:Hid (KWH w ta tl tc P bv wc.drew):=H_ (@KWH.below w ta tl tc _ _ _ _ HKc.out (Below.refl _ _).drew)
     have HOd:=H_ (HOc.out.below (Below.refl _ _).drew)
     have HTd:=H_ (HTc.out.below (Below.refl _ _).drew)
     clear HKc HOc HTc
     go_wp2_with fail
     refine wp_region_held_drew (S:=(fun W=>Below w.heap.size w W∧w.heap.size<W.heap.size∧OB<W.heap.size∧TB<W.heap.size∧W.cell? ⟨w.heap.size,1,none⟩=some (.func (.func 62) #[] #[])∧W.cell? ⟨w.heap.size,2,none⟩=some (.func (.func 63) #[] #[])∧W.cell? ⟨OB,0,none⟩=some (.int .i64 xh)∧W.cell? ⟨OB,1,none⟩=some (.int .i64 xs)∧W.cell? ⟨TB,0,none⟩=some (.int .i64 yh)∧W.cell? ⟨TB,1,none⟩=some (.int .i64 ys))) (by kernel_rfl) (K5 (w:=w) (ta:=ta) (tl:=tl) (tc:=tc) HKd.out HOd.out HTd.out) (fun hHeld=>?_)
     obtain ⟨Wd,hWd⟩:∃Wd,Wd=wc.drew:=⟨_,rfl⟩
     rw [←hWd] at HKd HOd HTd ⊢
     try rw [←hWd] at hHeld
     clear hWd
     refine tk 0 (⟨some 29,.fieldAddr 52 (.tmp 2) 1,0,"l07_window.go:68",#[],none⟩) ?_
     refine tk 1 (⟨some 30,.load 49 (.tmp 29),49,"l07_window.go:68",#[⟨0,.data⟩],none⟩) ?_
     refine tk 2 (⟨some 31,.load 87 (.tmp 8),87,"l07_window.go:68",#[],none⟩) ?_
     refine tk 4 (⟨some 33,.fieldAddr 52 (.tmp 2) 1,0,"l07_window.go:68",#[],none⟩) ?_
     refine tk 5 (⟨some 34,.load 49 (.tmp 33),49,"l07_window.go:68",#[⟨4,.data⟩],none⟩) ?_
     refine tk 6 (⟨some 35,.load 87 (.tmp 9),87,"l07_window.go:68",#[],none⟩) ?_
     refine rd 3 (⟨some 32,.call {callee:=Callee.value (.tmp 30),args:=#[.tmp 31],argTypes:=#[87]},2,"l07_window.go:68",#[⟨1,.data⟩,⟨2,.data⟩],none⟩) (fun K hK=>?_)
     go_simp
     go_at_call 62
     refine (hkey xh xs _).mono ?_
     rintro e q1 ⟨rfl,hq1⟩
     try go_wp2_with fail
     have hkq1:=@KWH.below w ta tl tc _ _ _ _ HKd.out hq1
     have hoq1:=HOd.out.below hq1
     have htq1:=HTd.out.below hq1
     refine hK.out _ _ (K5 (w:=w) (ta:=ta) (tl:=tl) (tc:=tc) hkq1 hoq1 htq1) (fun _=>?_)
     clear hK K
     try simp only [Act.put,SL]
     refine rd 7 (⟨some 36,.call {callee:=Callee.value (.tmp 34),args:=#[.tmp 35],argTypes:=#[87]},2,"l07_window.go:68",#[⟨5,.data⟩,⟨6,.data⟩,⟨3,.chain⟩],none⟩) (fun K hK=>?_)
     go_simp
     go_at_call 62
     refine (hkey yh ys _).mono ?_
     rintro e q2 ⟨rfl,hq2⟩
     try go_wp2_with fail
     have hkq2:=@KWH.below w ta tl tc _ _ _ _ hkq1 hq2
     have hoq2:=hoq1.below hq2
     have htq2:=htq1.below hq2
     refine hK.out _ _ (K5 (w:=w) (ta:=ta) (tl:=tl) (tc:=tc) hkq2 hoq2 htq2) (fun _=>?_)
     clear hK K
     try simp only [Act.put,SL]
     refine rd 8 (⟨some 37,.call {callee:=Callee.value (.func 73),args:=#[.tmp 32,.tmp 36],argTypes:=#[2,2]},3,"l07_window.go:68",#[⟨3,.data⟩,⟨7,.data⟩,⟨7,.chain⟩],none⟩) (fun K hK=>?_)
     go_simp
     go_at_call 73
     refine (HC.out _).mono ?_
     rintro e wh ⟨rfl,hwh⟩
     rw [hwh]
     clear hwh wh
     try go_wp2_with fail
     refine hK.out _ _ (K5 (w:=w) (ta:=ta) (tl:=tl) (tc:=tc) hkq2 hoq2 htq2) (fun _=>?_)
     clear hK K
     try simp only [Act.put,SL]
     refine tk 9 (⟨some 10,.assign (.tmp 37),3,"l07_window.go:68",#[⟨8,.data⟩,⟨8,.chain⟩,⟨0,.phase⟩,⟨1,.phase⟩,⟨2,.phase⟩,⟨3,.phase⟩,⟨4,.phase⟩,⟨5,.phase⟩,⟨6,.phase⟩,⟨7,.phase⟩,⟨8,.phase⟩],none⟩) ?_
     refine wpAnyH_done (by kernel_rfl) ?_ _
     have HK2:=H_ hkq2
     have HO2:=H_ hoq2
     have HT2:=H_ htq2
     clear hkq2 hoq2 htq2
     obtain ⟨W2,hW2⟩:∃W2,W2=q2:=⟨_,rfl⟩
     rw [←hW2] at HK2 HO2 HT2 ⊢
     clear hW2
     go_wp2_with fail
     by_cases hrc:rc=1
     ·have hr1:rc=1:=hrc
      obtain rfl:rl=0:=by omega
      subst hr1
      have HKd:Hid (KWH w ta tl tc P bv W2.drew):=H_ (@KWH.below w ta tl tc _ _ _ _ HK2.out (Below.refl _ _).drew)
      have HOd:=H_ (HO2.out.below (Below.refl _ _).drew)
      have HTd:=H_ (HT2.out.below (Below.refl _ _).drew)
      clear HK2 HO2 HT2
      refine wp_region_held_drew (S:=(fun W=>Below w.heap.size w W∧w.heap.size<W.heap.size∧OB<W.heap.size∧TB<W.heap.size∧W.cell? ⟨w.heap.size,1,none⟩=some (.func (.func 62) #[] #[])∧W.cell? ⟨w.heap.size,2,none⟩=some (.func (.func 63) #[] #[])∧W.cell? ⟨OB,0,none⟩=some (.int .i64 xh)∧W.cell? ⟨OB,1,none⟩=some (.int .i64 xs)∧W.cell? ⟨TB,0,none⟩=some (.int .i64 yh)∧W.cell? ⟨TB,1,none⟩=some (.int .i64 ys))) (by kernel_rfl) (K5 (w:=w) (ta:=ta) (tl:=tl) (tc:=tc) HKd.out HOd.out HTd.out) (fun hHeld=>?_)
      obtain ⟨Wd,hWd⟩:∃Wd,Wd=W2.drew:=⟨_,rfl⟩
      rw [←hWd] at HKd HOd HTd ⊢
      try rw [←hWd] at hHeld
      clear hWd
      refine tk 0 (⟨some 62,.move (.tmp 5),24,"l07_window.go:72",#[],none⟩) ?_
      refine tk 1 (⟨some 63,.load 87 (.tmp 9),87,"l07_window.go:72",#[],none⟩) ?_
      refine tk 4 (⟨some 66,.move (.tmp 7),24,"l07_window.go:72",#[],none⟩) ?_
      refine tk 5 (⟨some 67,.slice 24 (.tmp 66) (some (.const (Value.int IntKind.i64 1))) none none,24,"l07_window.go:72",#[⟨4,.data⟩],none⟩) ?_
      refine rd 2 (⟨some 64,.buildSlice 24 1 #[(0,.tmp 63)],24,"l07_window.go:72",#[⟨1,.data⟩],none⟩) (fun K hK=>?_)
      go_simp
      try go_wp2_with fail
      have hk8:=@KWH.below w ta tl tc _ _ _ _ HKd.out ((Below.refl Wd.heap.size Wd).alloc (Nat.le_refl _) (Obj.cells #[.int .i64 yh,.int .i64 ys] 87))
      have ho8:=HOd.out.below ((Below.refl Wd.heap.size Wd).alloc (Nat.le_refl _) (Obj.cells #[.int .i64 yh,.int .i64 ys] 87))
      have ht8:=HTd.out.below ((Below.refl Wd.heap.size Wd).alloc (Nat.le_refl _) (Obj.cells #[.int .i64 yh,.int .i64 ys] 87))
      have hz2':=HKd.out.2.1.1.1
      have hz3:=HKd.out.2.2.1.1.1
      refine hK.out _ _ (K5 (w:=w) (ta:=ta) (tl:=tl) (tc:=tc) hk8 ho8 ht8) (fun _=>?_)
      clear hK K
      try simp only [Act.put,SL]
      refine rd 3 (⟨some 65,.call {callee:=Callee.builtin Builtin.append,args:=#[.tmp 62,.tmp 64],argTypes:=#[24,24]},24,"l07_window.go:72",#[⟨0,.data⟩,⟨2,.data⟩],none⟩) (fun K hK=>?_)
      refine step_append_own rfl _ _ 24 rfl (w.heap.size+3) 87 i0 (.agg #[.int .i64 0,.int .i64 0]) 2 16 Tryd.underlying24 hi hz0 hz1 hz2 rfl sz3 _ _ _ rfl hk8.2.2.2 ⟨Wd.heap.size,0,none⟩ 1 1 [.int .i64 yh,.int .i64 ys] rfl rfl (h2_cells _ _ _) (h2_one _ _) sz1 sz2 (by simp;omega) ?_
      intro v' w4 hown hgrow hne
      have hk9:KWH w ta tl tc (P ++ [⟨yh,ys⟩]) v' w4:=@KWH.app w ta tl tc _ _ _ _ _ _ _ hk8 hown hgrow
      have ho9:=hblk_grown ho8 hgrow (fun e=>(HGN.out _ e.symm).1 rfl)
      have ht9:=hblk_grown ht8 hgrow (fun e=>(HGN.out _ e.symm).2 rfl)
      refine hK.out _ _ (K5 (w:=w) (ta:=ta) (tl:=tl) (tc:=tc) hk9 ho9 ht9) (fun _=>?_)
      clear hK K
      try simp only [Act.put,SL]
      refine tk 6 (⟨some 5,.assign (.tmp 65),24,"l07_window.go:72",#[⟨3,.data⟩,⟨3,.chain⟩,⟨0,.phase⟩,⟨1,.phase⟩,⟨2,.phase⟩,⟨3,.phase⟩,{on:=4,ground:=Ground.textOnly Departure.lateStores},{on:=5,ground:=Ground.textOnly Departure.lateStoresUnsure}],none⟩) ?_
      refine tk 7 (⟨some 7,.assign (.tmp 67),24,"l07_window.go:72",#[⟨5,.data⟩,⟨6,.chain⟩,⟨0,.phase⟩,⟨1,.phase⟩,⟨2,.phase⟩,⟨3,.phase⟩,⟨4,.phase⟩,⟨5,.phase⟩,⟨6,.phase⟩],none⟩) ?_
      refine wpAnyH_done (by kernel_rfl) ?_ _
      have HKF:=H_ hk9
      clear hk9 hk8 ho8 ht8 ho9 ht9 hown hgrow hne hz2' hz3 HKd HOd HTd
      go_wp2_with fail
      go_roundw
      case rel=>exact ⟨P ++ [(⟨yh,ys⟩:H)],((⟨xh,xs⟩:H)::L),Q,HLL,H_ (KR1.out (by first|rfl|trivial)),by have:=HLn.out;have:=HRn.out;simp;omega,HSL,H_ (fun z hz=>HSQ.out z (List.mem_cons_of_mem _ hz)),H_ (by rw [←HR.out,List.append_assoc];exact congrArg _ HMG.out.symm),HKF⟩
      case measure=>first|(simp [slen];done)|(simp [slen];omega)
     ·have hr1:(1:Int)≤(rc:Int):=by omega
      have hr2:(1:Int)≤(rl:Int)+1:=by omega
      have HKd:Hid (KWH w ta tl tc P bv W2.drew):=H_ (@KWH.below w ta tl tc _ _ _ _ HK2.out (Below.refl _ _).drew)
      have HOd:=H_ (HO2.out.below (Below.refl _ _).drew)
      have HTd:=H_ (HT2.out.below (Below.refl _ _).drew)
      clear HK2 HO2 HT2
      refine wp_region_held_drew (S:=(fun W=>Below w.heap.size w W∧w.heap.size<W.heap.size∧OB<W.heap.size∧TB<W.heap.size∧W.cell? ⟨w.heap.size,1,none⟩=some (.func (.func 62) #[] #[])∧W.cell? ⟨w.heap.size,2,none⟩=some (.func (.func 63) #[] #[])∧W.cell? ⟨OB,0,none⟩=some (.int .i64 xh)∧W.cell? ⟨OB,1,none⟩=some (.int .i64 xs)∧W.cell? ⟨TB,0,none⟩=some (.int .i64 yh)∧W.cell? ⟨TB,1,none⟩=some (.int .i64 ys))) (by kernel_rfl) (K5 (w:=w) (ta:=ta) (tl:=tl) (tc:=tc) HKd.out HOd.out HTd.out) (fun hHeld=>?_)
      obtain ⟨Wd,hWd⟩:∃Wd,Wd=W2.drew:=⟨_,rfl⟩
      rw [←hWd] at HKd HOd HTd ⊢
      try rw [←hWd] at hHeld
      clear hWd
      refine tk 0 (⟨some 62,.move (.tmp 5),24,"l07_window.go:72",#[],none⟩) ?_
      refine tk 1 (⟨some 63,.load 87 (.tmp 9),87,"l07_window.go:72",#[],none⟩) ?_
      refine tk 4 (⟨some 66,.move (.tmp 7),24,"l07_window.go:72",#[],none⟩) ?_
      refine tk 5 (⟨some 67,.slice 24 (.tmp 66) (some (.const (Value.int IntKind.i64 1))) none none,24,"l07_window.go:72",#[⟨4,.data⟩],none⟩) ?_
      refine rd 2 (⟨some 64,.buildSlice 24 1 #[(0,.tmp 63)],24,"l07_window.go:72",#[⟨1,.data⟩],none⟩) (fun K hK=>?_)
      go_simp
      try go_wp2_with fail
      have hk8:=@KWH.below w ta tl tc _ _ _ _ HKd.out ((Below.refl Wd.heap.size Wd).alloc (Nat.le_refl _) (Obj.cells #[.int .i64 yh,.int .i64 ys] 87))
      have ho8:=HOd.out.below ((Below.refl Wd.heap.size Wd).alloc (Nat.le_refl _) (Obj.cells #[.int .i64 yh,.int .i64 ys] 87))
      have ht8:=HTd.out.below ((Below.refl Wd.heap.size Wd).alloc (Nat.le_refl _) (Obj.cells #[.int .i64 yh,.int .i64 ys] 87))
      have hz2':=HKd.out.2.1.1.1
      have hz3:=HKd.out.2.2.1.1.1
      refine hK.out _ _ (K5 (w:=w) (ta:=ta) (tl:=tl) (tc:=tc) hk8 ho8 ht8) (fun _=>?_)
      clear hK K
      try simp only [Act.put,SL]
      refine rd 3 (⟨some 65,.call {callee:=Callee.builtin Builtin.append,args:=#[.tmp 62,.tmp 64],argTypes:=#[24,24]},24,"l07_window.go:72",#[⟨0,.data⟩,⟨2,.data⟩],none⟩) (fun K hK=>?_)
      refine step_append_own rfl _ _ 24 rfl (w.heap.size+3) 87 i0 (.agg #[.int .i64 0,.int .i64 0]) 2 16 Tryd.underlying24 hi hz0 hz1 hz2 rfl sz3 _ _ _ rfl hk8.2.2.2 ⟨Wd.heap.size,0,none⟩ 1 1 [.int .i64 yh,.int .i64 ys] rfl rfl (h2_cells _ _ _) (h2_one _ _) sz1 sz2 (by simp;omega) ?_
      intro v' w4 hown hgrow hne
      have hk9:KWH w ta tl tc (P ++ [⟨yh,ys⟩]) v' w4:=@KWH.app w ta tl tc _ _ _ _ _ _ _ hk8 hown hgrow
      have ho9:=hblk_grown ho8 hgrow (fun e=>(HGN.out _ e.symm).1 rfl)
      have ht9:=hblk_grown ht8 hgrow (fun e=>(HGN.out _ e.symm).2 rfl)
      refine hK.out _ _ (K5 (w:=w) (ta:=ta) (tl:=tl) (tc:=tc) hk9 ho9 ht9) (fun _=>?_)
      clear hK K
      try simp only [Act.put,SL]
      refine tk 6 (⟨some 5,.assign (.tmp 65),24,"l07_window.go:72",#[⟨3,.data⟩,⟨3,.chain⟩,⟨0,.phase⟩,⟨1,.phase⟩,⟨2,.phase⟩,⟨3,.phase⟩,{on:=4,ground:=Ground.textOnly Departure.lateStores},{on:=5,ground:=Ground.textOnly Departure.lateStoresUnsure}],none⟩) ?_
      refine tk 7 (⟨some 7,.assign (.tmp 67),24,"l07_window.go:72",#[⟨5,.data⟩,⟨6,.chain⟩,⟨0,.phase⟩,⟨1,.phase⟩,⟨2,.phase⟩,⟨3,.phase⟩,⟨4,.phase⟩,⟨5,.phase⟩,⟨6,.phase⟩],none⟩) ?_
      refine wpAnyH_done (by kernel_rfl) ?_ _
      have HKF:=H_ hk9
      clear hk9 hk8 ho8 ht8 ho9 ht9 hown hgrow hne hz2' hz3 HKd HOd HTd
      go_wp2_with fail
      go_roundw
      case rel=>exact ⟨P ++ [(⟨yh,ys⟩:H)],((⟨xh,xs⟩:H)::L),Q,HLL,H_ (KR2.out hrc),by have:=HLn.out;have:=HRn.out;simp;omega,HSL,H_ (fun z hz=>HSQ.out z (List.mem_cons_of_mem _ hz)),H_ (by rw [←HR.out,List.append_assoc];exact congrArg _ HMG.out.symm),HKF⟩
      case measure=>first|(simp [slen];done)|(simp [slen];omega)
   ·have hcm:cmpH xh yh=0:=by unfold cmpH;rw [if_neg (by omega),if_neg (by omega)]
    have HMG:Hid (mrg hlt addH ((⟨xh,xs⟩:H)::L) (⟨yh,ys⟩::Q)=⟨xh,xs+ys⟩::mrg hlt addH L Q):=H_ (by rw [mrg,if_neg (by unfold hlt;simp;omega),if_neg (by unfold hlt;simp;omega)];rfl)
    clear h1
    have HC:Hid (∀w,Calls Tryd.prog 73 #[.int .i64 xh,.int .i64 yh] w fun e w'=>e=.returned (.int .i64 (0))∧w'=w):=H_ (fun w=>by have h:=cmpI xh yh w;rw [hcm] at h;exact h)
    clear hcm
    go_wp2_with fail
    go_cut [8,9] from 23 to 28 (fun v8 v9 wx=>∃OB TB,v8=.pointer (some ⟨OB,0,none⟩)∧v9=.pointer (some ⟨TB,0,none⟩)∧Hid (KWH w ta tl tc P bv wx)∧Hid (Blk OB [.int .i64 xh,.int .i64 xs] wx)∧Hid (Blk TB [.int .i64 yh,.int .i64 ys] wx)∧Hid (∀g,bv.ownBlock=some g→g≠OB∧g≠TB))
    case first =>
     have HKd:Hid (KWH w ta tl tc P bv wr.drew):=H_ (@KWH.below w ta tl tc _ _ _ _ HK.out (Below.refl _ _).drew)
     refine wp_region_held_drew (S:=(fun W=>Below w.heap.size w W∧b<W.heap.size∧b2<W.heap.size∧W.cell? ⟨b,off,none⟩=some (.int .i64 xh)∧W.cell? ⟨b,off+1,none⟩=some (.int .i64 xs)∧W.cell? ⟨b2,off2,none⟩=some (.int .i64 yh)∧W.cell? ⟨b2,off2+1,none⟩=some (.int .i64 ys))) (by kernel_rfl) (HSX.out _ HKd.out.1) (fun hHeld=>?_)
     obtain ⟨Wd,hWd⟩:∃Wd,Wd=wr.drew:=⟨_,rfl⟩
     rw [←hWd] at HKd ⊢
     try rw [←hWd] at hHeld
     clear hWd
     refine tk 0 (⟨some 23,.move (.tmp 6),24,"l07_window.go:67",#[],none⟩) ?_
     refine tk 1 (⟨some 24,.indexAddr 24 (.tmp 23) (.const (Value.int IntKind.i64 0)),0,"l07_window.go:67",#[⟨0,.data⟩],none⟩) ?_
     refine tk 2 (⟨some 25,.load 87 (.tmp 24),87,"l07_window.go:67",#[⟨1,.data⟩],none⟩) ?_
     refine tk 3 (⟨some 26,.move (.tmp 7),24,"l07_window.go:67",#[{on:=8,ground:=Ground.gcOnly Departure.lateStores}],none⟩) ?_
     refine tk 4 (⟨some 27,.indexAddr 24 (.tmp 26) (.const (Value.int IntKind.i64 0)),0,"l07_window.go:67",#[⟨3,.data⟩,{on:=8,ground:=Ground.gcOnly Departure.lateStores}],none⟩) ?_
     refine tk 5 (⟨some 28,.load 87 (.tmp 27),87,"l07_window.go:67",#[⟨4,.data⟩,{on:=8,ground:=Ground.gcOnly Departure.lateStores}],none⟩) ?_
     refine wpAnyH_ready (rs:=[6,7]) (by kernel_rfl) (by simp) ?_
     refine AllReadyH.cons (o:=⟨some 8,.alloc 87,0,"l07_window.go:67",#[],none⟩) rfl (fun K hK=>?_) (AllReadyH.cons (o:=⟨some 9,.alloc 87,0,"l07_window.go:67",#[],none⟩) rfl (fun K hK=>?_) AllReadyH.nil)
     ·go_simp
      try go_wp2_with fail
      have hk1:=@KWH.below w ta tl tc _ _ _ _ HKd.out ((Below.refl Wd.heap.size Wd).alloc (Nat.le_refl _) (Obj.cells #[.int .i64 0,.int .i64 0] 87))
      have vo:=BlkW.new Wd [.int .i64 0,.int .i64 0] 87
      have hlo1:=HKd.out.2.2.2
      have hsz1:=HKd.out.1.size
      refine hK.out _ _ (HSX.out _ hk1.1) (fun _=>?_)
      clear hK K
      try simp only [Act.put,SL]
      obtain ⟨OB,hOB⟩:∃B,B=Wd.heap.size:=⟨_,rfl⟩
      obtain ⟨W1,hW1⟩:∃B,B=Wd.alloc (Obj.cells #[.int .i64 0,.int .i64 0] 87):=⟨_,rfl⟩
      have hgOB:∀g,bv.ownBlock=some g→g≠OB:=fun g hg=>by have:=(hlo1.lt g hg).2;omega
      have hwOB:w.heap.size+3≤OB:=by have:=HKd.out.2.2.1.1.1;omega
      rw [←hW1] at hk1 vo ⊢
      rw [←hOB] at vo ⊢
      clear hW1 hOB
      refine rd 7 (⟨some 9,.alloc 87,0,"l07_window.go:67",#[],none⟩) (fun K hK=>?_)
      go_simp
      try go_wp2_with fail
      have hk2:=@KWH.below w ta tl tc _ _ _ _ hk1 ((Below.refl W1.heap.size W1).alloc (Nat.le_refl _) (Obj.cells #[.int .i64 0,.int .i64 0] 87))
      have vt:=BlkW.new W1 [.int .i64 0,.int .i64 0] 87
      have hlo2:=hk1.2.2.2
      have hsz2:=hk1.1.size
      have vob:=BlkW.below vo ((Below.refl W1.heap.size W1).alloc (Nat.le_refl _) (Obj.cells #[.int .i64 0,.int .i64 0] 87))
      have hl2:OB<W1.heap.size:=vo.1.1
      refine hK.out _ _ (HSX.out _ hk2.1) (fun _=>?_)
      clear hK K
      try simp only [Act.put,SL]
      obtain ⟨TB,hTB⟩:∃B,B=W1.heap.size:=⟨_,rfl⟩
      obtain ⟨W2,hW2⟩:∃B,B=W1.alloc (Obj.cells #[.int .i64 0,.int .i64 0] 87):=⟨_,rfl⟩
      have hgTB:∀g,bv.ownBlock=some g→g≠TB:=fun g hg=>by have:=(hlo2.lt g hg).2;omega
      have hwTB:w.heap.size+3≤TB:=by have:=hk1.2.2.1.1.1;omega
      have hne:OB≠TB:=by omega
      rw [←hW2] at hk2 vt ⊢
      rw [←hW2] at vob
      rw [←hTB] at vt ⊢
      clear hW2 hTB
      refine rd 8 (⟨none,.store 87 (.tmp 8) (.tmp 25),0,"l07_window.go:67",#[⟨6,.data⟩,⟨2,.data⟩,⟨0,.phase⟩,⟨1,.phase⟩,⟨2,.phase⟩,{on:=3,ground:=Ground.textOnly Departure.lateStores},{on:=4,ground:=Ground.textOnly Departure.lateStores},{on:=5,ground:=Ground.textOnly Departure.lateStores},⟨6,.phase⟩,⟨7,.phase⟩],none⟩) (fun K hK=>?_)
      have a0:W2.cell? ⟨OB,0,none⟩=some (.int .i64 0):=vob.1.2 0 (by simp)
      have a1:W2.cell? ⟨OB,1,none⟩=some (.int .i64 0):=vob.1.2 1 (by simp)
      have g0:W2.frozen? ⟨OB,0,none⟩=false:=vob.2 0 (by simp)
      have g1:W2.frozen? ⟨OB,1,none⟩=false:=vob.2 1 (by simp)
      have gl:=vob.1.1
      go_simp
      try go_wp2_with fail
      have hk3:=@KWH.put w ta tl tc _ _ _ (@KWH.put w ta tl tc _ _ _ hk2 OB 0 (.int .i64 xh) hwOB hgOB) OB 1 (.int .i64 xs) hwOB hgOB
      have vobc:=BlkW.set (BlkW.set vob 0 (.int .i64 xh) (by simp)) 1 (.int .i64 xs) (by simp)
      have vtc:=BlkW.other (BlkW.other vt OB 0 (.int .i64 xh) (by omega)) OB 1 (.int .i64 xs) (by omega)
      clear a0 a1 g0 g1 gl
      refine hK.out _ _ (HSX.out _ hk3.1) (fun _=>?_)
      clear hK K
      try simp only [Act.put,SL]
      obtain ⟨W3,hW3⟩:∃B,B=(W2.setCell ⟨OB,0,none⟩ (.int .i64 xh)).setCell ⟨OB,1,none⟩ (.int .i64 xs):=⟨_,rfl⟩
      rw [←hW3] at hk3 vobc vtc ⊢
      clear hW3
      refine rd 9 (⟨none,.store 87 (.tmp 9) (.tmp 28),0,"l07_window.go:67",#[⟨7,.data⟩,⟨5,.data⟩,⟨8,.chain⟩,⟨0,.phase⟩,⟨1,.phase⟩,⟨2,.phase⟩,⟨3,.phase⟩,⟨4,.phase⟩,⟨5,.phase⟩,⟨6,.phase⟩,⟨7,.phase⟩,⟨8,.phase⟩],none⟩) (fun K hK=>?_)
      have a0:W3.cell? ⟨TB,0,none⟩=some (.int .i64 0):=vtc.1.2 0 (by simp)
      have a1:W3.cell? ⟨TB,1,none⟩=some (.int .i64 0):=vtc.1.2 1 (by simp)
      have g0:W3.frozen? ⟨TB,0,none⟩=false:=vtc.2 0 (by simp)
      have g1:W3.frozen? ⟨TB,1,none⟩=false:=vtc.2 1 (by simp)
      have gl:=vtc.1.1
      go_simp
      try go_wp2_with fail
      have hk4:=@KWH.put w ta tl tc _ _ _ (@KWH.put w ta tl tc _ _ _ hk3 TB 0 (.int .i64 yh) hwTB hgTB) TB 1 (.int .i64 ys) hwTB hgTB
      have vtcc:=BlkW.set (BlkW.set vtc 0 (.int .i64 yh) (by simp)) 1 (.int .i64 ys) (by simp)
      have vobcc:=BlkW.other (BlkW.other vobc TB 0 (.int .i64 yh) (by omega)) TB 1 (.int .i64 ys) (by omega)
      clear a0 a1 g0 g1 gl
      refine hK.out _ _ (HSX.out _ hk4.1) (fun _=>?_)
      clear hK K
      try simp only [Act.put,SL]
      obtain ⟨W4,hW4⟩:∃B,B=(W3.setCell ⟨TB,0,none⟩ (.int .i64 yh)).setCell ⟨TB,1,none⟩ (.int .i64 ys):=⟨_,rfl⟩
      rw [←hW4] at hk4 vtcc vobcc ⊢
      clear hW4
      refine wpAnyH_done (by kernel_rfl) ?_ _
      have HKF:=H_ hk4
      have HOF:=H_ vobcc.1
      have HTF:=H_ vtcc.1
      go_wp2_with fail
      go_meet
      case rel=>exact ⟨OB,TB,rfl,rfl,HKF,HOF,HTF,H_ (fun g hg=>⟨hgOB g hg,hgTB g hg⟩)⟩
     ·go_simp
      try go_wp2_with fail
      have hk1:=@KWH.below w ta tl tc _ _ _ _ HKd.out ((Below.refl Wd.heap.size Wd).alloc (Nat.le_refl _) (Obj.cells #[.int .i64 0,.int .i64 0] 87))
      have vt:=BlkW.new Wd [.int .i64 0,.int .i64 0] 87
      have hlo1:=HKd.out.2.2.2
      have hsz1:=HKd.out.1.size
      refine hK.out _ _ (HSX.out _ hk1.1) (fun _=>?_)
      clear hK K
      try simp only [Act.put,SL]
      obtain ⟨TB,hTB⟩:∃B,B=Wd.heap.size:=⟨_,rfl⟩
      obtain ⟨W1,hW1⟩:∃B,B=Wd.alloc (Obj.cells #[.int .i64 0,.int .i64 0] 87):=⟨_,rfl⟩
      have hgTB:∀g,bv.ownBlock=some g→g≠TB:=fun g hg=>by have:=(hlo1.lt g hg).2;omega
      have hwTB:w.heap.size+3≤TB:=by have:=HKd.out.2.2.1.1.1;omega
      rw [←hW1] at hk1 vt ⊢
      rw [←hTB] at vt ⊢
      clear hW1 hTB
      refine rd 6 (⟨some 8,.alloc 87,0,"l07_window.go:67",#[],none⟩) (fun K hK=>?_)
      go_simp
      try go_wp2_with fail
      have hk2:=@KWH.below w ta tl tc _ _ _ _ hk1 ((Below.refl W1.heap.size W1).alloc (Nat.le_refl _) (Obj.cells #[.int .i64 0,.int .i64 0] 87))
      have vo:=BlkW.new W1 [.int .i64 0,.int .i64 0] 87
      have hlo2:=hk1.2.2.2
      have hsz2:=hk1.1.size
      have vtb:=BlkW.below vt ((Below.refl W1.heap.size W1).alloc (Nat.le_refl _) (Obj.cells #[.int .i64 0,.int .i64 0] 87))
      have hl2:TB<W1.heap.size:=vt.1.1
      refine hK.out _ _ (HSX.out _ hk2.1) (fun _=>?_)
      clear hK K
      try simp only [Act.put,SL]
      obtain ⟨OB,hOB⟩:∃B,B=W1.heap.size:=⟨_,rfl⟩
      obtain ⟨W2,hW2⟩:∃B,B=W1.alloc (Obj.cells #[.int .i64 0,.int .i64 0] 87):=⟨_,rfl⟩
      have hgOB:∀g,bv.ownBlock=some g→g≠OB:=fun g hg=>by have:=(hlo2.lt g hg).2;omega
      have hwOB:w.heap.size+3≤OB:=by have:=hk1.2.2.1.1.1;omega
      have hne:TB≠OB:=by omega
      rw [←hW2] at hk2 vo ⊢
      rw [←hW2] at vtb
      rw [←hOB] at vo ⊢
      clear hW2 hOB
      refine rd 8 (⟨none,.store 87 (.tmp 8) (.tmp 25),0,"l07_window.go:67",#[⟨6,.data⟩,⟨2,.data⟩,⟨0,.phase⟩,⟨1,.phase⟩,⟨2,.phase⟩,{on:=3,ground:=Ground.textOnly Departure.lateStores},{on:=4,ground:=Ground.textOnly Departure.lateStores},{on:=5,ground:=Ground.textOnly Departure.lateStores},⟨6,.phase⟩,⟨7,.phase⟩],none⟩) (fun K hK=>?_)
      have a0:W2.cell? ⟨OB,0,none⟩=some (.int .i64 0):=vo.1.2 0 (by simp)
      have a1:W2.cell? ⟨OB,1,none⟩=some (.int .i64 0):=vo.1.2 1 (by simp)
      have g0:W2.frozen? ⟨OB,0,none⟩=false:=vo.2 0 (by simp)
      have g1:W2.frozen? ⟨OB,1,none⟩=false:=vo.2 1 (by simp)
      have gl:=vo.1.1
      go_simp
      try go_wp2_with fail
      have hk3:=@KWH.put w ta tl tc _ _ _ (@KWH.put w ta tl tc _ _ _ hk2 OB 0 (.int .i64 xh) hwOB hgOB) OB 1 (.int .i64 xs) hwOB hgOB
      have voc:=BlkW.set (BlkW.set vo 0 (.int .i64 xh) (by simp)) 1 (.int .i64 xs) (by simp)
      have vtbc:=BlkW.other (BlkW.other vtb OB 0 (.int .i64 xh) (by omega)) OB 1 (.int .i64 xs) (by omega)
      clear a0 a1 g0 g1 gl
      refine hK.out _ _ (HSX.out _ hk3.1) (fun _=>?_)
      clear hK K
      try simp only [Act.put,SL]
      obtain ⟨W3,hW3⟩:∃B,B=(W2.setCell ⟨OB,0,none⟩ (.int .i64 xh)).setCell ⟨OB,1,none⟩ (.int .i64 xs):=⟨_,rfl⟩
      rw [←hW3] at hk3 voc vtbc ⊢
      clear hW3
      refine rd 9 (⟨none,.store 87 (.tmp 9) (.tmp 28),0,"l07_window.go:67",#[⟨7,.data⟩,⟨5,.data⟩,⟨8,.chain⟩,⟨0,.phase⟩,⟨1,.phase⟩,⟨2,.phase⟩,⟨3,.phase⟩,⟨4,.phase⟩,⟨5,.phase⟩,⟨6,.phase⟩,⟨7,.phase⟩,⟨8,.phase⟩],none⟩) (fun K hK=>?_)
      have a0:W3.cell? ⟨TB,0,none⟩=some (.int .i64 0):=vtbc.1.2 0 (by simp)
      have a1:W3.cell? ⟨TB,1,none⟩=some (.int .i64 0):=vtbc.1.2 1 (by simp)
      have g0:W3.frozen? ⟨TB,0,none⟩=false:=vtbc.2 0 (by simp)
      have g1:W3.frozen? ⟨TB,1,none⟩=false:=vtbc.2 1 (by simp)
      have gl:=vtbc.1.1
      go_simp
      try go_wp2_with fail
      have hk4:=@KWH.put w ta tl tc _ _ _ (@KWH.put w ta tl tc _ _ _ hk3 TB 0 (.int .i64 yh) hwTB hgTB) TB 1 (.int .i64 ys) hwTB hgTB
      have vtbcc:=BlkW.set (BlkW.set vtbc 0 (.int .i64 yh) (by simp)) 1 (.int .i64 ys) (by simp)
      have vocc:=BlkW.other (BlkW.other voc TB 0 (.int .i64 yh) (by omega)) TB 1 (.int .i64 ys) (by omega)
      clear a0 a1 g0 g1 gl
      refine hK.out _ _ (HSX.out _ hk4.1) (fun _=>?_)
      clear hK K
      try simp only [Act.put,SL]
      obtain ⟨W4,hW4⟩:∃B,B=(W3.setCell ⟨TB,0,none⟩ (.int .i64 yh)).setCell ⟨TB,1,none⟩ (.int .i64 ys):=⟨_,rfl⟩
      rw [←hW4] at hk4 vtbcc vocc ⊢
      clear hW4
      refine wpAnyH_done (by kernel_rfl) ?_ _
      have HKF:=H_ hk4
      have HOF:=H_ vocc.1
      have HTF:=H_ vtbcc.1
      go_wp2_with fail
      go_meet
      case rel=>exact ⟨OB,TB,rfl,rfl,HKF,HOF,HTF,H_ (fun g hg=>⟨hgOB g hg,hgTB g hg⟩)⟩
    case rest =>
     obtain ⟨OB,TB,rfl,rfl,HKc,HOc,HTc,HGN⟩:=hcut
     clear HK
     have HKd:Hid (KWH w ta tl tc P bv wc.drew):=H_ (@KWH.below w ta tl tc _ _ _ _ HKc.out (Below.refl _ _).drew)
     have HOd:=H_ (HOc.out.below (Below.refl _ _).drew)
     have HTd:=H_ (HTc.out.below (Below.refl _ _).drew)
     clear HKc HOc HTc
     go_wp2_with fail
     refine wp_region_held_drew (S:=(fun W=>Below w.heap.size w W∧w.heap.size<W.heap.size∧OB<W.heap.size∧TB<W.heap.size∧W.cell? ⟨w.heap.size,1,none⟩=some (.func (.func 62) #[] #[])∧W.cell? ⟨w.heap.size,2,none⟩=some (.func (.func 63) #[] #[])∧W.cell? ⟨OB,0,none⟩=some (.int .i64 xh)∧W.cell? ⟨OB,1,none⟩=some (.int .i64 xs)∧W.cell? ⟨TB,0,none⟩=some (.int .i64 yh)∧W.cell? ⟨TB,1,none⟩=some (.int .i64 ys))) (by kernel_rfl) (K5 (w:=w) (ta:=ta) (tl:=tl) (tc:=tc) HKd.out HOd.out HTd.out) (fun hHeld=>?_)
     obtain ⟨Wd,hWd⟩:∃Wd,Wd=wc.drew:=⟨_,rfl⟩
     rw [←hWd] at HKd HOd HTd ⊢
     try rw [←hWd] at hHeld
     clear hWd
     refine tk 0 (⟨some 29,.fieldAddr 52 (.tmp 2) 1,0,"l07_window.go:68",#[],none⟩) ?_
     refine tk 1 (⟨some 30,.load 49 (.tmp 29),49,"l07_window.go:68",#[⟨0,.data⟩],none⟩) ?_
     refine tk 2 (⟨some 31,.load 87 (.tmp 8),87,"l07_window.go:68",#[],none⟩) ?_
     refine tk 4 (⟨some 33,.fieldAddr 52 (.tmp 2) 1,0,"l07_window.go:68",#[],none⟩) ?_
     refine tk 5 (⟨some 34,.load 49 (.tmp 33),49,"l07_window.go:68",#[⟨4,.data⟩],none⟩) ?_
     refine tk 6 (⟨some 35,.load 87 (.tmp 9),87,"l07_window.go:68",#[],none⟩) ?_
     refine rd 3 (⟨some 32,.call {callee:=Callee.value (.tmp 30),args:=#[.tmp 31],argTypes:=#[87]},2,"l07_window.go:68",#[⟨1,.data⟩,⟨2,.data⟩],none⟩) (fun K hK=>?_)
     go_simp
     go_at_call 62
     refine (hkey xh xs _).mono ?_
     rintro e q1 ⟨rfl,hq1⟩
     try go_wp2_with fail
     have hkq1:=@KWH.below w ta tl tc _ _ _ _ HKd.out hq1
     have hoq1:=HOd.out.below hq1
     have htq1:=HTd.out.below hq1
     refine hK.out _ _ (K5 (w:=w) (ta:=ta) (tl:=tl) (tc:=tc) hkq1 hoq1 htq1) (fun _=>?_)
     clear hK K
     try simp only [Act.put,SL]
     refine rd 7 (⟨some 36,.call {callee:=Callee.value (.tmp 34),args:=#[.tmp 35],argTypes:=#[87]},2,"l07_window.go:68",#[⟨5,.data⟩,⟨6,.data⟩,⟨3,.chain⟩],none⟩) (fun K hK=>?_)
     go_simp
     go_at_call 62
     refine (hkey yh ys _).mono ?_
     rintro e q2 ⟨rfl,hq2⟩
     try go_wp2_with fail
     have hkq2:=@KWH.below w ta tl tc _ _ _ _ hkq1 hq2
     have hoq2:=hoq1.below hq2
     have htq2:=htq1.below hq2
     refine hK.out _ _ (K5 (w:=w) (ta:=ta) (tl:=tl) (tc:=tc) hkq2 hoq2 htq2) (fun _=>?_)
     clear hK K
     try simp only [Act.put,SL]
     refine rd 8 (⟨some 37,.call {callee:=Callee.value (.func 73),args:=#[.tmp 32,.tmp 36],argTypes:=#[2,2]},3,"l07_window.go:68",#[⟨3,.data⟩,⟨7,.data⟩,⟨7,.chain⟩],none⟩) (fun K hK=>?_)
     go_simp
     go_at_call 73
     refine (HC.out _).mono ?_
     rintro e wh ⟨rfl,hwh⟩
     rw [hwh]
     clear hwh wh
     try go_wp2_with fail
     refine hK.out _ _ (K5 (w:=w) (ta:=ta) (tl:=tl) (tc:=tc) hkq2 hoq2 htq2) (fun _=>?_)
     clear hK K
     try simp only [Act.put,SL]
     refine tk 9 (⟨some 10,.assign (.tmp 37),3,"l07_window.go:68",#[⟨8,.data⟩,⟨8,.chain⟩,⟨0,.phase⟩,⟨1,.phase⟩,⟨2,.phase⟩,⟨3,.phase⟩,⟨4,.phase⟩,⟨5,.phase⟩,⟨6,.phase⟩,⟨7,.phase⟩,⟨8,.phase⟩],none⟩) ?_
     refine wpAnyH_done (by kernel_rfl) ?_ _
     have HK2:=H_ hkq2
     have HO2:=H_ hoq2
     have HT2:=H_ htq2
     clear hkq2 hoq2 htq2
     obtain ⟨W2,hW2⟩:∃W2,W2=q2:=⟨_,rfl⟩
     rw [←hW2] at HK2 HO2 HT2 ⊢
     clear hW2
     go_wp2_with fail
     by_cases hlc:lc=1
     ·have hl1:lc=1:=hlc
      obtain rfl:ll=0:=by omega
      subst hl1
      by_cases hrc:rc=1
      ·have hr1:rc=1:=hrc
       obtain rfl:rl=0:=by omega
       subst hr1
       have HKd:Hid (KWH w ta tl tc P bv W2.drew):=H_ (@KWH.below w ta tl tc _ _ _ _ HK2.out (Below.refl _ _).drew)
       have HOd:=H_ (HO2.out.below (Below.refl _ _).drew)
       have HTd:=H_ (HT2.out.below (Below.refl _ _).drew)
       clear HK2 HO2 HT2
       refine wp_region_held_drew (S:=(fun W=>Below w.heap.size w W∧w.heap.size<W.heap.size∧OB<W.heap.size∧TB<W.heap.size∧W.cell? ⟨w.heap.size,1,none⟩=some (.func (.func 62) #[] #[])∧W.cell? ⟨w.heap.size,2,none⟩=some (.func (.func 63) #[] #[])∧W.cell? ⟨OB,0,none⟩=some (.int .i64 xh)∧W.cell? ⟨OB,1,none⟩=some (.int .i64 xs)∧W.cell? ⟨TB,0,none⟩=some (.int .i64 yh)∧W.cell? ⟨TB,1,none⟩=some (.int .i64 ys))) (by kernel_rfl) (K5 (w:=w) (ta:=ta) (tl:=tl) (tc:=tc) HKd.out HOd.out HTd.out) (fun hHeld=>?_)
       obtain ⟨Wd,hWd⟩:∃Wd,Wd=W2.drew:=⟨_,rfl⟩
       rw [←hWd] at HKd HOd HTd ⊢
       try rw [←hWd] at hHeld
       clear hWd
       refine tk 0 (⟨some 38,.move (.tmp 5),24,"l07_window.go:74",#[],none⟩) ?_
       refine tk 1 (⟨some 39,.fieldAddr 52 (.tmp 2) 2,0,"l07_window.go:74",#[],none⟩) ?_
       refine tk 2 (⟨some 40,.load 50 (.tmp 39),50,"l07_window.go:74",#[⟨1,.data⟩],none⟩) ?_
       refine tk 3 (⟨some 41,.load 87 (.tmp 8),87,"l07_window.go:74",#[],none⟩) ?_
       refine tk 4 (⟨some 42,.load 87 (.tmp 9),87,"l07_window.go:74",#[],none⟩) ?_
       refine tk 8 (⟨some 46,.move (.tmp 6),24,"l07_window.go:74",#[],none⟩) ?_
       refine tk 9 (⟨some 47,.slice 24 (.tmp 46) (some (.const (Value.int IntKind.i64 1))) none none,24,"l07_window.go:74",#[⟨8,.data⟩],none⟩) ?_
       refine tk 10 (⟨some 48,.move (.tmp 7),24,"l07_window.go:74",#[],none⟩) ?_
       refine tk 11 (⟨some 49,.slice 24 (.tmp 48) (some (.const (Value.int IntKind.i64 1))) none none,24,"l07_window.go:74",#[⟨10,.data⟩],none⟩) ?_
       refine rd 5 (⟨some 43,.call {callee:=Callee.value (.tmp 40),args:=#[.tmp 41,.tmp 42],argTypes:=#[87,87]},87,"l07_window.go:74",#[⟨2,.data⟩,⟨3,.data⟩,⟨4,.data⟩],none⟩) (fun K hK=>?_)
       go_simp
       go_at_call 63
       refine (hmeet ⟨xh,xs⟩ ⟨yh,ys⟩ _ ⟨sx1,sx2⟩ ⟨sy1,sy2⟩).mono ?_
       rintro e q7 ⟨rfl,hq7⟩
       try go_wp2_with fail
       have hk7:=@KWH.below w ta tl tc _ _ _ _ HKd.out hq7
       have ho7:=HOd.out.below hq7
       have ht7:=HTd.out.below hq7
       unfold addH
       dsimp only
       refine hK.out _ _ (K5 (w:=w) (ta:=ta) (tl:=tl) (tc:=tc) hk7 ho7 ht7) (fun _=>?_)
       clear hK K
       try simp only [Act.put,SL]
       refine rd 6 (⟨some 44,.buildSlice 24 1 #[(0,.tmp 43)],24,"l07_window.go:74",#[⟨5,.data⟩],none⟩) (fun K hK=>?_)
       go_simp
       try go_wp2_with fail
       have hk8:=@KWH.below w ta tl tc _ _ _ _ hk7 ((Below.refl q7.heap.size q7).alloc (Nat.le_refl _) (Obj.cells #[.int .i64 xh,.int .i64 (xs+ys)] 87))
       have ho8:=ho7.below ((Below.refl q7.heap.size q7).alloc (Nat.le_refl _) (Obj.cells #[.int .i64 xh,.int .i64 (xs+ys)] 87))
       have ht8:=ht7.below ((Below.refl q7.heap.size q7).alloc (Nat.le_refl _) (Obj.cells #[.int .i64 xh,.int .i64 (xs+ys)] 87))
       have hz2':=hk7.2.1.1.1
       have hz3:=hk7.2.2.1.1.1
       refine hK.out _ _ (K5 (w:=w) (ta:=ta) (tl:=tl) (tc:=tc) hk8 ho8 ht8) (fun _=>?_)
       clear hK K
       try simp only [Act.put,SL]
       refine rd 7 (⟨some 45,.call {callee:=Callee.builtin Builtin.append,args:=#[.tmp 38,.tmp 44],argTypes:=#[24,24]},24,"l07_window.go:74",#[⟨0,.data⟩,⟨6,.data⟩,⟨5,.chain⟩],none⟩) (fun K hK=>?_)
       refine step_append_own rfl _ _ 24 rfl (w.heap.size+3) 87 i0 (.agg #[.int .i64 0,.int .i64 0]) 2 16 Tryd.underlying24 hi hz0 hz1 hz2 rfl sz3 _ _ _ rfl hk8.2.2.2 ⟨q7.heap.size,0,none⟩ 1 1 [.int .i64 xh,.int .i64 (xs+ys)] rfl rfl (h2_cells _ _ _) (h2_one _ _) sz1 sz2 (by simp;omega) ?_
       intro v' w4 hown hgrow hne
       have hk9:KWH w ta tl tc (P ++ [⟨xh,(xs+ys)⟩]) v' w4:=@KWH.app w ta tl tc _ _ _ _ _ _ _ hk8 hown hgrow
       have ho9:=hblk_grown ho8 hgrow (fun e=>(HGN.out _ e.symm).1 rfl)
       have ht9:=hblk_grown ht8 hgrow (fun e=>(HGN.out _ e.symm).2 rfl)
       refine hK.out _ _ (K5 (w:=w) (ta:=ta) (tl:=tl) (tc:=tc) hk9 ho9 ht9) (fun _=>?_)
       clear hK K
       try simp only [Act.put,SL]
       refine tk 12 (⟨some 5,.assign (.tmp 45),24,"l07_window.go:74",#[⟨7,.data⟩,⟨7,.chain⟩,⟨0,.phase⟩,⟨1,.phase⟩,⟨2,.phase⟩,⟨3,.phase⟩,⟨4,.phase⟩,⟨5,.phase⟩,⟨6,.phase⟩,⟨7,.phase⟩,{on:=8,ground:=Ground.textOnly Departure.lateStores},{on:=9,ground:=Ground.textOnly Departure.lateStoresUnsure},{on:=10,ground:=Ground.textOnly Departure.lateStores},{on:=11,ground:=Ground.textOnly Departure.lateStoresUnsure}],none⟩) ?_
       refine tk 13 (⟨some 6,.assign (.tmp 47),24,"l07_window.go:74",#[⟨9,.data⟩,⟨12,.chain⟩,⟨0,.phase⟩,⟨1,.phase⟩,⟨2,.phase⟩,⟨3,.phase⟩,⟨4,.phase⟩,⟨5,.phase⟩,⟨6,.phase⟩,⟨7,.phase⟩,⟨8,.phase⟩,⟨9,.phase⟩,{on:=10,ground:=Ground.textOnly Departure.lateStores},{on:=11,ground:=Ground.textOnly Departure.lateStoresUnsure},⟨12,.phase⟩],none⟩) ?_
       refine tk 14 (⟨some 7,.assign (.tmp 49),24,"l07_window.go:74",#[⟨11,.data⟩,⟨13,.chain⟩,⟨0,.phase⟩,⟨1,.phase⟩,⟨2,.phase⟩,⟨3,.phase⟩,⟨4,.phase⟩,⟨5,.phase⟩,⟨6,.phase⟩,⟨7,.phase⟩,⟨8,.phase⟩,⟨9,.phase⟩,⟨10,.phase⟩,⟨11,.phase⟩,⟨12,.phase⟩,⟨13,.phase⟩],none⟩) ?_
       refine wpAnyH_done (by kernel_rfl) ?_ _
       have HKF:=H_ hk9
       clear hk9 hk8 ho8 ht8 ho9 ht9 hown hgrow hne hz2' hz3 HKd HOd HTd
       go_wp2_with fail
       go_roundw
       case rel=>exact ⟨P ++ [(⟨xh,xs+ys⟩:H)],L,Q,H_ (KL1.out (by first|rfl|trivial)),H_ (KR1.out (by first|rfl|trivial)),by have:=HLn.out;have:=HRn.out;simp;omega,H_ (fun z hz=>HSL.out z (List.mem_cons_of_mem _ hz)),H_ (fun z hz=>HSQ.out z (List.mem_cons_of_mem _ hz)),H_ (by rw [←HR.out,List.append_assoc];exact congrArg _ HMG.out.symm),HKF⟩
       case measure=>first|(simp [slen];done)|(simp [slen];omega)
      ·have hr1:(1:Int)≤(rc:Int):=by omega
       have hr2:(1:Int)≤(rl:Int)+1:=by omega
       have HKd:Hid (KWH w ta tl tc P bv W2.drew):=H_ (@KWH.below w ta tl tc _ _ _ _ HK2.out (Below.refl _ _).drew)
       have HOd:=H_ (HO2.out.below (Below.refl _ _).drew)
       have HTd:=H_ (HT2.out.below (Below.refl _ _).drew)
       clear HK2 HO2 HT2
       refine wp_region_held_drew (S:=(fun W=>Below w.heap.size w W∧w.heap.size<W.heap.size∧OB<W.heap.size∧TB<W.heap.size∧W.cell? ⟨w.heap.size,1,none⟩=some (.func (.func 62) #[] #[])∧W.cell? ⟨w.heap.size,2,none⟩=some (.func (.func 63) #[] #[])∧W.cell? ⟨OB,0,none⟩=some (.int .i64 xh)∧W.cell? ⟨OB,1,none⟩=some (.int .i64 xs)∧W.cell? ⟨TB,0,none⟩=some (.int .i64 yh)∧W.cell? ⟨TB,1,none⟩=some (.int .i64 ys))) (by kernel_rfl) (K5 (w:=w) (ta:=ta) (tl:=tl) (tc:=tc) HKd.out HOd.out HTd.out) (fun hHeld=>?_)
       obtain ⟨Wd,hWd⟩:∃Wd,Wd=W2.drew:=⟨_,rfl⟩
       rw [←hWd] at HKd HOd HTd ⊢
       try rw [←hWd] at hHeld
       clear hWd
       refine tk 0 (⟨some 38,.move (.tmp 5),24,"l07_window.go:74",#[],none⟩) ?_
       refine tk 1 (⟨some 39,.fieldAddr 52 (.tmp 2) 2,0,"l07_window.go:74",#[],none⟩) ?_
       refine tk 2 (⟨some 40,.load 50 (.tmp 39),50,"l07_window.go:74",#[⟨1,.data⟩],none⟩) ?_
       refine tk 3 (⟨some 41,.load 87 (.tmp 8),87,"l07_window.go:74",#[],none⟩) ?_
       refine tk 4 (⟨some 42,.load 87 (.tmp 9),87,"l07_window.go:74",#[],none⟩) ?_
       refine tk 8 (⟨some 46,.move (.tmp 6),24,"l07_window.go:74",#[],none⟩) ?_
       refine tk 9 (⟨some 47,.slice 24 (.tmp 46) (some (.const (Value.int IntKind.i64 1))) none none,24,"l07_window.go:74",#[⟨8,.data⟩],none⟩) ?_
       refine tk 10 (⟨some 48,.move (.tmp 7),24,"l07_window.go:74",#[],none⟩) ?_
       refine tk 11 (⟨some 49,.slice 24 (.tmp 48) (some (.const (Value.int IntKind.i64 1))) none none,24,"l07_window.go:74",#[⟨10,.data⟩],none⟩) ?_
       refine rd 5 (⟨some 43,.call {callee:=Callee.value (.tmp 40),args:=#[.tmp 41,.tmp 42],argTypes:=#[87,87]},87,"l07_window.go:74",#[⟨2,.data⟩,⟨3,.data⟩,⟨4,.data⟩],none⟩) (fun K hK=>?_)
       go_simp
       go_at_call 63
       refine (hmeet ⟨xh,xs⟩ ⟨yh,ys⟩ _ ⟨sx1,sx2⟩ ⟨sy1,sy2⟩).mono ?_
       rintro e q7 ⟨rfl,hq7⟩
       try go_wp2_with fail
       have hk7:=@KWH.below w ta tl tc _ _ _ _ HKd.out hq7
       have ho7:=HOd.out.below hq7
       have ht7:=HTd.out.below hq7
       unfold addH
       dsimp only
       refine hK.out _ _ (K5 (w:=w) (ta:=ta) (tl:=tl) (tc:=tc) hk7 ho7 ht7) (fun _=>?_)
       clear hK K
       try simp only [Act.put,SL]
       refine rd 6 (⟨some 44,.buildSlice 24 1 #[(0,.tmp 43)],24,"l07_window.go:74",#[⟨5,.data⟩],none⟩) (fun K hK=>?_)
       go_simp
       try go_wp2_with fail
       have hk8:=@KWH.below w ta tl tc _ _ _ _ hk7 ((Below.refl q7.heap.size q7).alloc (Nat.le_refl _) (Obj.cells #[.int .i64 xh,.int .i64 (xs+ys)] 87))
       have ho8:=ho7.below ((Below.refl q7.heap.size q7).alloc (Nat.le_refl _) (Obj.cells #[.int .i64 xh,.int .i64 (xs+ys)] 87))
       have ht8:=ht7.below ((Below.refl q7.heap.size q7).alloc (Nat.le_refl _) (Obj.cells #[.int .i64 xh,.int .i64 (xs+ys)] 87))
       have hz2':=hk7.2.1.1.1
       have hz3:=hk7.2.2.1.1.1
       refine hK.out _ _ (K5 (w:=w) (ta:=ta) (tl:=tl) (tc:=tc) hk8 ho8 ht8) (fun _=>?_)
       clear hK K
       try simp only [Act.put,SL]
       refine rd 7 (⟨some 45,.call {callee:=Callee.builtin Builtin.append,args:=#[.tmp 38,.tmp 44],argTypes:=#[24,24]},24,"l07_window.go:74",#[⟨0,.data⟩,⟨6,.data⟩,⟨5,.chain⟩],none⟩) (fun K hK=>?_)
       refine step_append_own rfl _ _ 24 rfl (w.heap.size+3) 87 i0 (.agg #[.int .i64 0,.int .i64 0]) 2 16 Tryd.underlying24 hi hz0 hz1 hz2 rfl sz3 _ _ _ rfl hk8.2.2.2 ⟨q7.heap.size,0,none⟩ 1 1 [.int .i64 xh,.int .i64 (xs+ys)] rfl rfl (h2_cells _ _ _) (h2_one _ _) sz1 sz2 (by simp;omega) ?_
       intro v' w4 hown hgrow hne
       have hk9:KWH w ta tl tc (P ++ [⟨xh,(xs+ys)⟩]) v' w4:=@KWH.app w ta tl tc _ _ _ _ _ _ _ hk8 hown hgrow
       have ho9:=hblk_grown ho8 hgrow (fun e=>(HGN.out _ e.symm).1 rfl)
       have ht9:=hblk_grown ht8 hgrow (fun e=>(HGN.out _ e.symm).2 rfl)
       refine hK.out _ _ (K5 (w:=w) (ta:=ta) (tl:=tl) (tc:=tc) hk9 ho9 ht9) (fun _=>?_)
       clear hK K
       try simp only [Act.put,SL]
       refine tk 12 (⟨some 5,.assign (.tmp 45),24,"l07_window.go:74",#[⟨7,.data⟩,⟨7,.chain⟩,⟨0,.phase⟩,⟨1,.phase⟩,⟨2,.phase⟩,⟨3,.phase⟩,⟨4,.phase⟩,⟨5,.phase⟩,⟨6,.phase⟩,⟨7,.phase⟩,{on:=8,ground:=Ground.textOnly Departure.lateStores},{on:=9,ground:=Ground.textOnly Departure.lateStoresUnsure},{on:=10,ground:=Ground.textOnly Departure.lateStores},{on:=11,ground:=Ground.textOnly Departure.lateStoresUnsure}],none⟩) ?_
       refine tk 13 (⟨some 6,.assign (.tmp 47),24,"l07_window.go:74",#[⟨9,.data⟩,⟨12,.chain⟩,⟨0,.phase⟩,⟨1,.phase⟩,⟨2,.phase⟩,⟨3,.phase⟩,⟨4,.phase⟩,⟨5,.phase⟩,⟨6,.phase⟩,⟨7,.phase⟩,⟨8,.phase⟩,⟨9,.phase⟩,{on:=10,ground:=Ground.textOnly Departure.lateStores},{on:=11,ground:=Ground.textOnly Departure.lateStoresUnsure},⟨12,.phase⟩],none⟩) ?_
       refine tk 14 (⟨some 7,.assign (.tmp 49),24,"l07_window.go:74",#[⟨11,.data⟩,⟨13,.chain⟩,⟨0,.phase⟩,⟨1,.phase⟩,⟨2,.phase⟩,⟨3,.phase⟩,⟨4,.phase⟩,⟨5,.phase⟩,⟨6,.phase⟩,⟨7,.phase⟩,⟨8,.phase⟩,⟨9,.phase⟩,⟨10,.phase⟩,⟨11,.phase⟩,⟨12,.phase⟩,⟨13,.phase⟩],none⟩) ?_
       refine wpAnyH_done (by kernel_rfl) ?_ _
       have HKF:=H_ hk9
       clear hk9 hk8 ho8 ht8 ho9 ht9 hown hgrow hne hz2' hz3 HKd HOd HTd
       go_wp2_with fail
       go_roundw
       case rel=>exact ⟨P ++ [(⟨xh,xs+ys⟩:H)],L,Q,H_ (KL1.out (by first|rfl|trivial)),H_ (KR2.out hrc),by have:=HLn.out;have:=HRn.out;simp;omega,H_ (fun z hz=>HSL.out z (List.mem_cons_of_mem _ hz)),H_ (fun z hz=>HSQ.out z (List.mem_cons_of_mem _ hz)),H_ (by rw [←HR.out,List.append_assoc];exact congrArg _ HMG.out.symm),HKF⟩
       case measure=>first|(simp [slen];done)|(simp [slen];omega)
     ·have hl1:(1:Int)≤(lc:Int):=by omega
      have hl2:(1:Int)≤(ll:Int)+1:=by omega
      by_cases hrc:rc=1
      ·have hr1:rc=1:=hrc
       obtain rfl:rl=0:=by omega
       subst hr1
       have HKd:Hid (KWH w ta tl tc P bv W2.drew):=H_ (@KWH.below w ta tl tc _ _ _ _ HK2.out (Below.refl _ _).drew)
       have HOd:=H_ (HO2.out.below (Below.refl _ _).drew)
       have HTd:=H_ (HT2.out.below (Below.refl _ _).drew)
       clear HK2 HO2 HT2
       refine wp_region_held_drew (S:=(fun W=>Below w.heap.size w W∧w.heap.size<W.heap.size∧OB<W.heap.size∧TB<W.heap.size∧W.cell? ⟨w.heap.size,1,none⟩=some (.func (.func 62) #[] #[])∧W.cell? ⟨w.heap.size,2,none⟩=some (.func (.func 63) #[] #[])∧W.cell? ⟨OB,0,none⟩=some (.int .i64 xh)∧W.cell? ⟨OB,1,none⟩=some (.int .i64 xs)∧W.cell? ⟨TB,0,none⟩=some (.int .i64 yh)∧W.cell? ⟨TB,1,none⟩=some (.int .i64 ys))) (by kernel_rfl) (K5 (w:=w) (ta:=ta) (tl:=tl) (tc:=tc) HKd.out HOd.out HTd.out) (fun hHeld=>?_)
       obtain ⟨Wd,hWd⟩:∃Wd,Wd=W2.drew:=⟨_,rfl⟩
       rw [←hWd] at HKd HOd HTd ⊢
       try rw [←hWd] at hHeld
       clear hWd
       refine tk 0 (⟨some 38,.move (.tmp 5),24,"l07_window.go:74",#[],none⟩) ?_
       refine tk 1 (⟨some 39,.fieldAddr 52 (.tmp 2) 2,0,"l07_window.go:74",#[],none⟩) ?_
       refine tk 2 (⟨some 40,.load 50 (.tmp 39),50,"l07_window.go:74",#[⟨1,.data⟩],none⟩) ?_
       refine tk 3 (⟨some 41,.load 87 (.tmp 8),87,"l07_window.go:74",#[],none⟩) ?_
       refine tk 4 (⟨some 42,.load 87 (.tmp 9),87,"l07_window.go:74",#[],none⟩) ?_
       refine tk 8 (⟨some 46,.move (.tmp 6),24,"l07_window.go:74",#[],none⟩) ?_
       refine tk 9 (⟨some 47,.slice 24 (.tmp 46) (some (.const (Value.int IntKind.i64 1))) none none,24,"l07_window.go:74",#[⟨8,.data⟩],none⟩) ?_
       refine tk 10 (⟨some 48,.move (.tmp 7),24,"l07_window.go:74",#[],none⟩) ?_
       refine tk 11 (⟨some 49,.slice 24 (.tmp 48) (some (.const (Value.int IntKind.i64 1))) none none,24,"l07_window.go:74",#[⟨10,.data⟩],none⟩) ?_
       refine rd 5 (⟨some 43,.call {callee:=Callee.value (.tmp 40),args:=#[.tmp 41,.tmp 42],argTypes:=#[87,87]},87,"l07_window.go:74",#[⟨2,.data⟩,⟨3,.data⟩,⟨4,.data⟩],none⟩) (fun K hK=>?_)
       go_simp
       go_at_call 63
       refine (hmeet ⟨xh,xs⟩ ⟨yh,ys⟩ _ ⟨sx1,sx2⟩ ⟨sy1,sy2⟩).mono ?_
       rintro e q7 ⟨rfl,hq7⟩
       try go_wp2_with fail
       have hk7:=@KWH.below w ta tl tc _ _ _ _ HKd.out hq7
       have ho7:=HOd.out.below hq7
       have ht7:=HTd.out.below hq7
       unfold addH
       dsimp only
       refine hK.out _ _ (K5 (w:=w) (ta:=ta) (tl:=tl) (tc:=tc) hk7 ho7 ht7) (fun _=>?_)
       clear hK K
       try simp only [Act.put,SL]
       refine rd 6 (⟨some 44,.buildSlice 24 1 #[(0,.tmp 43)],24,"l07_window.go:74",#[⟨5,.data⟩],none⟩) (fun K hK=>?_)
       go_simp
       try go_wp2_with fail
       have hk8:=@KWH.below w ta tl tc _ _ _ _ hk7 ((Below.refl q7.heap.size q7).alloc (Nat.le_refl _) (Obj.cells #[.int .i64 xh,.int .i64 (xs+ys)] 87))
       have ho8:=ho7.below ((Below.refl q7.heap.size q7).alloc (Nat.le_refl _) (Obj.cells #[.int .i64 xh,.int .i64 (xs+ys)] 87))
       have ht8:=ht7.below ((Below.refl q7.heap.size q7).alloc (Nat.le_refl _) (Obj.cells #[.int .i64 xh,.int .i64 (xs+ys)] 87))
       have hz2':=hk7.2.1.1.1
       have hz3:=hk7.2.2.1.1.1
       refine hK.out _ _ (K5 (w:=w) (ta:=ta) (tl:=tl) (tc:=tc) hk8 ho8 ht8) (fun _=>?_)
       clear hK K
       try simp only [Act.put,SL]
       refine rd 7 (⟨some 45,.call {callee:=Callee.builtin Builtin.append,args:=#[.tmp 38,.tmp 44],argTypes:=#[24,24]},24,"l07_window.go:74",#[⟨0,.data⟩,⟨6,.data⟩,⟨5,.chain⟩],none⟩) (fun K hK=>?_)
       refine step_append_own rfl _ _ 24 rfl (w.heap.size+3) 87 i0 (.agg #[.int .i64 0,.int .i64 0]) 2 16 Tryd.underlying24 hi hz0 hz1 hz2 rfl sz3 _ _ _ rfl hk8.2.2.2 ⟨q7.heap.size,0,none⟩ 1 1 [.int .i64 xh,.int .i64 (xs+ys)] rfl rfl (h2_cells _ _ _) (h2_one _ _) sz1 sz2 (by simp;omega) ?_
       intro v' w4 hown hgrow hne
       have hk9:KWH w ta tl tc (P ++ [⟨xh,(xs+ys)⟩]) v' w4:=@KWH.app w ta tl tc _ _ _ _ _ _ _ hk8 hown hgrow
       have ho9:=hblk_grown ho8 hgrow (fun e=>(HGN.out _ e.symm).1 rfl)
       have ht9:=hblk_grown ht8 hgrow (fun e=>(HGN.out _ e.symm).2 rfl)
       refine hK.out _ _ (K5 (w:=w) (ta:=ta) (tl:=tl) (tc:=tc) hk9 ho9 ht9) (fun _=>?_)
       clear hK K
       try simp only [Act.put,SL]
       refine tk 12 (⟨some 5,.assign (.tmp 45),24,"l07_window.go:74",#[⟨7,.data⟩,⟨7,.chain⟩,⟨0,.phase⟩,⟨1,.phase⟩,⟨2,.phase⟩,⟨3,.phase⟩,⟨4,.phase⟩,⟨5,.phase⟩,⟨6,.phase⟩,⟨7,.phase⟩,{on:=8,ground:=Ground.textOnly Departure.lateStores},{on:=9,ground:=Ground.textOnly Departure.lateStoresUnsure},{on:=10,ground:=Ground.textOnly Departure.lateStores},{on:=11,ground:=Ground.textOnly Departure.lateStoresUnsure}],none⟩) ?_
       refine tk 13 (⟨some 6,.assign (.tmp 47),24,"l07_window.go:74",#[⟨9,.data⟩,⟨12,.chain⟩,⟨0,.phase⟩,⟨1,.phase⟩,⟨2,.phase⟩,⟨3,.phase⟩,⟨4,.phase⟩,⟨5,.phase⟩,⟨6,.phase⟩,⟨7,.phase⟩,⟨8,.phase⟩,⟨9,.phase⟩,{on:=10,ground:=Ground.textOnly Departure.lateStores},{on:=11,ground:=Ground.textOnly Departure.lateStoresUnsure},⟨12,.phase⟩],none⟩) ?_
       refine tk 14 (⟨some 7,.assign (.tmp 49),24,"l07_window.go:74",#[⟨11,.data⟩,⟨13,.chain⟩,⟨0,.phase⟩,⟨1,.phase⟩,⟨2,.phase⟩,⟨3,.phase⟩,⟨4,.phase⟩,⟨5,.phase⟩,⟨6,.phase⟩,⟨7,.phase⟩,⟨8,.phase⟩,⟨9,.phase⟩,⟨10,.phase⟩,⟨11,.phase⟩,⟨12,.phase⟩,⟨13,.phase⟩],none⟩) ?_
       refine wpAnyH_done (by kernel_rfl) ?_ _
       have HKF:=H_ hk9
       clear hk9 hk8 ho8 ht8 ho9 ht9 hown hgrow hne hz2' hz3 HKd HOd HTd
       go_wp2_with fail
       go_roundw
       case rel=>exact ⟨P ++ [(⟨xh,xs+ys⟩:H)],L,Q,H_ (KL2.out hlc),H_ (KR1.out (by first|rfl|trivial)),by have:=HLn.out;have:=HRn.out;simp;omega,H_ (fun z hz=>HSL.out z (List.mem_cons_of_mem _ hz)),H_ (fun z hz=>HSQ.out z (List.mem_cons_of_mem _ hz)),H_ (by rw [←HR.out,List.append_assoc];exact congrArg _ HMG.out.symm),HKF⟩
       case measure=>first|(simp [slen];done)|(simp [slen];omega)
      ·have hr1:(1:Int)≤(rc:Int):=by omega
       have hr2:(1:Int)≤(rl:Int)+1:=by omega
       have HKd:Hid (KWH w ta tl tc P bv W2.drew):=H_ (@KWH.below w ta tl tc _ _ _ _ HK2.out (Below.refl _ _).drew)
       have HOd:=H_ (HO2.out.below (Below.refl _ _).drew)
       have HTd:=H_ (HT2.out.below (Below.refl _ _).drew)
       clear HK2 HO2 HT2
       refine wp_region_held_drew (S:=(fun W=>Below w.heap.size w W∧w.heap.size<W.heap.size∧OB<W.heap.size∧TB<W.heap.size∧W.cell? ⟨w.heap.size,1,none⟩=some (.func (.func 62) #[] #[])∧W.cell? ⟨w.heap.size,2,none⟩=some (.func (.func 63) #[] #[])∧W.cell? ⟨OB,0,none⟩=some (.int .i64 xh)∧W.cell? ⟨OB,1,none⟩=some (.int .i64 xs)∧W.cell? ⟨TB,0,none⟩=some (.int .i64 yh)∧W.cell? ⟨TB,1,none⟩=some (.int .i64 ys))) (by kernel_rfl) (K5 (w:=w) (ta:=ta) (tl:=tl) (tc:=tc) HKd.out HOd.out HTd.out) (fun hHeld=>?_)
       obtain ⟨Wd,hWd⟩:∃Wd,Wd=W2.drew:=⟨_,rfl⟩
       rw [←hWd] at HKd HOd HTd ⊢
       try rw [←hWd] at hHeld
       clear hWd
       refine tk 0 (⟨some 38,.move (.tmp 5),24,"l07_window.go:74",#[],none⟩) ?_
       refine tk 1 (⟨some 39,.fieldAddr 52 (.tmp 2) 2,0,"l07_window.go:74",#[],none⟩) ?_
       refine tk 2 (⟨some 40,.load 50 (.tmp 39),50,"l07_window.go:74",#[⟨1,.data⟩],none⟩) ?_
       refine tk 3 (⟨some 41,.load 87 (.tmp 8),87,"l07_window.go:74",#[],none⟩) ?_
       refine tk 4 (⟨some 42,.load 87 (.tmp 9),87,"l07_window.go:74",#[],none⟩) ?_
       refine tk 8 (⟨some 46,.move (.tmp 6),24,"l07_window.go:74",#[],none⟩) ?_
       refine tk 9 (⟨some 47,.slice 24 (.tmp 46) (some (.const (Value.int IntKind.i64 1))) none none,24,"l07_window.go:74",#[⟨8,.data⟩],none⟩) ?_
       refine tk 10 (⟨some 48,.move (.tmp 7),24,"l07_window.go:74",#[],none⟩) ?_
       refine tk 11 (⟨some 49,.slice 24 (.tmp 48) (some (.const (Value.int IntKind.i64 1))) none none,24,"l07_window.go:74",#[⟨10,.data⟩],none⟩) ?_
       refine rd 5 (⟨some 43,.call {callee:=Callee.value (.tmp 40),args:=#[.tmp 41,.tmp 42],argTypes:=#[87,87]},87,"l07_window.go:74",#[⟨2,.data⟩,⟨3,.data⟩,⟨4,.data⟩],none⟩) (fun K hK=>?_)
       go_simp
       go_at_call 63
       refine (hmeet ⟨xh,xs⟩ ⟨yh,ys⟩ _ ⟨sx1,sx2⟩ ⟨sy1,sy2⟩).mono ?_
       rintro e q7 ⟨rfl,hq7⟩
       try go_wp2_with fail
       have hk7:=@KWH.below w ta tl tc _ _ _ _ HKd.out hq7
       have ho7:=HOd.out.below hq7
       have ht7:=HTd.out.below hq7
       unfold addH
       dsimp only
       refine hK.out _ _ (K5 (w:=w) (ta:=ta) (tl:=tl) (tc:=tc) hk7 ho7 ht7) (fun _=>?_)
       clear hK K
       try simp only [Act.put,SL]
       refine rd 6 (⟨some 44,.buildSlice 24 1 #[(0,.tmp 43)],24,"l07_window.go:74",#[⟨5,.data⟩],none⟩) (fun K hK=>?_)
       go_simp
       try go_wp2_with fail
       have hk8:=@KWH.below w ta tl tc _ _ _ _ hk7 ((Below.refl q7.heap.size q7).alloc (Nat.le_refl _) (Obj.cells #[.int .i64 xh,.int .i64 (xs+ys)] 87))
       have ho8:=ho7.below ((Below.refl q7.heap.size q7).alloc (Nat.le_refl _) (Obj.cells #[.int .i64 xh,.int .i64 (xs+ys)] 87))
       have ht8:=ht7.below ((Below.refl q7.heap.size q7).alloc (Nat.le_refl _) (Obj.cells #[.int .i64 xh,.int .i64 (xs+ys)] 87))
       have hz2':=hk7.2.1.1.1
       have hz3:=hk7.2.2.1.1.1
       refine hK.out _ _ (K5 (w:=w) (ta:=ta) (tl:=tl) (tc:=tc) hk8 ho8 ht8) (fun _=>?_)
       clear hK K
       try simp only [Act.put,SL]
       refine rd 7 (⟨some 45,.call {callee:=Callee.builtin Builtin.append,args:=#[.tmp 38,.tmp 44],argTypes:=#[24,24]},24,"l07_window.go:74",#[⟨0,.data⟩,⟨6,.data⟩,⟨5,.chain⟩],none⟩) (fun K hK=>?_)
       refine step_append_own rfl _ _ 24 rfl (w.heap.size+3) 87 i0 (.agg #[.int .i64 0,.int .i64 0]) 2 16 Tryd.underlying24 hi hz0 hz1 hz2 rfl sz3 _ _ _ rfl hk8.2.2.2 ⟨q7.heap.size,0,none⟩ 1 1 [.int .i64 xh,.int .i64 (xs+ys)] rfl rfl (h2_cells _ _ _) (h2_one _ _) sz1 sz2 (by simp;omega) ?_
       intro v' w4 hown hgrow hne
       have hk9:KWH w ta tl tc (P ++ [⟨xh,(xs+ys)⟩]) v' w4:=@KWH.app w ta tl tc _ _ _ _ _ _ _ hk8 hown hgrow
       have ho9:=hblk_grown ho8 hgrow (fun e=>(HGN.out _ e.symm).1 rfl)
       have ht9:=hblk_grown ht8 hgrow (fun e=>(HGN.out _ e.symm).2 rfl)
       refine hK.out _ _ (K5 (w:=w) (ta:=ta) (tl:=tl) (tc:=tc) hk9 ho9 ht9) (fun _=>?_)
       clear hK K
       try simp only [Act.put,SL]
       refine tk 12 (⟨some 5,.assign (.tmp 45),24,"l07_window.go:74",#[⟨7,.data⟩,⟨7,.chain⟩,⟨0,.phase⟩,⟨1,.phase⟩,⟨2,.phase⟩,⟨3,.phase⟩,⟨4,.phase⟩,⟨5,.phase⟩,⟨6,.phase⟩,⟨7,.phase⟩,{on:=8,ground:=Ground.textOnly Departure.lateStores},{on:=9,ground:=Ground.textOnly Departure.lateStoresUnsure},{on:=10,ground:=Ground.textOnly Departure.lateStores},{on:=11,ground:=Ground.textOnly Departure.lateStoresUnsure}],none⟩) ?_
       refine tk 13 (⟨some 6,.assign (.tmp 47),24,"l07_window.go:74",#[⟨9,.data⟩,⟨12,.chain⟩,⟨0,.phase⟩,⟨1,.phase⟩,⟨2,.phase⟩,⟨3,.phase⟩,⟨4,.phase⟩,⟨5,.phase⟩,⟨6,.phase⟩,⟨7,.phase⟩,⟨8,.phase⟩,⟨9,.phase⟩,{on:=10,ground:=Ground.textOnly Departure.lateStores},{on:=11,ground:=Ground.textOnly Departure.lateStoresUnsure},⟨12,.phase⟩],none⟩) ?_
       refine tk 14 (⟨some 7,.assign (.tmp 49),24,"l07_window.go:74",#[⟨11,.data⟩,⟨13,.chain⟩,⟨0,.phase⟩,⟨1,.phase⟩,⟨2,.phase⟩,⟨3,.phase⟩,⟨4,.phase⟩,⟨5,.phase⟩,⟨6,.phase⟩,⟨7,.phase⟩,⟨8,.phase⟩,⟨9,.phase⟩,⟨10,.phase⟩,⟨11,.phase⟩,⟨12,.phase⟩,⟨13,.phase⟩],none⟩) ?_
       refine wpAnyH_done (by kernel_rfl) ?_ _
       have HKF:=H_ hk9
       clear hk9 hk8 ho8 ht8 ho9 ht9 hown hgrow hne hz2' hz3 HKd HOd HTd
       go_wp2_with fail
       go_roundw
       case rel=>exact ⟨P ++ [(⟨xh,xs+ys⟩:H)],L,Q,H_ (KL2.out hlc),H_ (KR2.out hrc),by have:=HLn.out;have:=HRn.out;simp;omega,H_ (fun z hz=>HSL.out z (List.mem_cons_of_mem _ hz)),H_ (fun z hz=>HSQ.out z (List.mem_cons_of_mem _ hz)),H_ (by rw [←HR.out,List.append_assoc];exact congrArg _ HMG.out.symm),HKF⟩
       case measure=>first|(simp [slen];done)|(simp [slen];omega)
end WinR
end Go.Proofs.YteejpnkmnmoebaaDoor
