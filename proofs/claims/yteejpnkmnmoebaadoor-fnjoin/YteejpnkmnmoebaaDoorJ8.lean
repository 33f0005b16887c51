/-
  An hour added to others in its place, the model's way. The conditions: at most 1048575 hours, in a list that has room for them; sums that are far from running over.
  What is shown once is used on every way to it. No condition.
-/
import Derived.Deep.QuietTactic
import Derived.Test.YteejpnkmnmoebaaDoorJ7
namespace Go.Proofs.YteejpnkmnmoebaaDoor
open Go.ChangeShapes Go.WideShapes Go.ChangeAt Go.RowKit
set_option linter.unusedVariables false
namespace WinR
open RowG (MadeG Rws cellsAll cellsAll_len cellsAll_get own_made take_more getD_mem)
theorem bdrewN {B:Nat} {a w:World} (h:Below B a w) (n:Nat):Below B a (w.drewN n):=⟨h.os,h.tape,h.output,h.size,h.block⟩
theorem h2_cells (w:World) (x y:Int):∀j u,[Value.int .i64 x,.int .i64 y][j]? = some u→(w.alloc (.cells #[.int .i64 x,.int .i64 y] 87)).cell? ((⟨w.heap.size,0,none⟩:Addr).add j)=some u:=by
 intro j u h
 match j,h with
 | 0,h=>rw [Addr.add_lit];simp at h;subst h;simp [go_sem]
 | 1,h=>rw [Addr.add_lit];simp at h;subst h;simp [go_sem]
theorem h2_one (x y:Int):∀u∈[Value.int .i64 x,.int .i64 y],u.oneCell'=true:=by
 intro u h
 simp at h
 rcases h with rfl|rfl<;>rfl
def addH (x y:H):H:=⟨x.h,x.s+y.s⟩
theorem Hrs.two {b off:Nat} {hs:List H} {w:World} (h:Hrs (some ⟨b,off,none⟩) hs w) (q:Nat) (hq:q<hs.length):b<w.heap.size∧w.cell? ⟨b,off+q*2,none⟩=some (.int .i64 (hs.getD q H.zero).h)∧w.cell? ⟨b,off+q*2+1,none⟩=some (.int .i64 (hs.getD q H.zero).s):=by
 obtain ⟨b',off',e,hl,hc⟩:=Rws.at h q hq
 simp only [Option.some.injEq,Addr.mk.injEq,and_true] at e
 obtain ⟨rfl,rfl⟩:=e
 exact ⟨hl,by simpa [H.cells] using hc 0 (by omega),by simpa [H.cells] using hc 1 (by omega)⟩
set_option maxRecDepth 100000 in
set_option maxHeartbeats 8000000 in
theorem shour (b off cap:Nat) (hs:List H) (x y:Int) (w:World) (hl:hs.length≤1048575) (hcap:hs.length≤cap) (hcm:cap≤maxLen) (hbw:b<w.heap.size) (hy:0≤y∧y≤1000000000000000) (hsm:∀z∈hs,0≤z.s∧z.s≤1000000000000000) (hT:Hrs (some ⟨b,off,none⟩) hs w) :
 Calls Tryd.prog 49 #[.slice (some ⟨b,off,none⟩) hs.length cap,.agg #[.int .i64 x,.int .i64 y]] w fun e w'=>∃b' o' c',e=.returned (.slice (some ⟨b',o',none⟩) (ins hlt addH hs ⟨x,y⟩).length c')∧Hrs (some ⟨b',o',none⟩) (ins hlt addH hs ⟨x,y⟩) w'∧(ins hlt addH hs ⟨x,y⟩).length≤c'∧c'≤maxLen∧(b'=b∨w.heap.size≤b')∧Below w.heap.size w w':=by
 obtain ⟨i0,hi,hz0,hz1,hz2⟩:=info_parts infoH
 have HT:=H_ hT
 have HSM:=H_ hsm
 obtain ⟨len,hlen⟩:∃len,len=hs.length:=⟨_,rfl⟩
 rw [←hlen] at hl hcap ⊢
 have HL:=H_ hlen
 have HEND:Hid ((∀j,j<hs.length→hlt (hs.getD j H.zero) ⟨x,y⟩=true)→ins hlt addH hs ⟨x,y⟩=hs ++ [⟨x,y⟩]):=H_ (ins_end hs _)
 have HAT:Hid (∀q,q<hs.length→(∀j,j<q→hlt (hs.getD j H.zero) ⟨x,y⟩=true)→hlt (hs.getD q H.zero) ⟨x,y⟩=false→(hlt ⟨x,y⟩ (hs.getD q H.zero)=true→ins hlt addH hs ⟨x,y⟩=hs.take q++⟨x,y⟩::hs.drop q)∧(hlt ⟨x,y⟩ (hs.getD q H.zero)=false→ins hlt addH hs ⟨x,y⟩=hs.take q++addH (hs.getD q H.zero) ⟨x,y⟩::hs.drop (q+1))):=H_ (fun q=>ins_at hs _ q)
 generalize ins hlt addH hs ⟨x,y⟩=R at *
 obtain ⟨y1,y2⟩:=hy
 unfold maxLen at hcm
 clear hT hlen hsm
 have HX0:=H_ (BlkW.new w [.int .i64 x,.int .i64 y] 87)
 have HB0:=H_ (al w (.cells #[.int .i64 x,.int .i64 y] 87))
 go_enter Tryd.func49,Tryd.ntmps49
 go_wp2_with fail
 go_loopw [5] (fun zv wr=>∃q:Nat,q≤len∧zv=.int .i64 (q:Int)∧Hid (Below w.heap.size w wr)∧Hid (BlkW w.heap.size [.int .i64 x,.int .i64 y] wr)∧Hid (∀j,j<q→hlt (hs.getD j H.zero) ⟨x,y⟩=true)) (fun zv _=>len-(intOf zv).toNat)
 case atStart=>exact ⟨0,by omega,rfl,HB0,HX0,H_ (fun j hj=>absurd hj (by omega))⟩
 case round =>
  clear HX0 HB0
  obtain ⟨q,hq,rfl,HB,HX,HQ⟩:=hrel
  have c0:wr.cell? ⟨w.heap.size,0,none⟩=some (.int .i64 x):=HX.out.1.2 0 (by simp)
  have hwl:=HX.out.1.1
  by_cases hlt1:q<len
  ·have hlt2:(q:Int)<(len:Int):=by omega
   have hqs:q<hs.length:=by have:=HL.out;omega
   obtain ⟨hbl,d0,d1⟩:=Hrs.two (HT.out.below HB.out) q hqs
   obtain ⟨s1,s2⟩:=HSM.out _ (getD_mem (z:=H.zero) hs q hqs)
   have HTQ:Hid (∀W,Below w.heap.size w W→b<W.heap.size∧W.cell? ⟨b,off+q*2,none⟩=some (.int .i64 (hs.getD q H.zero).h)∧W.cell? ⟨b,off+q*2+1,none⟩=some (.int .i64 (hs.getD q H.zero).s)):=H_ (fun W hW=>Hrs.two (HT.out.below hW) q hqs)
   cases hc:hlt (hs.getD q H.zero) ⟨x,y⟩
   ·have HA:=H_ (HAT.out q hqs HQ.out hc)
    have hc1:=hc
    unfold hlt at hc1
    simp only [decide_eq_false_iff_not] at hc1
    generalize hs.getD q H.zero=Y at *
    obtain ⟨yh,ys⟩:=Y
    dsimp only at hc1 d0 d1 s1 s2 HTQ
    by_cases he:yh=x
    ·subst he
     have hins:R=hs.take q++(⟨yh,y+ys⟩:H)::hs.drop (q+1):=by
      have h:=HA.out.2 (by unfold hlt;simp)
      rw [h];unfold addH;rw [Int.add_comm ys y]
     have HI:=H_ hins
     clear HA hc hins
     go_wp2_with fail
     go_quiet (fail)
     obtain ⟨W1,hW2⟩:∃Wn,Wn=wr.drewN nq:=⟨_,rfl⟩
     rw [←hW2]
     have HDW1:Hid (Below wr.heap.size wr W1):=H_ (by rw [hW2];exact bdrewN (Below.refl _ _) _)
     clear hW2
     have HB1:=H_ (HB.out.trans (HDW1.out.mono HB.out.size))
     have HX1:=H_ (HX.out.below HDW1.out)
     clear HB HX HDW1 c0 hwl hbl d0 d1
     have HE0:=H_ (own_empty W1 (w.heap.size+1) 87 2 HX1.out.1.1)
     have hqc:(q:Int)≤(cap:Int):=by omega
     have hql:(q:Int)≤(len:Int):=by omega
     have HT1:=H_ (HT.out.below (HB1.out.trans ((al W1 (.cells #[] 87)).mono HB1.out.size)))
     go_wp2_with (at_builtin;refine wpList_append_own _ rfl _ _ 24 rfl (w.heap.size+1) 87 i0 (.agg #[.int .i64 0,.int .i64 0]) 2 16 Tryd.underlying24 hi hz0 hz1 hz2 rfl (by decide) _ _ _ rfl HE0.out ⟨b,off,none⟩ q cap (cellsAll H.cells (hs.take q)) rfl ?l1 ?d1 ?d2 ?d3 ?d4 (by have:=HX1.out.1.1;simp;omega) ?_)
     case l1=>rw [cellsAll_len H.len,List.length_take];have:=HL.out;omega
     case d1=>exact fun j u hj=>by have h:=rws_sub (i:=0) (n:=q) H.len HT1.out j u (by simpa using hj);first|exact h|(rw [Addr.add_lit,Nat.zero_mul,Nat.add_zero] at h;exact h)
     case d2=>exact hrs_one _
     case d3=>unfold maxLen;omega
     case d4=>omega
     intro v1 w6 hown hgrow hne
     have HO6:Hid (w6.ownsRow (w.heap.size+1) 87 2 v1 q (cellsAll H.cells (hs.take q))):=H_ (by first|exact hown|simpa using hown)
     have HB6:Hid (Below w.heap.size w w6):=H_ ((HB1.out.trans ((al W1 (.cells #[] 87)).mono HB1.out.size)).grown hgrow (by have:=HB1.out.size;simp;omega) (fun c hc=>by have:=HX1.out.1.1;simp [Value.ownBlock] at hc;omega))
     have HX6:Hid (BlkW w.heap.size [.int .i64 yh,.int .i64 y] w6):=H_ (BlkW.grown (HX1.out.below (al W1 (.cells #[] 87))) hgrow (fun e=>by have:=HX1.out.1.1;simp [Value.ownBlock] at e;omega))
     clear hown hgrow hne HE0 HT1 HX1 HB1
     obtain ⟨gl,g0,g1⟩:=HTQ.out w6 HB6.out
     have c0:w6.cell? ⟨w.heap.size,0,none⟩=some (.int .i64 yh):=HX6.out.1.2 0 (by simp)
     have hwl:=HX6.out.1.1
     go_wp2_with fail
     go_quiet (fail)
     obtain ⟨W7,hW2⟩:∃Wn,Wn=w6.drewN nq:=⟨_,rfl⟩
     rw [←hW2]
     have HDW7:Hid (Below w6.heap.size w6 W7):=H_ (by rw [hW2];exact bdrewN (Below.refl _ _) _)
     clear hW2
     have HO:=H_ (RowG.own_below HO6.out HDW7.out)
     have HX:=H_ (HX6.out.below HDW7.out)
     have HB:=H_ (HB6.out.trans (HDW7.out.mono HB6.out.size))
     clear HO6 HX6 HB6 HDW7
     clear c0 hwl gl g0 g1
     obtain ⟨gl,g0,g1⟩:=HTQ.out W7 HB.out
     obtain ⟨Wd,hWd⟩:∃Wd,Wd=W7.drew:=⟨_,rfl⟩
     have HXd:Hid (BlkW w.heap.size [.int .i64 yh,.int .i64 y] Wd):=H_ (by rw [hWd];exact HX.out.below (Below.refl _ _).drew)
     have HOd:Hid (Wd.ownsRow (w.heap.size+1) 87 2 v1 q (cellsAll H.cells (hs.take q))):=H_ (by rw [hWd];exact HO.out)
     have HS0:Hid (Below w.heap.size w Wd∧w.heap.size<Wd.heap.size∧Wd.cell? ⟨b,off+q*2+1,none⟩=some (.int .i64 ys)):=H_ (by rw [hWd];exact ⟨HB.out.drew,HX.out.1.1,g1⟩)
     have hput:∀W:World,W.cell? ⟨b,off+q*2+1,none⟩=some (.int .i64 ys)→(W.setCell ⟨w.heap.size,1,none⟩ (.int .i64 (y+ys))).cell? ⟨b,off+q*2+1,none⟩=some (.int .i64 ys):=fun W h=>by rw [←h];simp [go_sem]
     have hwr:IntKind.i64.wrap (y+ys)=y+ys:=IntWalk.i64_in _ ⟨by omega,by omega⟩
     clear HX HO HB g1 g0 gl
     go_wp2_with fail
     refine wp_region_held_drew (S:=(fun W=>Below w.heap.size w W∧w.heap.size<W.heap.size∧W.cell? ⟨b,off+q*2+1,none⟩=some (.int .i64 ys))) (by kernel_rfl) (by rw [←hWd];exact HS0.out) (fun hHeld=>?_)
     rw [←hWd]
     try rw [←hWd] at hHeld
     clear hWd
     refine tk 0 (⟨some 42,.fieldAddr 87 (.tmp 3) 1,0,"l07_window.go:71",#[],none⟩) ?_
     refine tk 2 (⟨some 44,.move (.tmp 0),24,"l07_window.go:71",#[],none⟩) ?_
     refine tk 3 (⟨some 45,.move (.tmp 5),3,"l07_window.go:71",#[],none⟩) ?_
     refine tk 4 (⟨some 46,.indexAddr 24 (.tmp 44) (.tmp 45),0,"l07_window.go:71",#[⟨2,.data⟩,⟨3,.data⟩],none⟩) ?_
     refine tk 5 (⟨some 47,.fieldAddr 87 (.tmp 46) 1,0,"l07_window.go:71",#[⟨4,.data⟩],none⟩) ?_
     refine tk 6 (⟨some 48,.load 2 (.tmp 47),2,"l07_window.go:71",#[⟨5,.data⟩],none⟩) ?_
     refine rd 1 (⟨some 43,.load 2 (.tmp 42),2,"l07_window.go:71",#[⟨0,.data⟩],none⟩) (fun K hK=>?_)
     have z1:Wd.cell? ⟨w.heap.size,1,none⟩=some (.int .i64 y):=HXd.out.1.2 1 (by simp)
     have zl:=HXd.out.1.1
     go_simp
     try go_wp2_with fail
     clear z1 zl
     refine hK.out _ _ HS0.out (fun _=>?_)
     clear hK K
     try simp only [Act.put,SL]
     refine tk 7 (⟨some 49,.binOp BinOp.add 2 (.tmp 43) (.tmp 48) 2,2,"l07_window.go:71",#[⟨1,.data⟩,⟨6,.data⟩],none⟩) ?_
     refine tk 8 (⟨some 50,.fieldAddr 87 (.tmp 3) 1,0,"l07_window.go:71",#[⟨0,.phase⟩,⟨1,.phase⟩,⟨2,.phase⟩,⟨3,.phase⟩,⟨4,.phase⟩,⟨5,.phase⟩,⟨6,.phase⟩,⟨7,.phase⟩],none⟩) ?_
     refine rd 9 (⟨none,.store 2 (.tmp 50) (.tmp 49),0,"l07_window.go:71",#[⟨8,.data⟩,⟨7,.data⟩,⟨0,.phase⟩,⟨1,.phase⟩,⟨2,.phase⟩,⟨3,.phase⟩,⟨4,.phase⟩,⟨5,.phase⟩,⟨6,.phase⟩,⟨7,.phase⟩],none⟩) (fun K hK=>?_)
     have z1:Wd.cell? ⟨w.heap.size,1,none⟩=some (.int .i64 y):=HXd.out.1.2 1 (by simp)
     have zf:Wd.frozen? ⟨w.heap.size,1,none⟩=false:=HXd.out.2 1 (by simp)
     have zl:=HXd.out.1.1
     go_simp
     try go_wp2_with fail
     have hx9:=HXd.out.set 1 (.int .i64 (y+ys)) (by simp)
     have ho9:=RowG.own_set HOd.out w.heap.size 1 (.int .i64 (y+ys)) (fun g hg=>by have:=(HOd.out.lt g hg).1;omega)
     have hb9:=HS0.out.1.setCell (p:=⟨w.heap.size,1,none⟩) (Nat.le_refl _) (.int .i64 (y+ys))
     have hc9:=hput Wd HS0.out.2.2
     clear z1 zf
     refine hK.out _ _ ⟨hb9,by simpa using zl,hc9⟩ (fun _=>?_)
     clear hK K zl
     try simp only [Act.put,SL]
     refine wpAnyH_done (by kernel_rfl) ?_ _
     have HX:=H_ hx9
     have HO:=H_ ho9
     have HB:=H_ hb9
     clear hx9 ho9 hb9 hc9 HXd HOd HS0 hput
     obtain ⟨We,hWe⟩:∃We,We=Wd.setCell ⟨w.heap.size,1,none⟩ (.int .i64 (y+ys)):=⟨_,rfl⟩
     rw [←hWe] at HX HO HB ⊢
     clear hWe
     obtain ⟨⟨xl,xk⟩,xf⟩:=HX.out
     have x0:We.cell? ⟨w.heap.size,0,none⟩=some (.int .i64 yh):=xk 0 (by simp)
     have x1:We.cell? ⟨w.heap.size,1,none⟩=some (.int .i64 (y+ys)):=xk 1 (by simp)
     clear xk xf
     go_wp2_with (at_builtin;refine wpList_append_own _ rfl _ _ 24 rfl (w.heap.size+1) 87 i0 (.agg #[.int .i64 0,.int .i64 0]) 2 16 Tryd.underlying24 hi hz0 hz1 hz2 rfl (by decide) _ _ _ rfl (HO.out.alloc _) ⟨We.heap.size,0,none⟩ 1 1 [.int .i64 yh,.int .i64 (y+ys)] rfl rfl ?a1 ?a2 ?a3 ?a4 (by have:=xl;simp;omega) ?_)
     case a1=>exact h2_cells _ _ _
     case a2=>exact h2_one _ _
     case a3=>unfold maxLen;omega
     case a4=>omega
     intro v2 w7 hown hgrow hne
     have HO7:Hid (w7.ownsRow (w.heap.size+1) 87 2 v2 (q+1) (cellsAll H.cells (hs.take q) ++ [.int .i64 yh,.int .i64 (y+ys)])):=H_ hown
     have HB7:Hid (Below w.heap.size w w7):=H_ ((HB.out.trans ((al We _).mono HB.out.size)).grown hgrow (by have:=HB.out.size;simp;omega) (fun c hc=>by have:=(HO.out.lt c hc).1;omega))
     have HT7:=H_ (HT.out.below HB7.out)
     have HZ7:Hid (w.heap.size+1≤w7.heap.size):=H_ (by have h1:=hgrow.size;have:=xl;simp at h1;omega)
     clear hown hgrow hne x0 x1 xl
     by_cases hcq:cap=q+1
     ·obtain ⟨hp0,hpl⟩:len-(q+1)=0∧hs.drop (q+1)=[]:=⟨by omega,List.drop_of_length_le (by have:=HL.out;omega)⟩
      have HPL:=H_ hpl
      have hlp:len=q+1:=by omega
      clear hpl
      go_wp2_with (at_builtin;refine wpList_append_own _ rfl _ _ 24 rfl (w.heap.size+1) 87 i0 (.agg #[.int .i64 0,.int .i64 0]) 2 16 Tryd.underlying24 hi hz0 hz1 hz2 rfl (by decide) _ _ _ rfl HO7.out ⟨b,off,none⟩ 0 0 [] rfl rfl (fun _ _ h=>by simp at h) (fun _ h=>by simp at h) (by unfold maxLen;omega) (by omega) HZ7.out ?_)
      intro v3 w8 hown hgrow hne
      have HO8:Hid (w8.ownsRow (w.heap.size+1) 87 2 v3 R.length (cellsAll H.cells R)):=H_ (by
       rw [HI.out,ins_cells,HPL.out,show (hs.take q++(⟨yh,(y+ys)⟩:H) :: []).length=q+1 by simp;have:=HL.out;omega]
       first|exact hown|simpa [cellsAll,H.cells] using hown)
      have HB8:Hid (Below w.heap.size w w8):=H_ (HB7.out.grown hgrow HB7.out.size (fun c hc=>by have:=(HO7.out.lt c hc).1;omega))
      clear hown hgrow hne
      obtain ⟨b',o',c',rfl,m1,m2,m3⟩:=own_some (z:=H.zero) H.len HO8.out (by rw [HI.out];simp)
      go_wp2_with fail
      go_ret
      exact ⟨b',o',c',rfl,m1,m2,m3.1,.inr (by have:=m3.2;omega),HB8.out⟩
     ·go_wp2_with (at_builtin;refine wpList_append_own _ rfl _ _ 24 rfl (w.heap.size+1) 87 i0 (.agg #[.int .i64 0,.int .i64 0]) 2 16 Tryd.underlying24 hi hz0 hz1 hz2 rfl (by decide) _ _ _ rfl HO7.out ⟨b,off+(q+1)*2,none⟩ (len-(q+1)) (cap-(q+1)) (cellsAll H.cells (hs.drop (q+1))) rfl ?l2 ?d5 ?d6 ?d7 ?d8 HZ7.out ?_)
      case l2=>rw [cellsAll_len H.len,List.length_drop];have:=HL.out;omega
      case d5=>exact fun j u hj=>rws_sub (i:=q+1) (n:=hs.length-(q+1)) H.len HT7.out j u (by rw [List.take_of_length_le (by simp)];exact hj)
      case d6=>exact hrs_one _
      case d7=>unfold maxLen;omega
      case d8=>omega
      intro v3 w8 hown hgrow hne
      have HO8:Hid (w8.ownsRow (w.heap.size+1) 87 2 v3 R.length (cellsAll H.cells R)):=H_ (by
       rw [HI.out,ins_cells,show (hs.take q++(⟨yh,(y+ys)⟩:H)::hs.drop (q+1)).length=q+1+(len-(q+1)) by simp;have:=HL.out;omega]
       first|exact hown|(rw [List.append_assoc];exact hown))
      have HB8:Hid (Below w.heap.size w w8):=H_ (HB7.out.grown hgrow HB7.out.size (fun c hc=>by have:=(HO7.out.lt c hc).1;omega))
      clear hown hgrow hne
      obtain ⟨b',o',c',rfl,m1,m2,m3⟩:=own_some (z:=H.zero) H.len HO8.out (by rw [HI.out];simp)
      go_wp2_with fail
      go_ret
      exact ⟨b',o',c',rfl,m1,m2,m3.1,.inr (by have:=m3.2;omega),HB8.out⟩
    ·have hc2:hlt ⟨x,y⟩ ⟨yh,ys⟩=true:=by unfold hlt;simp;omega
     have HI:=H_ (HA.out.1 hc2)
     have he3:¬x=yh:=fun e=>he e.symm
     clear HA hc hc2
     go_wp2_with fail
     go_quiet (fail)
     obtain ⟨W1,hW2⟩:∃Wn,Wn=wr.drewN nq:=⟨_,rfl⟩
     rw [←hW2]
     have HDW1:Hid (Below wr.heap.size wr W1):=H_ (by rw [hW2];exact bdrewN (Below.refl _ _) _)
     clear hW2
     have HB1:=H_ (HB.out.trans (HDW1.out.mono HB.out.size))
     have HX1:=H_ (HX.out.below HDW1.out)
     clear HB HX HDW1 c0 hwl hbl d0 d1
     have HE0:=H_ (own_empty W1 (w.heap.size+1) 87 2 HX1.out.1.1)
     have hqc:(q:Int)≤(cap:Int):=by omega
     have hql:(q:Int)≤(len:Int):=by omega
     have HT1:=H_ (HT.out.below (HB1.out.trans ((al W1 (.cells #[] 87)).mono HB1.out.size)))
     go_wp2_with (at_builtin;refine wpList_append_own _ rfl _ _ 24 rfl (w.heap.size+1) 87 i0 (.agg #[.int .i64 0,.int .i64 0]) 2 16 Tryd.underlying24 hi hz0 hz1 hz2 rfl (by decide) _ _ _ rfl HE0.out ⟨b,off,none⟩ q cap (cellsAll H.cells (hs.take q)) rfl ?l1 ?d1 ?d2 ?d3 ?d4 (by have:=HX1.out.1.1;simp;omega) ?_)
     case l1=>rw [cellsAll_len H.len,List.length_take];have:=HL.out;omega
     case d1=>exact fun j u hj=>by have h:=rws_sub (i:=0) (n:=q) H.len HT1.out j u (by simpa using hj);first|exact h|(rw [Addr.add_lit,Nat.zero_mul,Nat.add_zero] at h;exact h)
     case d2=>exact hrs_one _
     case d3=>unfold maxLen;omega
     case d4=>omega
     intro v1 w6 hown hgrow hne
     have HO6:Hid (w6.ownsRow (w.heap.size+1) 87 2 v1 q (cellsAll H.cells (hs.take q))):=H_ (by first|exact hown|simpa using hown)
     have HB6:Hid (Below w.heap.size w w6):=H_ ((HB1.out.trans ((al W1 (.cells #[] 87)).mono HB1.out.size)).grown hgrow (by have:=HB1.out.size;simp;omega) (fun c hc=>by have:=HX1.out.1.1;simp [Value.ownBlock] at hc;omega))
     have HX6:Hid (BlkW w.heap.size [.int .i64 x,.int .i64 y] w6):=H_ (BlkW.grown (HX1.out.below (al W1 (.cells #[] 87))) hgrow (fun e=>by have:=HX1.out.1.1;simp [Value.ownBlock] at e;omega))
     clear hown hgrow hne HE0 HT1 HX1 HB1
     obtain ⟨gl,g0,g1⟩:=HTQ.out w6 HB6.out
     have c0:w6.cell? ⟨w.heap.size,0,none⟩=some (.int .i64 x):=HX6.out.1.2 0 (by simp)
     have hwl:=HX6.out.1.1
     go_wp2_with fail
     go_quiet (fail)
     obtain ⟨W7,hW2⟩:∃Wn,Wn=w6.drewN nq:=⟨_,rfl⟩
     rw [←hW2]
     have HDW7:Hid (Below w6.heap.size w6 W7):=H_ (by rw [hW2];exact bdrewN (Below.refl _ _) _)
     clear hW2
     have HO:=H_ (RowG.own_below HO6.out HDW7.out)
     have HX:=H_ (HX6.out.below HDW7.out)
     have HB:=H_ (HB6.out.trans (HDW7.out.mono HB6.out.size))
     clear HO6 HX6 HB6 HDW7
     clear c0 hwl gl g0 g1
     obtain ⟨⟨xl,xk⟩,xf⟩:=HX.out
     have x0:W7.cell? ⟨w.heap.size,0,none⟩=some (.int .i64 x):=xk 0 (by simp)
     have x1:W7.cell? ⟨w.heap.size,1,none⟩=some (.int .i64 y):=xk 1 (by simp)
     clear xk xf
     go_wp2_with (at_builtin;refine wpList_append_own _ rfl _ _ 24 rfl (w.heap.size+1) 87 i0 (.agg #[.int .i64 0,.int .i64 0]) 2 16 Tryd.underlying24 hi hz0 hz1 hz2 rfl (by decide) _ _ _ rfl (HO.out.alloc _) ⟨W7.heap.size,0,none⟩ 1 1 [.int .i64 x,.int .i64 y] rfl rfl ?a1 ?a2 ?a3 ?a4 (by have:=xl;simp;omega) ?_)
     case a1=>exact h2_cells _ _ _
     case a2=>exact h2_one _ _
     case a3=>unfold maxLen;omega
     case a4=>omega
     intro v2 w7 hown hgrow hne
     have HO7:Hid (w7.ownsRow (w.heap.size+1) 87 2 v2 (q+1) (cellsAll H.cells (hs.take q) ++ [.int .i64 x,.int .i64 y])):=H_ hown
     have HB7:Hid (Below w.heap.size w w7):=H_ ((HB.out.trans ((al W7 _).mono HB.out.size)).grown hgrow (by have:=HB.out.size;simp;omega) (fun c hc=>by have:=(HO.out.lt c hc).1;omega))
     have HT7:=H_ (HT.out.below HB7.out)
     have HZ7:Hid (w.heap.size+1≤w7.heap.size):=H_ (by have h1:=hgrow.size;have:=xl;simp at h1;omega)
     clear hown hgrow hne x0 x1 xl
     by_cases hcq:cap=q
     ·obtain ⟨hp0,hpl⟩:len-(q)=0∧hs.drop (q)=[]:=⟨by omega,List.drop_of_length_le (by have:=HL.out;omega)⟩
      have HPL:=H_ hpl
      have hlp:len=q:=by omega
      clear hpl
      go_wp2_with (at_builtin;refine wpList_append_own _ rfl _ _ 24 rfl (w.heap.size+1) 87 i0 (.agg #[.int .i64 0,.int .i64 0]) 2 16 Tryd.underlying24 hi hz0 hz1 hz2 rfl (by decide) _ _ _ rfl HO7.out ⟨b,off,none⟩ 0 0 [] rfl rfl (fun _ _ h=>by simp at h) (fun _ h=>by simp at h) (by unfold maxLen;omega) (by omega) HZ7.out ?_)
      intro v3 w8 hown hgrow hne
      have HO8:Hid (w8.ownsRow (w.heap.size+1) 87 2 v3 R.length (cellsAll H.cells R)):=H_ (by
       rw [HI.out,ins_cells,HPL.out,show (hs.take q++(⟨x,y⟩:H) :: []).length=q+1 by simp;have:=HL.out;omega]
       first|exact hown|simpa [cellsAll,H.cells] using hown)
      have HB8:Hid (Below w.heap.size w w8):=H_ (HB7.out.grown hgrow HB7.out.size (fun c hc=>by have:=(HO7.out.lt c hc).1;omega))
      clear hown hgrow hne
      obtain ⟨b',o',c',rfl,m1,m2,m3⟩:=own_some (z:=H.zero) H.len HO8.out (by rw [HI.out];simp)
      go_wp2_with fail
      go_ret
      exact ⟨b',o',c',rfl,m1,m2,m3.1,.inr (by have:=m3.2;omega),HB8.out⟩
     ·go_wp2_with (at_builtin;refine wpList_append_own _ rfl _ _ 24 rfl (w.heap.size+1) 87 i0 (.agg #[.int .i64 0,.int .i64 0]) 2 16 Tryd.underlying24 hi hz0 hz1 hz2 rfl (by decide) _ _ _ rfl HO7.out ⟨b,off+(q)*2,none⟩ (len-(q)) (cap-(q)) (cellsAll H.cells (hs.drop (q))) rfl ?l2 ?d5 ?d6 ?d7 ?d8 HZ7.out ?_)
      case l2=>rw [cellsAll_len H.len,List.length_drop];have:=HL.out;omega
      case d5=>exact fun j u hj=>rws_sub (i:=q) (n:=hs.length-(q)) H.len HT7.out j u (by rw [List.take_of_length_le (by simp)];exact hj)
      case d6=>exact hrs_one _
      case d7=>unfold maxLen;omega
      case d8=>omega
      intro v3 w8 hown hgrow hne
      have HO8:Hid (w8.ownsRow (w.heap.size+1) 87 2 v3 R.length (cellsAll H.cells R)):=H_ (by
       rw [HI.out,ins_cells,show (hs.take q++(⟨x,y⟩:H)::hs.drop (q)).length=q+1+(len-(q)) by simp;have:=HL.out;omega]
       first|exact hown|(rw [List.append_assoc];exact hown))
      have HB8:Hid (Below w.heap.size w w8):=H_ (HB7.out.grown hgrow HB7.out.size (fun c hc=>by have:=(HO7.out.lt c hc).1;omega))
      clear hown hgrow hne
      obtain ⟨b',o',c',rfl,m1,m2,m3⟩:=own_some (z:=H.zero) H.len HO8.out (by rw [HI.out];simp)
      go_wp2_with fail
      go_ret
      exact ⟨b',o',c',rfl,m1,m2,m3.1,.inr (by have:=m3.2;omega),HB8.out⟩
   ·have HQ2:Hid (∀j,j<q+1→hlt (hs.getD j H.zero) ⟨x,y⟩=true):=H_ (fun j hj=>by
     rcases Nat.lt_succ_iff_lt_or_eq.1 hj with h|rfl
     ·exact HQ.out j h
     ·exact hc)
    have hc1:=hc
    unfold hlt at hc1
    simp only [decide_eq_true_eq] at hc1
    generalize hs.getD q H.zero=Y at *
    obtain ⟨yh,ys⟩:=Y
    dsimp only at hc1 d0 d1
    clear hc
    go_wp2_with fail
    go_quiet (fail)
    go_wp2_with fail
    go_roundw
    case rel=>exact ⟨q+1,by omega,by go_num,H_ (bdrewN HB.out _),H_ (HX.out.below (bdrewN (Below.refl _ _) _)),HQ2⟩
    case measure=>simp [intOf];omega
  ·have hlt2:¬(q:Int)<(len:Int):=by omega
   have hins:R=hs.take q++(⟨x,y⟩:H)::hs.drop q:=by
    have e:q=hs.length:=by have:=HL.out;omega
    rw [HEND.out (fun j hj=>HQ.out j (by omega)),e]
    simp
   have HI:=H_ hins
   clear hins
   go_wp2_with fail
   go_quiet (fail)
   obtain ⟨W1,hW2⟩:∃Wn,Wn=wr.drewN nq:=⟨_,rfl⟩
   rw [←hW2]
   have HDW1:Hid (Below wr.heap.size wr W1):=H_ (by rw [hW2];exact bdrewN (Below.refl _ _) _)
   clear hW2
   have HB1:=H_ (HB.out.trans (HDW1.out.mono HB.out.size))
   have HX1:=H_ (HX.out.below HDW1.out)
   clear HB HX HDW1 c0 hwl
   have HE0:=H_ (own_empty W1 (w.heap.size+1) 87 2 HX1.out.1.1)
   have hqc:(q:Int)≤(cap:Int):=by omega
   have hql:(q:Int)≤(len:Int):=by omega
   have HT1:=H_ (HT.out.below (HB1.out.trans ((al W1 (.cells #[] 87)).mono HB1.out.size)))
   go_wp2_with (at_builtin;refine wpList_append_own _ rfl _ _ 24 rfl (w.heap.size+1) 87 i0 (.agg #[.int .i64 0,.int .i64 0]) 2 16 Tryd.underlying24 hi hz0 hz1 hz2 rfl (by decide) _ _ _ rfl HE0.out ⟨b,off,none⟩ q cap (cellsAll H.cells (hs.take q)) rfl ?l1 ?d1 ?d2 ?d3 ?d4 (by have:=HX1.out.1.1;simp;omega) ?_)
   case l1=>rw [cellsAll_len H.len,List.length_take];have:=HL.out;omega
   case d1=>exact fun j u hj=>by have h:=rws_sub (i:=0) (n:=q) H.len HT1.out j u (by simpa using hj);first|exact h|(rw [Addr.add_lit,Nat.zero_mul,Nat.add_zero] at h;exact h)
   case d2=>exact hrs_one _
   case d3=>unfold maxLen;omega
   case d4=>omega
   intro v1 w6 hown hgrow hne
   have HO6:Hid (w6.ownsRow (w.heap.size+1) 87 2 v1 q (cellsAll H.cells (hs.take q))):=H_ (by first|exact hown|simpa using hown)
   have HB6:Hid (Below w.heap.size w w6):=H_ ((HB1.out.trans ((al W1 (.cells #[] 87)).mono HB1.out.size)).grown hgrow (by have:=HB1.out.size;simp;omega) (fun c hc=>by have:=HX1.out.1.1;simp [Value.ownBlock] at hc;omega))
   have HX6:Hid (BlkW w.heap.size [.int .i64 x,.int .i64 y] w6):=H_ (BlkW.grown (HX1.out.below (al W1 (.cells #[] 87))) hgrow (fun e=>by have:=HX1.out.1.1;simp [Value.ownBlock] at e;omega))
   clear hown hgrow hne HE0 HT1 HX1 HB1
   go_wp2_with fail
   go_quiet (fail)
   obtain ⟨W7,hW2⟩:∃Wn,Wn=w6.drewN nq:=⟨_,rfl⟩
   rw [←hW2]
   have HDW7:Hid (Below w6.heap.size w6 W7):=H_ (by rw [hW2];exact bdrewN (Below.refl _ _) _)
   clear hW2
   have HO:=H_ (RowG.own_below HO6.out HDW7.out)
   have HX:=H_ (HX6.out.below HDW7.out)
   have HB:=H_ (HB6.out.trans (HDW7.out.mono HB6.out.size))
   clear HO6 HX6 HB6 HDW7
   obtain ⟨⟨xl,xk⟩,xf⟩:=HX.out
   have x0:W7.cell? ⟨w.heap.size,0,none⟩=some (.int .i64 x):=xk 0 (by simp)
   have x1:W7.cell? ⟨w.heap.size,1,none⟩=some (.int .i64 y):=xk 1 (by simp)
   clear xk xf
   go_wp2_with (at_builtin;refine wpList_append_own _ rfl _ _ 24 rfl (w.heap.size+1) 87 i0 (.agg #[.int .i64 0,.int .i64 0]) 2 16 Tryd.underlying24 hi hz0 hz1 hz2 rfl (by decide) _ _ _ rfl (HO.out.alloc _) ⟨W7.heap.size,0,none⟩ 1 1 [.int .i64 x,.int .i64 y] rfl rfl ?a1 ?a2 ?a3 ?a4 (by have:=xl;simp;omega) ?_)
   case a1=>exact h2_cells _ _ _
   case a2=>exact h2_one _ _
   case a3=>unfold maxLen;omega
   case a4=>omega
   intro v2 w7 hown hgrow hne
   have HO7:Hid (w7.ownsRow (w.heap.size+1) 87 2 v2 (q+1) (cellsAll H.cells (hs.take q) ++ [.int .i64 x,.int .i64 y])):=H_ hown
   have HB7:Hid (Below w.heap.size w w7):=H_ ((HB.out.trans ((al W7 _).mono HB.out.size)).grown hgrow (by have:=HB.out.size;simp;omega) (fun c hc=>by have:=(HO.out.lt c hc).1;omega))
   have HT7:=H_ (HT.out.below HB7.out)
   have HZ7:Hid (w.heap.size+1≤w7.heap.size):=H_ (by have h1:=hgrow.size;have:=xl;simp at h1;omega)
   clear hown hgrow hne x0 x1 xl
   by_cases hcq:cap=q
   ·obtain ⟨hp0,hpl⟩:len-(q)=0∧hs.drop (q)=[]:=⟨by omega,List.drop_of_length_le (by have:=HL.out;omega)⟩
    have HPL:=H_ hpl
    have hlp:len=q:=by omega
    clear hpl
    go_wp2_with (at_builtin;refine wpList_append_own _ rfl _ _ 24 rfl (w.heap.size+1) 87 i0 (.agg #[.int .i64 0,.int .i64 0]) 2 16 Tryd.underlying24 hi hz0 hz1 hz2 rfl (by decide) _ _ _ rfl HO7.out ⟨b,off,none⟩ 0 0 [] rfl rfl (fun _ _ h=>by simp at h) (fun _ h=>by simp at h) (by unfold maxLen;omega) (by omega) HZ7.out ?_)
    intro v3 w8 hown hgrow hne
    have HO8:Hid (w8.ownsRow (w.heap.size+1) 87 2 v3 R.length (cellsAll H.cells R)):=H_ (by
     rw [HI.out,ins_cells,HPL.out,show (hs.take q++(⟨x,y⟩:H) :: []).length=q+1 by simp;have:=HL.out;omega]
     first|exact hown|simpa [cellsAll,H.cells] using hown)
    have HB8:Hid (Below w.heap.size w w8):=H_ (HB7.out.grown hgrow HB7.out.size (fun c hc=>by have:=(HO7.out.lt c hc).1;omega))
    clear hown hgrow hne
    obtain ⟨b',o',c',rfl,m1,m2,m3⟩:=own_some (z:=H.zero) H.len HO8.out (by rw [HI.out];simp)
    go_wp2_with fail
    go_ret
    exact ⟨b',o',c',rfl,m1,m2,m3.1,.inr (by have:=m3.2;omega),HB8.out⟩
   ·go_wp2_with (at_builtin;refine wpList_append_own _ rfl _ _ 24 rfl (w.heap.size+1) 87 i0 (.agg #[.int .i64 0,.int .i64 0]) 2 16 Tryd.underlying24 hi hz0 hz1 hz2 rfl (by decide) _ _ _ rfl HO7.out ⟨b,off+(q)*2,none⟩ (len-(q)) (cap-(q)) (cellsAll H.cells (hs.drop (q))) rfl ?l2 ?d5 ?d6 ?d7 ?d8 HZ7.out ?_)
    case l2=>rw [cellsAll_len H.len,List.length_drop];have:=HL.out;omega
    case d5=>exact fun j u hj=>rws_sub (i:=q) (n:=hs.length-(q)) H.len HT7.out j u (by rw [List.take_of_length_le (by simp)];exact hj)
    case d6=>exact hrs_one _
    case d7=>unfold maxLen;omega
    case d8=>omega
    intro v3 w8 hown hgrow hne
    have HO8:Hid (w8.ownsRow (w.heap.size+1) 87 2 v3 R.length (cellsAll H.cells R)):=H_ (by
     rw [HI.out,ins_cells,show (hs.take q++(⟨x,y⟩:H)::hs.drop (q)).length=q+1+(len-(q)) by simp;have:=HL.out;omega]
     first|exact hown|(rw [List.append_assoc];exact hown))
    have HB8:Hid (Below w.heap.size w w8):=H_ (HB7.out.grown hgrow HB7.out.size (fun c hc=>by have:=(HO7.out.lt c hc).1;omega))
    clear hown hgrow hne
    obtain ⟨b',o',c',rfl,m1,m2,m3⟩:=own_some (z:=H.zero) H.len HO8.out (by rw [HI.out];simp)
    go_wp2_with fail
    go_ret
    exact ⟨b',o',c',rfl,m1,m2,m3.1,.inr (by have:=m3.2;omega),HB8.out⟩
end WinR
namespace MemoR
theorem memo0 {goal:Prop} (F:World→Prop) {G:World→Prop} (h1:Hid (∀W,F W→G W)→goal) (h2:∀W,F W→G W):goal:=h1 h2
theorem memo1 {goal:Prop} (F:Nat→World→Prop) {G:Nat→World→Prop} (h1:Hid (∀x0 W,F x0 W→G x0 W)→goal) (h2:∀x0 W,F x0 W→G x0 W):goal:=h1 h2
theorem memo2 {goal:Prop} (F:Nat→Nat→World→Prop) {G:Nat→Nat→World→Prop} (h1:Hid (∀x0 x1 W,F x0 x1 W→G x0 x1 W)→goal) (h2:∀x0 x1 W,F x0 x1 W→G x0 x1 W):goal:=h1 h2
theorem memo3 {goal:Prop} (F:Nat→Nat→Nat→World→Prop) {G:Nat→Nat→Nat→World→Prop} (h1:Hid (∀x0 x1 x2 W,F x0 x1 x2 W→G x0 x1 x2 W)→goal) (h2:∀x0 x1 x2 W,F x0 x1 x2 W→G x0 x1 x2 W):goal:=h1 h2
theorem memo4 {goal:Prop} (F:Nat→Nat→Nat→Nat→World→Prop) {G:Nat→Nat→Nat→Nat→World→Prop} (h1:Hid (∀x0 x1 x2 x3 W,F x0 x1 x2 x3 W→G x0 x1 x2 x3 W)→goal) (h2:∀x0 x1 x2 x3 W,F x0 x1 x2 x3 W→G x0 x1 x2 x3 W):goal:=h1 h2
theorem memo5 {goal:Prop} (F:Nat→Nat→Nat→Nat→Nat→World→Prop) {G:Nat→Nat→Nat→Nat→Nat→World→Prop} (h1:Hid (∀x0 x1 x2 x3 x4 W,F x0 x1 x2 x3 x4 W→G x0 x1 x2 x3 x4 W)→goal) (h2:∀x0 x1 x2 x3 x4 W,F x0 x1 x2 x3 x4 W→G x0 x1 x2 x3 x4 W):goal:=h1 h2
theorem memo6 {goal:Prop} (F:Nat→Nat→Nat→Nat→Nat→Nat→World→Prop) {G:Nat→Nat→Nat→Nat→Nat→Nat→World→Prop} (h1:Hid (∀x0 x1 x2 x3 x4 x5 W,F x0 x1 x2 x3 x4 x5 W→G x0 x1 x2 x3 x4 x5 W)→goal) (h2:∀x0 x1 x2 x3 x4 x5 W,F x0 x1 x2 x3 x4 x5 W→G x0 x1 x2 x3 x4 x5 W):goal:=h1 h2
theorem memo7 {goal:Prop} (F:Nat→Nat→Nat→Nat→Nat→Nat→Nat→World→Prop) {G:Nat→Nat→Nat→Nat→Nat→Nat→Nat→World→Prop} (h1:Hid (∀x0 x1 x2 x3 x4 x5 x6 W,F x0 x1 x2 x3 x4 x5 x6 W→G x0 x1 x2 x3 x4 x5 x6 W)→goal) (h2:∀x0 x1 x2 x3 x4 x5 x6 W,F x0 x1 x2 x3 x4 x5 x6 W→G x0 x1 x2 x3 x4 x5 x6 W):goal:=h1 h2
end MemoR
end Go.Proofs.YteejpnkmnmoebaaDoor
