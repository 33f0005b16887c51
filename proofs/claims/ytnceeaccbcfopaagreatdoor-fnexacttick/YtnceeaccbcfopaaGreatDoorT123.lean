/-
  Sizes of lists of entries and of documents, whatever is left; lists of sources: sizes, the law's own copies. The condition: sizes of at most 1048576.
-/
import Derived.Test.YtnceeaccbcfopaaGreatDoorT122
namespace Go.Proofs.YtnceeaccbcfopaaGreatDoor
open Go.ChangeShapes Go.WideShapes Go.ChangeAt Go.RowKit
set_option linter.unusedVariables false
namespace CatR
open EvtR (Pt cell_put cell_far)
theorem infoSrc:(Tryz.prog.info? 63).map (fun i=>(i.zero,i.size,i.bytes))=some (some (.agg #[.string ⟨#[]⟩,.int .i64 0]),2,24):=by kernel_rfl
theorem szSr_any (a:ByteArray) (m left:Int) (ha:a.size≤maxLen) (h0:0≤left) (h1:left≤1048576) (w:World) :
 Calls Tryz.prog 47 #[.agg #[.string a,.int .i64 m],.int .i64 left] w fun e w'=>e=.returned (.int .i64 (if (a.size:Int)≤left then left-a.size else -1))∧Below w.heap.size w w':=by
 unfold maxLen at ha
 have HB:=H_ ((Below.refl w.heap.size w).alloc (Nat.le_refl _) (Obj.cells #[.string a,.int .i64 m] 87))
 by_cases h:(a.size:Int)≤left
 ·rw [if_pos h]
  have g:¬left-(a.size:Int)<0:=by omega
  go_enter Tryz.func47,Tryz.ntmps47
  go_wp2_with fail
  go_ret
  exact ⟨rfl,HB.out⟩
 ·rw [if_neg h]
  have g:left-(a.size:Int)<0:=by omega
  go_enter Tryz.func47,Tryz.ntmps47
  go_wp2_with fail
  go_ret
  exact ⟨rfl,HB.out⟩
set_option maxRecDepth 100000 in
set_option maxHeartbeats 4000000 in
theorem szSrs_any (ao:Option Addr) (len cap:Nat) (cs:List Cr) (left:Int) (w:World) (hm:len≤maxLen) (h0:0≤left) (h1:left≤1048576) (hI:Crs ao len cs w) (hin:∀i,i<len→(cs.getD i Cr.zero).a.size≤maxLen) :
 Calls Tryz.prog 14 #[.slice ao len cap,.int .i64 left] w fun e w'=>SzOut left (len≤1048576∧∀i,i<len→(cs.getD i Cr.zero).a.size≤1048576) e∧Below w.heap.size w w':=by
 have HI:=H_ hI
 have HN:=H_ hin
 clear hI hin
 unfold maxLen at hm
 by_cases hl:left-(len:Int)<0
 ·go_enter Tryz.func14,Tryz.ntmps14
  go_wp2_with fail
  go_ret
  exact ⟨⟨-1,rfl,.inl rfl⟩,Below.refl _ _⟩
 ·go_enter Tryz.func14,Tryz.ntmps14
  go_wp2_with fail
  go_loopw [5,1] (fun x y wr=>∃(j:Nat) (L:Int),j≤len∧x=.int .i64 j∧y=.int .i64 L∧0≤L∧L≤left∧Hid (∀i,i<j→(cs.getD i Cr.zero).a.size≤1048576)∧Hid (Below w.heap.size w wr)) (fun x y _=>len-(intOf x).toNat)
  case atStart=>exact ⟨0,left-(len:Int),Nat.zero_le _,rfl,rfl,by omega,by omega,H_ (fun i hi=>absurd hi (by omega)),H_ (Below.refl _ _)⟩
  case round =>
   obtain ⟨j,L,hj,rfl,rfl,l0,l1,HL,HB⟩:=hrel
   by_cases hlt:j<len
   ·obtain ⟨b,off,rfl,hbl,c0,c1⟩:=crs_at (HI.out.below HB.out) j hlt
    have q1:=HN.out j hlt
    have HM:=H_ (fun h=>small_moreC HL.out (k:=j) h)
    generalize (cs.getD j Cr.zero)=X at *
    obtain ⟨a,m⟩:=X
    simp only at c0 c1 q1 HM
    have HC:=H_ (fun w=>szSr_any a m L q1 l0 (by omega) w)
    have hlt2:(j:Int)<(len:Int):=by omega
    clear q1
    by_cases hs:(a.size:Int)≤L
    ·rw [if_pos hs] at HC
     have r0:0≤L-(a.size:Int):=by omega
     have r1:L-(a.size:Int)≤left:=by omega
     have HN1:=H_ (HM.out (by omega))
     generalize L-(a.size:Int)=L2 at *
     clear hs
     go_wp2_with fail
     refine (HC.out _).mono ?_
     rintro e w1 ⟨rfl,hb⟩
     have HB1:=H_ (HB.out.trans (hb.mono HB.out.size))
     clear hb c0 c1
     have r2:¬L2<0:=by omega
     go_wp2_with fail
     go_roundw
     case rel=>exact ⟨j+1,L2,by omega,by go_num,rfl,r0,r1,HN1,HB1⟩
     case measure=>simp [intOf];omega
    ·rw [if_neg hs] at HC
     go_wp2_with fail
     refine (HC.out _).mono ?_
     rintro e w1 ⟨rfl,hb⟩
     have HB1:=H_ (HB.out.trans (hb.mono HB.out.size))
     clear hb c0 c1
     go_wp2_with fail
     go_ret
     exact ⟨⟨-1,rfl,.inl rfl⟩,HB1.out⟩
   ·obtain rfl:j=len:=by omega
    go_wp2_with fail
    go_ret
    exact ⟨⟨L,rfl,.inr ⟨l0,l1,by omega,HL.out⟩⟩,HB.out⟩
theorem toSr_any (u:ByteArray) (p:Int) (w:World):Calls Tryz.prog 66 #[.agg #[.string u,.int .i64 p]] w fun e w'=>e=.returned (.agg #[.string u,.int .i64 p])∧Below w.heap.size w w':=by
 go_enter Tryz.func66,Tryz.ntmps66
 go_wp2_with fail
 refine bodyPost_ret (v:=.agg #[.string u,.int .i64 p]) (by simp [results,Tryz.results66,go_sem]) rfl ⟨rfl,?_⟩
 repeat' first|exact Below.refl _ _|apply Below.setCell|apply Below.alloc
 all_goals first|omega|(simp;done)|(simp;omega)
set_option maxRecDepth 100000 in
set_option maxHeartbeats 4000000 in
theorem toSrs_any (ao:Option Addr) (len cap:Nat) (ts:List Cr) (w:World) (hlen:len≤1048576) (hI:Crs ao len ts w) :
 Calls Tryz.prog 23 #[.slice ao len cap] w fun e w'=>e=.returned (.slice (some ⟨w.heap.size,0,none⟩) len len)∧Crs (some ⟨w.heap.size,0,none⟩) len ts w'∧Pt w.heap.size (len*2) w'∧Below w.heap.size w w':=by
 obtain ⟨i0,hi,hz0,hz1,hz2⟩:=info_parts infoSrc
 have HI:=H_ hI
 clear hI
 go_enter Tryz.func23,Tryz.ntmps23
 go_wp2_with (at_make;refine wpList_make_full _ rfl _ _ 37 rfl w.heap.size 63 i0 (.agg #[.string ⟨#[]⟩,.int .i64 0]) 2 Tryz.underlying37 hi hz0 hz1 .i64 .i64 _ _ len rfl rfl rfl rfl ?b2 ?b3 ?b4 ?_)
 case b2=>rw [hz2];omega
 case b3=>unfold maxLen;omega
 case b4=>exact Nat.le_refl _
 intro wm hown hgrow
 have HP:=H_ (row_full hown)
 have HB:Hid (Below w.heap.size w wm):=H_ ((Below.refl _ _).grown hgrow (Nat.le_refl _) (fun k e=>by cases e))
 clear hown hgrow hi hz0 hz1 hz2
 go_wp2_with fail
 go_loopw [4] (fun z wr=>∃k:Nat,k≤len∧z=.int .i64 k∧Hid (Below w.heap.size w wr)∧Hid (Pt w.heap.size (len*2) wr)∧Hid (∀i,i<k→CrAt wr w.heap.size (i*2) (ts.getD i Cr.zero))) (fun z _=>len-(intOf z).toNat)
 case atStart=>exact ⟨0,by omega,rfl,HB,HP,H_ (fun i hi=>absurd hi (by omega))⟩
 case round =>
  obtain ⟨k,hk,rfl,HB,HP,HA⟩:=hrel
  by_cases hlt:k<len
  ·have hlt2:(k:Int)<(len:Int):=by omega
   obtain ⟨b,off,rfl,hbl,c0,c1⟩:=crs_at (HI.out.below HB.out) k hlt
   have HS:=H_ (fun W hp ha=>crs_set (wr:=W) (g:=w.heap.size) (n:=len) (k:=k) (ts:=ts) hp hlt ha)
   generalize (ts.getD k Cr.zero)=X at *
   obtain ⟨u,p⟩:=X
   have HC:=H_ (fun w=>toSr_any u p w)
   have HS:Hid (∀W,Pt w.heap.size (len*2) W→(∀i,i<k→CrAt W w.heap.size (i*2) (ts.getD i Cr.zero))→Pt w.heap.size (len*2) ((W.setCell ⟨w.heap.size,k*2,none⟩ (.string u)).setCell ⟨w.heap.size,k*2+1,none⟩ (.int .i64 p))∧∀i,i<k+1→CrAt ((W.setCell ⟨w.heap.size,k*2,none⟩ (.string u)).setCell ⟨w.heap.size,k*2+1,none⟩ (.int .i64 p)) w.heap.size (i*2) (ts.getD i Cr.zero)):=HS
   go_wp2_with fail
   refine (HC.out _).mono ?_
   rintro e w1 ⟨rfl,hb⟩
   have HP1:=H_ (HP.out.below hb)
   have HA1:Hid (∀i,i<k→CrAt w1 w.heap.size (i*2) (ts.getD i Cr.zero)):=H_ (fun i hi=>(HA.out i hi).below HP.out.lt hb)
   have HB1:=H_ (HB.out.trans (hb.mono HB.out.size))
   have HS1:=H_ (HS.out _ HP1.out HA1.out)
   obtain ⟨v0,d0⟩:=HP1.out.has (k*2) (by omega)
   obtain ⟨v1,d1⟩:=HP1.out.has (k*2+1) (by omega)
   have z0:=HP1.out.free (k*2) (by omega)
   have z1:=HP1.out.free (k*2+1) (by omega)
   clear hb c0 c1
   go_wp2_with fail
   go_roundw
   case rel=>exact ⟨k+1,by omega,by go_num,H_ ((HB1.out.setCell (Nat.le_refl _) _).setCell (Nat.le_refl _) _),H_ HS1.out.1,H_ HS1.out.2⟩
   case measure=>simp [intOf];omega
  ·have hlt2:¬(k:Int)<(len:Int):=by omega
   obtain rfl:k=len:=by omega
   go_wp2_with fail
   go_ret
   exact ⟨rfl,⟨HI.out.1,.inr ⟨w.heap.size,0,rfl,HP.out.lt,fun j hj=>by rw [Nat.zero_add];exact HA.out j hj⟩⟩,HP.out,HB.out⟩
end CatR
namespace SeenR
open CatR (SzOut)
open RowG
set_option maxRecDepth 100000 in
set_option maxHeartbeats 4000000 in
theorem szEns (ao:Option Addr) (cap:Nat) (es:List N) (left:Int) (w:World) (hm:es.length≤maxLen) (h0:0≤left) (h1:left≤1048576) (hI:Ens ao es w) (hin:∀e∈es,e.i.size≤maxLen) :
 Calls Tryz.prog 15 #[.slice ao es.length cap,.int .i64 left] w fun e w'=>SzOut left (es.length≤1048576∧∀e∈es,e.i.size≤1048576) e∧Below w.heap.size w w':=by
 have HI:=H_ hI
 have HIn:=H_ hin
 have HEND:Hid (∀L:Int,es.length≤1048576→(∀i,i<es.length→(fun e:N=>e.i.size≤1048576) (es.getD i N.zero))→0≤L→L≤left→SzOut left (es.length≤1048576∧∀e∈es,e.i.size≤1048576) (.returned (.int .i64 L))):=H_ (fun L a b c d=>⟨L,rfl,.inr ⟨c,d,a,fun e he=>by
  obtain ⟨i,hi,rfl⟩:=List.getElem_of_mem he
  have:=b i hi
  rwa [show es.getD i N.zero=es[i] by simp [List.getD,hi]] at this⟩⟩)
 have HBAD:Hid (SzOut left (es.length≤1048576∧∀e∈es,e.i.size≤1048576) (.returned (.int .i64 (-1)))):=H_ ⟨-1,rfl,.inl rfl⟩
 generalize SzOut left (es.length≤1048576∧∀e∈es,e.i.size≤1048576)=PO at *
 obtain ⟨len,hl⟩:∃len,len=es.length:=⟨_,rfl⟩
 rw [←hl] at hm HEND ⊢
 have HL:=H_ hl
 unfold maxLen at hm
 clear hI hin hl
 by_cases hbig:left-(len:Int)<0
 ·go_enter Tryz.func15,Tryz.ntmps15
  go_wp2_with fail
  go_ret
  exact ⟨HBAD.out,Below.refl _ _⟩
 go_enter Tryz.func15,Tryz.ntmps15
 go_wp2_with fail
 go_loopw [5,1] (fun x y wr=>∃(j:Nat) (L:Int),j≤len∧x=.int .i64 j∧y=.int .i64 L∧0≤L∧L≤left∧Hid (∀i,i<j→(fun e:N=>e.i.size≤1048576) (es.getD i N.zero))∧Hid (Below w.heap.size w wr)) (fun x _ _=>len-(intOf x).toNat)
 case atStart=>exact ⟨0,left-(len:Int),by omega,rfl,rfl,by omega,by omega,H_ (fun i hi=>absurd hi (by omega)),H_ (Below.refl _ _)⟩
 case round =>
  obtain ⟨j,L,hj,rfl,rfl,l0,l1,HD,HB⟩:=hrel
  by_cases hlt:j<len
  ·have hlt2:(j:Int)<(len:Int):=by omega
   have hkl:j<es.length:=by have:=HL.out;omega
   obtain ⟨b,off,rfl,hbl,c0,c1,c2⟩:=(HI.out.below HB.out).at j hkl
   have hx:=HIn.out _ (RowG.getD_mem (z:=N.zero) es j hkl)
   have HMR:Hid ((fun e:N=>e.i.size≤1048576) (es.getD j N.zero)→∀i,i<j+1→(fun e:N=>e.i.size≤1048576) (es.getD i N.zero)):=H_ (fun h i hi=>by
    by_cases e:i=j
    ·subst e;exact h
    ·exact HD.out i (by omega))
   generalize hX:es.getD j N.zero=X at *
   clear hX
   obtain ⟨xi,xn,xs⟩:=X
   dsimp only at c0 c1 c2 hx HMR
   have HC:=H_ (sz_any xi xn xs L hx l0 (by omega) wr)
   have HSM:Hid (¬(if (xi.size:Int)≤L then L-(xi.size:Int) else -1)<0→0≤(if (xi.size:Int)≤L then L-(xi.size:Int) else -1)∧(if (xi.size:Int)≤L then L-(xi.size:Int) else -1)≤L∧xi.size≤1048576):=H_ (fun h=>by split at h<;>split<;>omega)
   generalize (if (xi.size:Int)≤L then L-(xi.size:Int) else -1)=L2 at *
   clear hx
   clear HD
   by_cases hs:L2<0
   ·go_wp2_with fail
    refine HC.out.mono ?_
    rintro e w1 ⟨rfl,hb⟩
    have HB1:=H_ (HB.out.trans (hb.mono HB.out.size))
    clear hb c0 c1 c2
    go_wp2_with fail
    go_ret
    exact ⟨HBAD.out,HB1.out⟩
   ·obtain ⟨s0,s1,s2⟩:=HSM.out hs
    have HS2:=H_ (HMR.out s2)
    clear s2
    go_wp2_with fail
    refine HC.out.mono ?_
    rintro e w1 ⟨rfl,hb⟩
    have HB1:=H_ (HB.out.trans (hb.mono HB.out.size))
    clear hb c0 c1 c2
    go_wp2_with fail
    go_roundw
    case rel=>exact ⟨j+1,L2,by omega,by go_num,rfl,s0,by omega,HS2,HB1⟩
    case measure=>simp [intOf];omega
  ·have hlt2:¬(j:Int)<(len:Int):=by omega
   obtain rfl:j=len:=by omega
   go_wp2_with fail
   go_ret
   exact ⟨HEND.out L (by omega) HD.out l0 l1,HB.out⟩
end SeenR
namespace LedR
open CatR (SzOut)
open DocR LinR RowG
set_option maxRecDepth 100000 in
set_option maxHeartbeats 4000000 in
theorem szDsL (ao:Option Addr) (cap:Nat) (es:List D) (left:Int) (w:World) (hm:es.length≤maxLen) (h0:0≤left) (h1:left≤1048576) (hI:Dcs ao es w) (hin:∀e∈es,e.In∧(Lit.int .i64 e.mo).wf=true) :
 Calls Tryz.prog 17 #[.slice ao es.length cap,.int .i64 left] w fun e w'=>SzOut left (es.length≤1048576∧∀e∈es,e.Sm) e∧Below w.heap.size w w':=by
 have HI:=H_ hI
 have HIn:=H_ hin
 have HEND:Hid (∀L:Int,es.length≤1048576→(∀i,i<es.length→(fun e:D=>e.Sm) (es.getD i D.zero))→0≤L→L≤left→SzOut left (es.length≤1048576∧∀e∈es,e.Sm) (.returned (.int .i64 L))):=H_ (fun L a b c d=>⟨L,rfl,.inr ⟨c,d,a,fun e he=>by
  obtain ⟨i,hi,rfl⟩:=List.getElem_of_mem he
  have:=b i hi
  rwa [show es.getD i D.zero=es[i] by simp [List.getD,hi]] at this⟩⟩)
 have HBAD:Hid (SzOut left (es.length≤1048576∧∀e∈es,e.Sm) (.returned (.int .i64 (-1)))):=H_ ⟨-1,rfl,.inl rfl⟩
 generalize SzOut left (es.length≤1048576∧∀e∈es,e.Sm)=PO at *
 obtain ⟨len,hl⟩:∃len,len=es.length:=⟨_,rfl⟩
 rw [←hl] at hm HEND ⊢
 have HL:=H_ hl
 unfold maxLen at hm
 clear hI hin hl
 by_cases hbig:left-(len:Int)<0
 ·go_enter Tryz.func17,Tryz.ntmps17
  go_wp2_with fail
  go_ret
  exact ⟨HBAD.out,Below.refl _ _⟩
 go_enter Tryz.func17,Tryz.ntmps17
 go_wp2_with fail
 go_loopw [5,1] (fun x y wr=>∃(j:Nat) (L:Int),j≤len∧x=.int .i64 j∧y=.int .i64 L∧0≤L∧L≤left∧Hid (∀i,i<j→(fun e:D=>e.Sm) (es.getD i D.zero))∧Hid (Below w.heap.size w wr)) (fun x _ _=>len-(intOf x).toNat)
 case atStart=>exact ⟨0,left-(len:Int),by omega,rfl,rfl,by omega,by omega,H_ (fun i hi=>absurd hi (by omega)),H_ (Below.refl _ _)⟩
 case round =>
  obtain ⟨j,L,hj,rfl,rfl,l0,l1,HD,HB⟩:=hrel
  by_cases hlt:j<len
  ·have hlt2:(j:Int)<(len:Int):=by omega
   have hkl:j<es.length:=by have:=HL.out;omega
   obtain ⟨b,off,la,lc,rfl,hbl,c0,c1,c2,c3,hLi⟩:=(HI.out.below HB.out).at j hkl
   have hx:=HIn.out _ (RowG.getD_mem (z:=D.zero) es j hkl)
   have HMR:Hid ((fun e:D=>e.Sm) (es.getD j D.zero)→∀i,i<j+1→(fun e:D=>e.Sm) (es.getD i D.zero)):=H_ (fun h i hi=>by
    by_cases e:i=j
    ·subst e;exact h
    ·exact HD.out i (by omega))
   generalize hX:es.getD j D.zero=X at *
   clear hX
   have HC:=H_ (szD_any X la lc L wr l0 (by omega) hx.1 hLi)
   have HSM:Hid (¬dszR L X<0→0≤dszR L X∧dszR L X≤L∧X.Sm):=H_ (fun h=>⟨by omega,(dsz_small (by omega) h).2,(dsz_small (by omega) h).1⟩)
   obtain ⟨xa,xm,xs,xl⟩:=X
   unfold dcells at HC
   dsimp only at c0 c1 c2 c3 HC
   generalize dszR L ⟨xa,xm,xs,xl⟩=L2 at *
   generalize xl.length=ll at *
   clear hLi hx
   clear HD
   by_cases hs:L2<0
   ·go_wp2_with fail
    refine HC.out.mono ?_
    rintro e w1 ⟨rfl,hb⟩
    have HB1:=H_ (HB.out.trans (hb.mono HB.out.size))
    clear hb c0 c1 c2 c3
    go_wp2_with fail
    go_ret
    exact ⟨HBAD.out,HB1.out⟩
   ·obtain ⟨s0,s1,s2⟩:=HSM.out hs
    have HS2:=H_ (HMR.out s2)
    clear s2
    go_wp2_with fail
    refine HC.out.mono ?_
    rintro e w1 ⟨rfl,hb⟩
    have HB1:=H_ (HB.out.trans (hb.mono HB.out.size))
    clear hb c0 c1 c2 c3
    go_wp2_with fail
    go_roundw
    case rel=>exact ⟨j+1,L2,by omega,by go_num,rfl,s0,by omega,HS2,HB1⟩
    case measure=>simp [intOf];omega
  ·have hlt2:¬(j:Int)<(len:Int):=by omega
   obtain rfl:j=len:=by omega
   go_wp2_with fail
   go_ret
   exact ⟨HEND.out L (by omega) HD.out l0 l1,HB.out⟩
end LedR
end Go.Proofs.YtnceeaccbcfopaaGreatDoor
