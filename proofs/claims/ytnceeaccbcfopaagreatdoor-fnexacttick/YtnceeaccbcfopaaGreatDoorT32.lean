/-
  The program's rows of a ledger: impl.rowsOf.
  The conditions stand in what each theorem says.
-/
import Derived.Test.YtnceeaccbcfopaaGreatDoorT31
set_option maxRecDepth 100000
set_option maxHeartbeats 16000000
namespace Go.Proofs.YtnceeaccbcfopaaGreatDoor
open Go.ChangeShapes Go.WideShapes Go.ChangeAt Go.RowKit
set_option linter.unusedVariables false
namespace LedR
open LinR RowG LtR NetR DocR
theorem new_at {w:World} {n:Nat} (h:n=w.heap.size) (cs:List Value) (T:TypeId):BlkW n cs (w.alloc (.cells cs.toArray T)):=by subst h;exact BlkW.new w cs T
theorem omade_at {P:Program} {k:TypeId} {R:Value→Option (DataW Value × List MemPlace)} {w:World} {n:Nat} (h:n=w.heap.size):(w.alloc (.map #[] 0)).ownsMap P k R n 0 (.map []):=by subst h;exact World.ownsMap_made w P k R
theorem al2 (w:World) (o1 o2:Obj):Below w.heap.size w ((w.alloc o1).alloc o2):=(al w o1).trans ((al _ o2).mono (by simp))
theorem al3 (w:World) (o1 o2 o3:Obj):Below w.heap.size w (((w.alloc o1).alloc o2).alloc o3):=(al2 w o1 o2).trans ((al _ o3).mono (by simp;omega))
theorem al4 (w:World) (o1 o2 o3 o4:Obj):Below w.heap.size w ((((w.alloc o1).alloc o2).alloc o3).alloc o4):=(al3 w o1 o2 o3).trans ((al _ o4).mono (by simp;omega))
def RowsR (ds:List D) (w:World) (e:Ending) (w':World):Prop:=Below w.heap.size w w'∧((lB ds=false∧∃c,e=.returned (.tuple #[.map none,.iface 229 (.agg #[.int .i64 c])]))∨(lB ds=true∧∃M,e=.returned (.tuple #[.map (some w.heap.size),.nilIface])∧RowsM w.heap.size M ds w'))
theorem irows (ao:Option Addr) (cap:Nat) (ds:List D) (w:World) (hlen:ds.length≤1048576) (hSm:∀d∈ds,d.Sm) (hwf:∀d∈ds,(Lit.int .i64 d.mo).wf=true) (hI:Dcs ao ds w) :
 Calls Tryz.prog 124 #[.slice ao ds.length cap] w (RowsR ds w):=by
 obtain ⟨len,hl⟩:∃len,len=ds.length:=⟨_,rfl⟩
 have HI:=H_ hI
 have HSm:=H_ hSm
 have HWf:=H_ hwf
 have HNO:Hid (∀c w',lB ds=false→Below w.heap.size w w'→RowsR ds w (.returned (.tuple #[.map none,.iface 229 (.agg #[.int .i64 c])])) w'):=H_ (fun c w' h hb=>⟨hb,.inl ⟨h,c,rfl⟩⟩)
 have HYES:Hid (∀M w',lB ds=true→Below w.heap.size w w'→RowsM w.heap.size M ds w'→RowsR ds w (.returned (.tuple #[.map (some w.heap.size),.nilIface])) w'):=H_ (fun M w' h hb hr=>⟨hb,.inr ⟨h,M,rfl,hr⟩⟩)
 generalize RowsR ds w=PP at *
 rw [←hl] at hlen ⊢
 have HL:=H_ hl
 have hmm:=@run_makeMap Tryz.prog
 clear hI hSm hwf hl
 by_cases hbig:30<len
 ·have hbig2:(30:Int)<(len:Int):=by omega
  have HE:Hid (lB ds=false):=H_ (lB_no (fun h=>by have:=h.1;have:=HL.out;omega))
  go_enter Tryz.func124,Tryz.ntmps124
  go_wp2_with fail
  try go_ret2
  exact HNO.out _ _ HE.out (Below.refl _ _)
 have hbig2:¬(30:Int)<(len:Int):=by omega
 have HR0:=H_ (rows_nil w)
 have HB0:=H_ (al w (.map #[] 0))
 go_enter Tryz.func124,Tryz.ntmps124
 go_wp2_with fail
 go_loopw [21] (fun z wr=>∃k:Nat,k≤len∧z=.int .i64 k∧Hid (RowsM w.heap.size k (ds.take k) wr)∧Hid (SOk ds k)∧Hid (Below w.heap.size w wr)) (fun z _=>len-(intOf z).toNat)
 case atStart=>exact ⟨0,by omega,rfl,HR0,H_ (SOk.zero ds),HB0⟩
 case round =>
  clear HR0 HB0
  obtain ⟨k,hk,rfl,HR,HS,HB⟩:=hrel
  by_cases hlt:k<len
  ·have hlt2:(k:Int)<(len:Int):=by omega
   have hkl:k<ds.length:=by have:=HL.out;omega
   obtain ⟨b,off,la,lc,rfl,hbl,c0,c1,c2,c3,hLi⟩:=(HI.out.below HB.out).at k hkl
   have hmem:=getD_mem (z:=D.zero) ds k hkl
   have HG:Hid (Good (ds.getD k D.zero).a (ds.getD k D.zero).mo):=H_ ⟨(HSm.out _ hmem).1,HWf.out _ hmem⟩
   have HX:=H_ (HSm.out _ hmem)
   obtain ⟨Dm,f,h1,h2,h3,h4⟩:=HR.out
   have HST:=H_ (fun nb W W'=>rows_step (nb:=nb) (W:=W) (W':=W') (Dm:=Dm) (f:=f) (M:=k) (rb:=w.heap.size) hkl HG.out)
   have HKY:=H_ (keyP HG.out)
   have HO:=H_ h1
   have HLi:=H_ hLi
   have hrb:=h1.lt
   clear hLi hmem
   obtain ⟨X,hX⟩:∃X,X=ds.getD k D.zero:=⟨_,rfl⟩
   rw [←hX] at c0 c1 c2 c3 HG HX HKY HLi
   have HXX:=H_ hX
   clear hX
   obtain ⟨xa,xm,xs,xl⟩:=X
   dsimp only at c0 c1 c2 c3 HKY HG
   have H1:=H_ h1
   have H2:=H_ h2
   have H3:=H_ h3
   have H4:=H_ h4
   generalize hxl:xl.length=ll at *
   obtain ⟨c,hc0⟩:∃c:Int,c=((cnt (ds.take k) xa xm:Nat):Int):=⟨_,rfl⟩
   have HC0:=H_ hc0
   by_cases hc:cnt (ds.take k) xa xm=0
   ·have hhas:Maps.has Dm (kP xa xm)=false:=by
     cases hh:Maps.has Dm (kP xa xm)
     ·rfl
     ·obtain ⟨a,m,g,e,hn⟩:=h2 _ hh
      obtain ⟨rfl,rfl⟩:=kP_inj HG.out g e
      exact absurd hc hn
    obtain ⟨v,ps,hrun,hv⟩:=((h1.alloc (.cells #[.string xa,.int .i64 xm,.int .i64 xs,.slice la ll lc] 122)).alloc (.cells #[.string xa,.int .i64 xm] 231)).look_ok keyedP Tryz.underlying173 (zeroR _) (zd:=.held (.agg #[.int .i64 0,.map none])) (zp:=[]) rfl HKY.out
    obtain rfl:v=.agg #[.int .i64 c,.map none]:=by
     rw [Maps.atKey_of_not_has hhas] at hv
     simp [RV] at hv
     rw [hc0,hc]
     exact hv.1
    rw [hhas] at hrun
    clear hv h1 h2 h3 h4 hhas hc0
    go_wp2_with fail
    obtain ⟨W2,hW2⟩:∃W2,W2=(((wr.alloc (.cells #[.string xa,.int .i64 xm,.int .i64 xs,.slice la ll lc] 122)).alloc (.cells #[.string xa,.int .i64 xm] 231)).alloc (.cells #[.int .i64 c,.map (some (wr.heap.size+1+1+1))] 235)).alloc (.map #[] 0):=⟨_,rfl⟩
    obtain ⟨nb,hnb⟩:∃nb,nb=wr.heap.size+1+1+1:=⟨_,rfl⟩
    have HBW:Hid (Below wr.heap.size wr W2):=H_ (by rw [hW2];exact al4 _ _ _ _ _)
    have X1:Hid (BlkW wr.heap.size [.string xa,.int .i64 xm,.int .i64 xs,.slice la ll lc] W2):=H_ (by rw [hW2];exact (((BlkW.new wr [.string xa,.int .i64 xm,.int .i64 xs,.slice la ll lc] 122).below (al _ _)).below (al _ _)).below (al _ _))
    have X2:Hid (BlkW (wr.heap.size+1) [.string xa,.int .i64 xm] W2):=H_ (by rw [hW2];exact ((new_at (w:=wr.alloc (.cells #[.string xa,.int .i64 xm,.int .i64 xs,.slice la ll lc] 122)) (by simp) [.string xa,.int .i64 xm] 231).below (al _ _)).below (al _ _))
    have X3:Hid (BlkW (wr.heap.size+1+1) [.int .i64 c,.map (some nb)] W2):=H_ (by rw [hW2,hnb];exact (new_at (w:=(wr.alloc (.cells #[.string xa,.int .i64 xm,.int .i64 xs,.slice la ll lc] 122)).alloc (.cells #[.string xa,.int .i64 xm] 231)) (by simp) _ 235).below (al _ _))
    obtain ⟨Dn,M',hM',hNM,hNN⟩:∃Dn M',M'≤6*k∧W2.ownsMap Tryz.prog 9 (plainElem (H:=Value) Tryz.prog 2) nb M' Dn∧NetM Dn (net (ds.take k) xa xm):=⟨.map [],0,by omega,by rw [hW2,hnb];exact omade_at (by simp),by rw [net_zero hc];exact netM_nil⟩
    have HNM:=H_ hNM
    have HNN:=H_ hNN
    have HNB:Hid (w.heap.size<nb∧nb<W2.heap.size∧((cnt (ds.take k) xa xm≠0∧nb=f xa xm)∨(cnt (ds.take k) xa xm=0∧wr.heap.size≤nb))∧nb≠wr.heap.size∧nb≠(wr.heap.size+1)∧nb≠(wr.heap.size+1+1)):=H_ (by rw [hnb,hW2];refine ⟨?_,?_,.inr ⟨hc,?_⟩,?_,?_,?_⟩<;>(try simp)<;>(try omega))
    rw [←hW2]
    rw [←hnb]
    clear hW2 hnb hNM hNN hrun
    replace HO:=H_ (omap_below HO.out HBW.out)
    have HD:Hid (Calls Tryz.prog 168 #[.agg #[.string xa,.int .i64 xm,.int .i64 xs,.slice la ll lc]] W2 fun e w'=>e=.returned (.bool (dB ⟨xa,xm,xs,xl⟩))∧Below W2.heap.size W2 w'):=H_ (by
     have h:=impl_doc ⟨xa,xm,xs,xl⟩ la lc W2 HX.out (HLi.out.below HBW.out)
     simp only [dcells,hxl] at h
     exact h)
    have HDB:=H_ (fun h:dB ⟨xa,xm,xs,xl⟩=true=>dB_lines h)
    have HDN:Hid (dB ⟨xa,xm,xs,xl⟩=false∨xs≠c→lB ds=false):=H_ (fun h=>lB_no (fun hr=>by
     have h1:=hr.2.1 k hkl
     rw [←HXX.out] at h1
     rcases h with h|h
     ·rw [h] at h1;exact absurd h1.1 (by simp)
     ·exact h (h1.2.trans HC0.out.symm)))
    have HSO:Hid (dB ⟨xa,xm,xs,xl⟩=true→xs=c→SOk ds (k+1)):=H_ (fun h1 h2=>HS.out.more (by rw [←HXX.out];exact h1) (by rw [←HXX.out];exact h2.trans HC0.out))
    generalize dB ⟨xa,xm,xs,xl⟩=r at *
    have a2:=q_ X1.out.1.2 2
    have a3:=q_ X1.out.1.2 3
    have a1l:=X1.out.1.1
    have p0:=q_ X2.out.1.2 0
    have p1:=q_ X2.out.1.2 1
    have p2l:=X2.out.1.1
    have r0:=q_ X3.out.1.2 0
    have r1:=q_ X3.out.1.2 1
    have rf:=X3.out.2 0 (by simp)
    have r3l:=X3.out.1.1
    refine HD.out.mono ?_
    rintro e w3 ⟨rfl,hb3⟩
    clear a2 a3 a1l p0 p1 p2l r0 r1 rf r3l
    have HB3:=H_ (HB.out.trans ((HBW.out.trans (hb3.mono HBW.out.size)).mono HB.out.size))
    have HBW3:=HT_ HBW hb3
    have hsz3:=hb3.size
    replace X1:=H_ (X1.out.below hb3)
    replace X2:=H_ (X2.out.below hb3)
    replace X3:=H_ (X3.out.below hb3)
    replace HNM:=H_ (omap_below HNM.out hb3)
    replace HO:=H_ (omap_below HO.out hb3)
    clear hb3 HD HBW
    cases r
    ·have HE:=H_ (HDN.out (.inl rfl))
     have a2:=q_ X1.out.1.2 2
     have a3:=q_ X1.out.1.2 3
     have a1l:=X1.out.1.1
     have p0:=q_ X2.out.1.2 0
     have p1:=q_ X2.out.1.2 1
     have p2l:=X2.out.1.1
     have r0:=q_ X3.out.1.2 0
     have r1:=q_ X3.out.1.2 1
     have rf:=X3.out.2 0 (by simp)
     have r3l:=X3.out.1.1
     go_wp2_with fail
     try go_ret2
     exact HNO.out _ _ HE.out HB3.out
    have HRG:=H_ (HDB.out rfl)
    by_cases hsq:xs=c
    ·have HSK:=H_ (HSO.out rfl hsq)
     subst hsq
     have hq:(xs != xs)=false:=by simp
     have h6:xl.length≤6:=HRG.out.1
     have HNF:=H_ (net_facts (ds:=ds) k (by omega) HS.out xa xm)
     have HBR:=H_ (bring_any la lc xl 1 nb M' Dn (net (ds.take k) xa xm) (6000000000000000*(k:Int)) w3 (.inl rfl) (by omega) HX.out.2.2 (right_bd HRG.out) HNM.out (by omega) HNN.out (by omega) HNF.out.2.2 (HLi.out.below HBW3.out))
     rw [hxl] at HBR
     have a2:=q_ X1.out.1.2 2
     have a3:=q_ X1.out.1.2 3
     have a1l:=X1.out.1.1
     have p0:=q_ X2.out.1.2 0
     have p1:=q_ X2.out.1.2 1
     have p2l:=X2.out.1.1
     have r0:=q_ X3.out.1.2 0
     have r1:=q_ X3.out.1.2 1
     have rf:=X3.out.2 0 (by simp)
     have r3l:=X3.out.1.1
     go_wp2_with fail
     refine HBR.out.mono ?_
     rintro e w4 ⟨rfl,⟨D4,hO4,hN4⟩,_,hg4⟩
     clear a2 a3 a1l p0 p1 p2l r0 r1 rf r3l
     have hn:=HNB.out
     have X1:=H_ (blkw_grown X1.out hg4 (by simp;omega))
     have X2:=H_ (blkw_grown X2.out hg4 (by simp;omega))
     have X3:=H_ (blkw_grown X3.out hg4 (by simp;omega))
     have HO4:=H_ (HO.out.kept hg4 (by simp;omega))
     have HN4:=H_ hO4
     have HM4:=H_ hN4
     have HB4:=H_ (HB3.out.grown hg4 HB3.out.size (fun k e=>by cases e;omega))
     have HG4:=H_ hg4
     have hsz4:=hg4.size
     have hcw:wrap64 (xs+1)=xs+1:=by have:=HC0.out;have:=cnt_le (ds.take k) xa xm;have h2:(ds.take k).length≤k:=List.length_take_le k ds;unfold wrap64;omega
     have HO5:=H_ (HO4.out.setCell (a:=⟨(wr.heap.size+1+1),0,none⟩) (show w.heap.size≠(wr.heap.size+1+1) by have:=HB.out.size;omega) (.int .i64 (xs+1)))
     have X25:=H_ (DocR.BlkW.other X2.out (wr.heap.size+1+1) 0 (.int .i64 (xs+1)) (by omega))
     have X35:=H_ (X3.out.set 0 (.int .i64 (xs+1)) (by simp))
     clear hO4 hN4 hg4 HBR
     have a2:=q_ X1.out.1.2 2
     have a3:=q_ X1.out.1.2 3
     have a1l:=X1.out.1.1
     have p0:=q_ X2.out.1.2 0
     have p1:=q_ X2.out.1.2 1
     have p2l:=X2.out.1.1
     have r0:=q_ X3.out.1.2 0
     have r1:=q_ X3.out.1.2 1
     have rf:=X3.out.2 0 (by simp)
     have r3l:=X3.out.1.1
     have q0:(w4.setCell ⟨(wr.heap.size+1+1),0,none⟩ (.int .i64 (xs+1))).cell? ⟨(wr.heap.size+1),0,none⟩=some (.string xa):=X25.out.1.2 0 (by simp)
     have q1:(w4.setCell ⟨(wr.heap.size+1+1),0,none⟩ (.int .i64 (xs+1))).cell? ⟨(wr.heap.size+1),1,none⟩=some (.int .i64 xm):=X25.out.1.2 1 (by simp)
     have t0:(w4.setCell ⟨(wr.heap.size+1+1),0,none⟩ (.int .i64 (xs+1))).cell? ⟨(wr.heap.size+1+1),0,none⟩=some (.int .i64 (xs+1)):=X35.out.1.2 0 (by simp)
     have t1:(w4.setCell ⟨(wr.heap.size+1+1),0,none⟩ (.int .i64 (xs+1))).cell? ⟨(wr.heap.size+1+1),1,none⟩=some (.map (some nb)):=X35.out.1.2 1 (by simp)
     go_wp2_with (at_mapUpdate;refine wpList_mapUpdate_own _ rfl _ _ _ 173 rfl 231 235 keyedP Tryz.underlying173 RV w.heap.size k Dm rfl HO5.out (by unfold maxLen;omega) _ _ _ rfl rfl HKY.out (.held (.agg #[.int .i64 (xs+1),.map (some nb)])) [] rfl ?_;intro w6 hown hgrow)
     have HRS:Hid (RowsM w.heap.size (k+1) (ds.take (k+1)) w6):=H_ (by
      have hz6:=hgrow.size
      have hz5:(w4.setCell ⟨(wr.heap.size+1+1),0,none⟩ (.int .i64 (xs+1))).heap.size=w4.heap.size:=by simp
      have hst:=HST.out nb wr w6
      rw [←HXX.out] at hst
      dsimp only at hst
      refine hst H1.out H2.out H3.out H4.out ⟨hn.1,by omega⟩ hn.2.2.1 (by rw [←HC0.out];exact hown) ⟨D4,M'+ll,by omega,?_,HM4.out⟩ (fun b0 hb0 n1 n2=>?_) (by have:=HBW3.out.size;omega)
      ·exact (HN4.out.setCell (a:=⟨(wr.heap.size+1+1),0,none⟩) (show nb≠(wr.heap.size+1+1) by omega) _).kept hgrow (by simp;omega)
      ·have e1:=hgrow.block b0 (by rw [hz5];have:=HBW3.out.size;omega) (by simpa using n1)
       have e2:(w4.setCell ⟨(wr.heap.size+1+1),0,none⟩ (.int .i64 (xs+1))).heap[b0]? = w4.heap[b0]?:=by
        simp only [World.setCell]
        rw [Array.getElem?_modify,if_neg (by omega)]
       have e3:=HG4.out.block b0 (by have:=HBW3.out.size;omega) (by simpa using n2)
       exact ((e1.trans e2).trans e3).trans (HBW3.out.block b0 hb0))
     have HB6:Hid (Below w.heap.size w w6):=H_ ((HB4.out.setCell (p:=⟨(wr.heap.size+1+1),0,none⟩) (show w.heap.size≤(wr.heap.size+1+1) by have:=HB.out.size;omega) _).grown hgrow (by have:=HB4.out.size;simpa using this) (fun k e=>by cases e;exact Nat.le_refl _))
     clear a2 a3 a1l p0 p1 p2l r0 r1 rf r3l
     clear hown hgrow q0 q1 t0 t1
     go_wp2_with fail
     go_roundw
     case rel=>exact ⟨k+1,by omega,by go_num,HRS,HSK,HB6⟩
     case measure=>simp [intOf];omega
    ·have hq:(xs != c)=true:=by simpa using hsq
     have HE:=H_ (HDN.out (.inr hsq))
     have a2:=q_ X1.out.1.2 2
     have a3:=q_ X1.out.1.2 3
     have a1l:=X1.out.1.1
     have p0:=q_ X2.out.1.2 0
     have p1:=q_ X2.out.1.2 1
     have p2l:=X2.out.1.1
     have r0:=q_ X3.out.1.2 0
     have r1:=q_ X3.out.1.2 1
     have rf:=X3.out.2 0 (by simp)
     have r3l:=X3.out.1.1
     go_wp2_with fail
     try go_ret2
     exact HNO.out _ _ HE.out HB3.out
   ·have hatk:=(h3 xa xm hc).2.1
    have hhas:Maps.has Dm (kP xa xm)=true:=Maps.has_true_of_atKey hatk
    obtain ⟨v,ps,hrun,hv⟩:=((h1.alloc (.cells #[.string xa,.int .i64 xm,.int .i64 xs,.slice la ll lc] 122)).alloc (.cells #[.string xa,.int .i64 xm] 231)).look_ok keyedP Tryz.underlying173 (zeroR _) (zd:=.held (.agg #[.int .i64 0,.map none])) (zp:=[]) rfl HKY.out
    obtain rfl:v=.agg #[.int .i64 c,.map (some (f xa xm))]:=by
     rw [hatk,←hc0] at hv
     simp [RV] at hv
     exact hv.1
    rw [hhas] at hrun
    clear hv h1 h2 h3 h4 hhas hc0 hatk
    go_wp2_with fail
    obtain ⟨W2,hW2⟩:∃W2,W2=((wr.alloc (.cells #[.string xa,.int .i64 xm,.int .i64 xs,.slice la ll lc] 122)).alloc (.cells #[.string xa,.int .i64 xm] 231)).alloc (.cells #[.int .i64 c,.map (some (f xa xm))] 235):=⟨_,rfl⟩
    obtain ⟨nb,hnb⟩:∃nb,nb=f xa xm:=⟨_,rfl⟩
    have HBW:Hid (Below wr.heap.size wr W2):=H_ (by rw [hW2];exact al3 _ _ _ _)
    have X1:Hid (BlkW wr.heap.size [.string xa,.int .i64 xm,.int .i64 xs,.slice la ll lc] W2):=H_ (by rw [hW2];exact ((BlkW.new wr [.string xa,.int .i64 xm,.int .i64 xs,.slice la ll lc] 122).below (al _ _)).below (al _ _))
    have X2:Hid (BlkW (wr.heap.size+1) [.string xa,.int .i64 xm] W2):=H_ (by rw [hW2];exact (new_at (w:=wr.alloc (.cells #[.string xa,.int .i64 xm,.int .i64 xs,.slice la ll lc] 122)) (by simp) [.string xa,.int .i64 xm] 231).below (al _ _))
    have X3:Hid (BlkW (wr.heap.size+1+1) [.int .i64 c,.map (some nb)] W2):=H_ (by rw [hW2,hnb];exact new_at (w:=(wr.alloc (.cells #[.string xa,.int .i64 xm,.int .i64 xs,.slice la ll lc] 122)).alloc (.cells #[.string xa,.int .i64 xm] 231)) (by simp) _ 235)
    obtain ⟨Dn,M',hM',hNM,hNN⟩:∃Dn M',M'≤6*k∧W2.ownsMap Tryz.prog 9 (plainElem (H:=Value) Tryz.prog 2) nb M' Dn∧NetM Dn (net (ds.take k) xa xm):=by
     obtain ⟨_,_,_,q3,Dn,M',q4,q5,q6⟩:=H3.out xa xm hc
     refine ⟨Dn,M',?_,?_,q6⟩
     ·have h2:(ds.take k).length≤k:=List.length_take_le k ds
      omega
     ·rw [hnb];exact omap_below q5 HBW.out
    have HNM:=H_ hNM
    have HNN:=H_ hNN
    have HNB:Hid (w.heap.size<nb∧nb<W2.heap.size∧((cnt (ds.take k) xa xm≠0∧nb=f xa xm)∨(cnt (ds.take k) xa xm=0∧wr.heap.size≤nb))∧nb≠wr.heap.size∧nb≠(wr.heap.size+1)∧nb≠(wr.heap.size+1+1)):=H_ (by
     obtain ⟨_,_,q2,q3,_⟩:=H3.out xa xm hc
     have:=HBW.out.size
     rw [hnb]
     exact ⟨q2,by omega,.inl ⟨hc,rfl⟩,by omega,by omega,by omega⟩)
    rw [←hW2]
    rw [←hnb]
    clear hW2 hnb hNM hNN hrun
    replace HO:=H_ (omap_below HO.out HBW.out)
    have HD:Hid (Calls Tryz.prog 168 #[.agg #[.string xa,.int .i64 xm,.int .i64 xs,.slice la ll lc]] W2 fun e w'=>e=.returned (.bool (dB ⟨xa,xm,xs,xl⟩))∧Below W2.heap.size W2 w'):=H_ (by
     have h:=impl_doc ⟨xa,xm,xs,xl⟩ la lc W2 HX.out (HLi.out.below HBW.out)
     simp only [dcells,hxl] at h
     exact h)
    have HDB:=H_ (fun h:dB ⟨xa,xm,xs,xl⟩=true=>dB_lines h)
    have HDN:Hid (dB ⟨xa,xm,xs,xl⟩=false∨xs≠c→lB ds=false):=H_ (fun h=>lB_no (fun hr=>by
     have h1:=hr.2.1 k hkl
     rw [←HXX.out] at h1
     rcases h with h|h
     ·rw [h] at h1;exact absurd h1.1 (by simp)
     ·exact h (h1.2.trans HC0.out.symm)))
    have HSO:Hid (dB ⟨xa,xm,xs,xl⟩=true→xs=c→SOk ds (k+1)):=H_ (fun h1 h2=>HS.out.more (by rw [←HXX.out];exact h1) (by rw [←HXX.out];exact h2.trans HC0.out))
    generalize dB ⟨xa,xm,xs,xl⟩=r at *
    have a2:=q_ X1.out.1.2 2
    have a3:=q_ X1.out.1.2 3
    have a1l:=X1.out.1.1
    have p0:=q_ X2.out.1.2 0
    have p1:=q_ X2.out.1.2 1
    have p2l:=X2.out.1.1
    have r0:=q_ X3.out.1.2 0
    have r1:=q_ X3.out.1.2 1
    have rf:=X3.out.2 0 (by simp)
    have r3l:=X3.out.1.1
    refine HD.out.mono ?_
    rintro e w3 ⟨rfl,hb3⟩
    clear a2 a3 a1l p0 p1 p2l r0 r1 rf r3l
    have HB3:=H_ (HB.out.trans ((HBW.out.trans (hb3.mono HBW.out.size)).mono HB.out.size))
    have HBW3:=HT_ HBW hb3
    have hsz3:=hb3.size
    replace X1:=H_ (X1.out.below hb3)
    replace X2:=H_ (X2.out.below hb3)
    replace X3:=H_ (X3.out.below hb3)
    replace HNM:=H_ (omap_below HNM.out hb3)
    replace HO:=H_ (omap_below HO.out hb3)
    clear hb3 HD HBW
    cases r
    ·have HE:=H_ (HDN.out (.inl rfl))
     have a2:=q_ X1.out.1.2 2
     have a3:=q_ X1.out.1.2 3
     have a1l:=X1.out.1.1
     have p0:=q_ X2.out.1.2 0
     have p1:=q_ X2.out.1.2 1
     have p2l:=X2.out.1.1
     have r0:=q_ X3.out.1.2 0
     have r1:=q_ X3.out.1.2 1
     have rf:=X3.out.2 0 (by simp)
     have r3l:=X3.out.1.1
     go_wp2_with fail
     try go_ret2
     exact HNO.out _ _ HE.out HB3.out
    have HRG:=H_ (HDB.out rfl)
    by_cases hsq:xs=c
    ·have HSK:=H_ (HSO.out rfl hsq)
     subst hsq
     have hq:(xs != xs)=false:=by simp
     have h6:xl.length≤6:=HRG.out.1
     have HNF:=H_ (net_facts (ds:=ds) k (by omega) HS.out xa xm)
     have HBR:=H_ (bring_any la lc xl 1 nb M' Dn (net (ds.take k) xa xm) (6000000000000000*(k:Int)) w3 (.inl rfl) (by omega) HX.out.2.2 (right_bd HRG.out) HNM.out (by omega) HNN.out (by omega) HNF.out.2.2 (HLi.out.below HBW3.out))
     rw [hxl] at HBR
     have a2:=q_ X1.out.1.2 2
     have a3:=q_ X1.out.1.2 3
     have a1l:=X1.out.1.1
     have p0:=q_ X2.out.1.2 0
     have p1:=q_ X2.out.1.2 1
     have p2l:=X2.out.1.1
     have r0:=q_ X3.out.1.2 0
     have r1:=q_ X3.out.1.2 1
     have rf:=X3.out.2 0 (by simp)
     have r3l:=X3.out.1.1
     go_wp2_with fail
     refine HBR.out.mono ?_
     rintro e w4 ⟨rfl,⟨D4,hO4,hN4⟩,_,hg4⟩
     clear a2 a3 a1l p0 p1 p2l r0 r1 rf r3l
     have hn:=HNB.out
     have X1:=H_ (blkw_grown X1.out hg4 (by simp;omega))
     have X2:=H_ (blkw_grown X2.out hg4 (by simp;omega))
     have X3:=H_ (blkw_grown X3.out hg4 (by simp;omega))
     have HO4:=H_ (HO.out.kept hg4 (by simp;omega))
     have HN4:=H_ hO4
     have HM4:=H_ hN4
     have HB4:=H_ (HB3.out.grown hg4 HB3.out.size (fun k e=>by cases e;omega))
     have HG4:=H_ hg4
     have hsz4:=hg4.size
     have hcw:wrap64 (xs+1)=xs+1:=by have:=HC0.out;have:=cnt_le (ds.take k) xa xm;have h2:(ds.take k).length≤k:=List.length_take_le k ds;unfold wrap64;omega
     have HO5:=H_ (HO4.out.setCell (a:=⟨(wr.heap.size+1+1),0,none⟩) (show w.heap.size≠(wr.heap.size+1+1) by have:=HB.out.size;omega) (.int .i64 (xs+1)))
     have X25:=H_ (DocR.BlkW.other X2.out (wr.heap.size+1+1) 0 (.int .i64 (xs+1)) (by omega))
     have X35:=H_ (X3.out.set 0 (.int .i64 (xs+1)) (by simp))
     clear hO4 hN4 hg4 HBR
     have a2:=q_ X1.out.1.2 2
     have a3:=q_ X1.out.1.2 3
     have a1l:=X1.out.1.1
     have p0:=q_ X2.out.1.2 0
     have p1:=q_ X2.out.1.2 1
     have p2l:=X2.out.1.1
     have r0:=q_ X3.out.1.2 0
     have r1:=q_ X3.out.1.2 1
     have rf:=X3.out.2 0 (by simp)
     have r3l:=X3.out.1.1
     have q0:(w4.setCell ⟨(wr.heap.size+1+1),0,none⟩ (.int .i64 (xs+1))).cell? ⟨(wr.heap.size+1),0,none⟩=some (.string xa):=X25.out.1.2 0 (by simp)
     have q1:(w4.setCell ⟨(wr.heap.size+1+1),0,none⟩ (.int .i64 (xs+1))).cell? ⟨(wr.heap.size+1),1,none⟩=some (.int .i64 xm):=X25.out.1.2 1 (by simp)
     have t0:(w4.setCell ⟨(wr.heap.size+1+1),0,none⟩ (.int .i64 (xs+1))).cell? ⟨(wr.heap.size+1+1),0,none⟩=some (.int .i64 (xs+1)):=X35.out.1.2 0 (by simp)
     have t1:(w4.setCell ⟨(wr.heap.size+1+1),0,none⟩ (.int .i64 (xs+1))).cell? ⟨(wr.heap.size+1+1),1,none⟩=some (.map (some nb)):=X35.out.1.2 1 (by simp)
     go_wp2_with (at_mapUpdate;refine wpList_mapUpdate_own _ rfl _ _ _ 173 rfl 231 235 keyedP Tryz.underlying173 RV w.heap.size k Dm rfl HO5.out (by unfold maxLen;omega) _ _ _ rfl rfl HKY.out (.held (.agg #[.int .i64 (xs+1),.map (some nb)])) [] rfl ?_;intro w6 hown hgrow)
     have HRS:Hid (RowsM w.heap.size (k+1) (ds.take (k+1)) w6):=H_ (by
      have hz6:=hgrow.size
      have hz5:(w4.setCell ⟨(wr.heap.size+1+1),0,none⟩ (.int .i64 (xs+1))).heap.size=w4.heap.size:=by simp
      have hst:=HST.out nb wr w6
      rw [←HXX.out] at hst
      dsimp only at hst
      refine hst H1.out H2.out H3.out H4.out ⟨hn.1,by omega⟩ hn.2.2.1 (by rw [←HC0.out];exact hown) ⟨D4,M'+ll,by omega,?_,HM4.out⟩ (fun b0 hb0 n1 n2=>?_) (by have:=HBW3.out.size;omega)
      ·exact (HN4.out.setCell (a:=⟨(wr.heap.size+1+1),0,none⟩) (show nb≠(wr.heap.size+1+1) by omega) _).kept hgrow (by simp;omega)
      ·have e1:=hgrow.block b0 (by rw [hz5];have:=HBW3.out.size;omega) (by simpa using n1)
       have e2:(w4.setCell ⟨(wr.heap.size+1+1),0,none⟩ (.int .i64 (xs+1))).heap[b0]? = w4.heap[b0]?:=by
        simp only [World.setCell]
        rw [Array.getElem?_modify,if_neg (by omega)]
       have e3:=HG4.out.block b0 (by have:=HBW3.out.size;omega) (by simpa using n2)
       exact ((e1.trans e2).trans e3).trans (HBW3.out.block b0 hb0))
     have HB6:Hid (Below w.heap.size w w6):=H_ ((HB4.out.setCell (p:=⟨(wr.heap.size+1+1),0,none⟩) (show w.heap.size≤(wr.heap.size+1+1) by have:=HB.out.size;omega) _).grown hgrow (by have:=HB4.out.size;simpa using this) (fun k e=>by cases e;exact Nat.le_refl _))
     clear a2 a3 a1l p0 p1 p2l r0 r1 rf r3l
     clear hown hgrow q0 q1 t0 t1
     go_wp2_with fail
     go_roundw
     case rel=>exact ⟨k+1,by omega,by go_num,HRS,HSK,HB6⟩
     case measure=>simp [intOf];omega
    ·have hq:(xs != c)=true:=by simpa using hsq
     have HE:=H_ (HDN.out (.inr hsq))
     have a2:=q_ X1.out.1.2 2
     have a3:=q_ X1.out.1.2 3
     have a1l:=X1.out.1.1
     have p0:=q_ X2.out.1.2 0
     have p1:=q_ X2.out.1.2 1
     have p2l:=X2.out.1.1
     have r0:=q_ X3.out.1.2 0
     have r1:=q_ X3.out.1.2 1
     have rf:=X3.out.2 0 (by simp)
     have r3l:=X3.out.1.1
     go_wp2_with fail
     try go_ret2
     exact HNO.out _ _ HE.out HB3.out
  ·have hlt2:¬(k:Int)<(len:Int):=by omega
   obtain rfl:k=len:=by omega
   have HT:Hid (ds.take k=ds):=H_ (List.take_of_length_le (by have:=HL.out;omega))
   rw [HT.out] at HR
   obtain ⟨Wo,hWo⟩:∃Wo,Wo=wr:=⟨_,rfl⟩
   subst hWo
   have HRK:=HR
   obtain ⟨Dm,f,h1,h2,h3,h4⟩:=HR.out
   have HO:=H_ h1
   have H2:=H_ h2
   have H3:=H_ h3
   have hrb:=h1.lt
   clear h1 h2 h3 h4 HR
   have HNK:Hid (∀a m,cnt ds a m≠0→ovB (net ds a m)=false→lB ds=false):=H_ (fun a m hc h=>lB_no (fun hr=>by
    obtain ⟨i,hi,rfl,rfl⟩:=mem_cnt hc
    have:=hr.2.2 i hi
    rw [h] at this
    cases this))
   have HYK:Hid ((∀a m,cnt ds a m≠0→ovB (net ds a m)=true)→lB ds=true):=H_ (fun h=>lB_yes ⟨by have:=HL.out;omega,by have:=HS.out;rw [HL.out] at this;exact this,fun i hi=>h _ _ (cnt_mem hi)⟩)
   go_wp2_with (at_range;refine wpList_range_own _ rfl _ 173 rfl 231 235 keyedP Tryz.underlying173 _ w.heap.size k Dm rfl HO.out ?_;intro w0 hrg0 hg0 hs0)
   have HB0:Hid (Below Wo.heap.size Wo w0):=H_ ((Below.refl _ _).grown hg0 (Nat.le_refl _) (fun k e=>by cases e))
   clear hg0 hs0
   try go_frame
   go_loopw [2] (fun v2 wr=>∃(left:Lit→Bool) (cn:Nat),wr.ranges Tryz.prog 231 RV w.heap.size Wo.heap.size k Dm left cn∧Hid (∀a m,cnt ds a m≠0→left (kP a m)=false→ovB (net ds a m)=true)∧Hid (Below Wo.heap.size Wo wr)) (fun _ wr=>wr.rangeLeft w.heap.size Wo.heap.size)
   case atStart=>exact ⟨_,_,hrg0,H_ (fun a m hc h=>by rw [Maps.has_true_of_atKey (H3.out a m hc).2.1] at h;cases h),HB0⟩
   case round =>
    obtain ⟨left,cn,hrg,HLf,HBo⟩:=hrel
    have HRG:=H_ hrg
    have hmeas:=hrg.left_eq
    clear hrg hrg0 HB0
    have HBa:=H_ (HB.out.trans (HBo.out.mono HB.out.size))
    go_wp2_with (at_next;refine wpList_next_ranges _ rfl _ rfl 231 keyedP _ (fun v:Value=>v) (fun v:Value=>v) (fun key kl h=>⟨key,rfl⟩) (fun v y h=>⟨v,rfl⟩) w.heap.size Wo.heap.size k Dm left cn rfl HRG.out ?_ ?_)
    ·intro hc0 hl0
     have HE:=H_ (HYK.out (fun a m hc=>HLf.out a m hc (hl0 _)))
     have HRW:=H_ (HRK.out.kept HBo.out)
     clear hl0
     go_wp2_with fail
     try go_ret2
     exact HYES.out k _ HE.out HBa.out HRW.out
    ·intro x c kl yd yp w' cnt' hkey hlk hv hat hrg' hlt3 hgr hsz hen
     simp only [RV,Option.some.injEq,Prod.mk.injEq] at hv
     obtain ⟨rfl,_⟩:=hv
     obtain ⟨a,m,hgd,rfl,hcn⟩:=H2.out kl (Maps.has_true_of_atKey hat)
     obtain ⟨_,q1,q2,q3,Dn,M',q4,q5,q6⟩:=H3.out a m hcn
     obtain rfl:c=.agg #[.int .i64 (cnt ds a m:Nat),.map (some (f a m))]:=by
      have h:=(hat (.held undef)).symm.trans (q1 _)
      simpa using h
     have HB1:=H_ (HBo.out.grown hgr HBo.out.size (fun k e=>by cases e;exact Nat.le_refl _))
     have HBb:=H_ (HB.out.trans (HB1.out.mono HB.out.size))
     have HRG1:=H_ hrg'
     have hms:=hrg'.left_eq
     have HOV:=H_ (fun o=>over_any (f a m) M' Dn (net ds a m) (w'.alloc o) ((omap_below q5 HB1.out).alloc o) q6)
     have HNO2:Hid (ovB (net ds a m)=false→lB ds=false):=H_ (HNK.out a m hcn)
     have HL2:Hid (ovB (net ds a m)=true→∀a' m',cnt ds a' m'≠0→(left (kP a' m') && !(kP a' m').sameKey (kP a m))=false→ovB (net ds a' m')=true):=H_ (fun h a' m' hc' h2=>by
      cases h3:left (kP a' m')
      ·exact HLf.out a' m' hc' h3
      ·rw [h3] at h2
       simp only [Bool.true_and,Bool.not_eq_false'] at h2
       obtain ⟨rfl,rfl⟩:=kP_inj (H3.out a' m' hc').1 hgd (WideAt.sameKey_eq h2)
       exact h)
     clear hkey hlk hat hrg' hgr q1 q2 q3 q4 q5 q6 HRG HLf HBo HBa
     generalize ovB (net ds a m)=r at *
     generalize ((cnt ds a m:Nat):Int)=cc at *
     generalize f a m=nb at *
     cases r
     ·have HE:=H_ (HNO2.out rfl)
      go_wp2_with fail
      refine (HOV.out _).mono ?_
      rintro e w5 ⟨rfl,hb5⟩
      have HB5:=H_ (HBb.out.trans (((al w' _).trans (hb5.mono (by simp))).mono HBb.out.size))
      clear hb5
      simp only [ovE,Bool.false_eq_true,if_false]
      go_wp2_with fail
      try go_ret2
      exact HNO.out _ _ HE.out HB5.out
     ·have HE:=H_ (HL2.out rfl)
      have HRA:=H_ (fun o=>HRG1.out.alloc o)
      go_wp2_with fail
      refine (HOV.out _).mono ?_
      rintro e w5 ⟨rfl,hb5⟩
      have HB5:=H_ (HB1.out.trans (((al w' _).trans (hb5.mono (by simp))).mono HB1.out.size))
      have HR5:=H_ ((HRA.out _).kept (row:=none) ⟨hb5.os,hb5.tape,hb5.output,hb5.size,fun k hk _=>hb5.block k hk⟩ (by simp) (by simp))
      have hm5:=HR5.out.left_eq
      clear hb5 hms
      simp only [ovE,if_true]
      go_wp2_with fail
      go_roundw
      case rel=>exact ⟨_,_,HR5.out,HE,HB5⟩
      case measure=>rw [hm5,hmeas];exact hlt3
end LedR
end Go.Proofs.YtnceeaccbcfopaaGreatDoor
