/-
  The program's rows of a ledger: impl.rowsOf. The conditions: documents that are small, their months numbers of 64 bits.
-/
import Derived.Test.YtmalfhhkjdkadaaGreatDoorN25
namespace Go.Proofs.YtmalfhhkjdkadaaGreatDoor
open Go.ChangeShapes Go.WideShapes Go.ChangeAt Go.RowKit
set_option linter.unusedVariables false
namespace LedR
open LinR RowG LtR NetR DocR
theorem new_at {w:World} {n:Nat} (h:n=w.heap.size) (cs:List Value) (T:TypeId):BlkW n cs (w.alloc (.cells cs.toArray T)):=by subst h;exact BlkW.new w cs T
theorem omade_at {P:Program} {k:TypeId} {R:Value→Option (DataW Value × List MemPlace)} {w:World} {n:Nat} (h:n=w.heap.size):(w.alloc (.map #[] 0)).ownsMap P k R n 0 (.map []):=by subst h;exact World.ownsMap_made w P k R
theorem al2 (w:World) (o1 o2:Obj):Below w.heap.size w ((w.alloc o1).alloc o2):=(al w o1).trans ((al _ o2).mono (by simp))
theorem al3 (w:World) (o1 o2 o3:Obj):Below w.heap.size w (((w.alloc o1).alloc o2).alloc o3):=(al2 w o1 o2).trans ((al _ o3).mono (by simp;omega))
theorem al4 (w:World) (o1 o2 o3 o4:Obj):Below w.heap.size w ((((w.alloc o1).alloc o2).alloc o3).alloc o4):=(al3 w o1 o2 o3).trans ((al _ o4).mono (by simp;omega))
def RowsR (ds:List D) (w:World) (e:Ending) (w':World):Prop:=Below w.heap.size w w'∧((lB ds=false∧∃c,e=.returned (.tuple #[.map none,.iface 222 (.agg #[.int .i64 c])]))∨(lB ds=true∧∃M,e=.returned (.tuple #[.map (some w.heap.size),.nilIface])∧RowsM w.heap.size M ds w'))
set_option maxRecDepth 100000 in
set_option maxHeartbeats 8000000 in
theorem irows (ao:Option Addr) (cap:Nat) (ds:List D) (w:World) (hlen:ds.length≤1048576) (hSm:∀d∈ds,d.Sm) (hwf:∀d∈ds,(Lit.int .i64 d.mo).wf=true) (hI:Dcs ao ds w) :
 Calls Tryz.prog 117 #[.slice ao ds.length cap] w (RowsR ds w):=by
 obtain ⟨len,hl⟩:∃len,len=ds.length:=⟨_,rfl⟩
 have HI:=hid_intro hI
 have HSm:=hid_intro hSm
 have HWf:=hid_intro hwf
 have HNO:Hid (∀c w',lB ds=false→Below w.heap.size w w'→RowsR ds w (.returned (.tuple #[.map none,.iface 222 (.agg #[.int .i64 c])])) w'):=hid_intro (fun c w' h hb=>⟨hb,.inl ⟨h,c,rfl⟩⟩)
 have HYES:Hid (∀M w',lB ds=true→Below w.heap.size w w'→RowsM w.heap.size M ds w'→RowsR ds w (.returned (.tuple #[.map (some w.heap.size),.nilIface])) w'):=hid_intro (fun M w' h hb hr=>⟨hb,.inr ⟨h,M,rfl,hr⟩⟩)
 generalize RowsR ds w=PP at *
 rw [←hl] at hlen ⊢
 have HL:=hid_intro hl
 have hmm:=@run_makeMap Tryz.prog
 clear hI hSm hwf hl
 by_cases hbig:30<len
 ·have hbig2:(30:Int)<(len:Int):=by omega
  have HE:Hid (lB ds=false):=hid_intro (lB_no (fun h=>by have:=h.1;have:=HL.out;omega))
  go_enter Tryz.func117,Tryz.ntmps117
  go_wp2_with fail
  try go_ret2
  exact HNO.out _ _ HE.out (Below.refl _ _)
 have hbig2:¬(30:Int)<(len:Int):=by omega
 have HR0:=hid_intro (rows_nil w)
 have HB0:=hid_intro (al w (.map #[] 0))
 go_enter Tryz.func117,Tryz.ntmps117
 go_wp2_with fail
 go_loopw [21] (fun z wr=>∃k:Nat,k≤len∧z=.int .i64 k∧Hid (RowsM w.heap.size k (ds.take k) wr)∧Hid (SOk ds k)∧Hid (Below w.heap.size w wr)) (fun z _=>len-(intOf z).toNat)
 case atStart=>exact ⟨0,by omega,rfl,HR0,hid_intro (SOk.zero ds),HB0⟩
 case round =>
  clear HR0 HB0
  obtain ⟨k,hk,rfl,HR,HS,HB⟩:=hrel
  by_cases hlt:k<len
  ·have hlt2:(k:Int)<(len:Int):=by omega
   have hkl:k<ds.length:=by have:=HL.out;omega
   obtain ⟨b,off,la,lc,rfl,hbl,c0,c1,c2,c3,hLi⟩:=(HI.out.below HB.out).at k hkl
   have hmem:=getD_mem (z:=D.zero) ds k hkl
   have HG:Hid (Good (ds.getD k D.zero).a (ds.getD k D.zero).mo):=hid_intro ⟨(HSm.out _ hmem).1,HWf.out _ hmem⟩
   have HX:=hid_intro (HSm.out _ hmem)
   obtain ⟨Dm,f,h1,h2,h3,h4⟩:=HR.out
   have HST:=hid_intro (fun nb W W'=>rows_step (nb:=nb) (W:=W) (W':=W') (Dm:=Dm) (f:=f) (M:=k) (rb:=w.heap.size) hkl HG.out)
   have HKY:=hid_intro (keyP HG.out)
   have HO:=hid_intro h1
   have HLi:=hid_intro hLi
   have hrb:=h1.lt
   clear hLi hmem
   obtain ⟨X,hX⟩:∃X,X=ds.getD k D.zero:=⟨_,rfl⟩
   rw [←hX] at c0 c1 c2 c3 HG HX HKY HLi
   have HXX:=hid_intro hX
   clear hX
   obtain ⟨xa,xm,xs,xl⟩:=X
   dsimp only at c0 c1 c2 c3 HKY HG
   have H1:=hid_intro h1
   have H2:=hid_intro h2
   have H3:=hid_intro h3
   have H4:=hid_intro h4
   generalize hxl:xl.length=ll at *
   obtain ⟨c,hc0⟩:∃c:Int,c=((cnt (ds.take k) xa xm:Nat):Int):=⟨_,rfl⟩
   have HC0:=hid_intro hc0
   by_cases hc:cnt (ds.take k) xa xm=0
   ·have hhas:Maps.has Dm (kP xa xm)=false:=by
     cases hh:Maps.has Dm (kP xa xm)
     ·rfl
     ·obtain ⟨a,m,g,e,hn⟩:=h2 _ hh
      obtain ⟨rfl,rfl⟩:=kP_inj HG.out g e
      exact absurd hc hn
    obtain ⟨v,ps,hrun,hv⟩:=((h1.alloc (.cells #[.string xa,.int .i64 xm,.int .i64 xs,.slice la ll lc] 133)).alloc (.cells #[.string xa,.int .i64 xm] 70)).look_ok keyedP Tryz.underlying182 (zeroR _) (zd:=.held (.agg #[.int .i64 0,.map none])) (zp:=[]) rfl HKY.out
    obtain rfl:v=.agg #[.int .i64 c,.map none]:=by
     rw [Maps.atKey_of_not_has hhas] at hv
     simp [RV] at hv
     rw [hc0,hc]
     exact hv.1
    rw [hhas] at hrun
    clear hv h1 h2 h3 h4 hhas hc0
    go_wp2_with fail
    obtain ⟨W2,hW2⟩:∃W2,W2=(((wr.alloc (.cells #[.string xa,.int .i64 xm,.int .i64 xs,.slice la ll lc] 133)).alloc (.cells #[.string xa,.int .i64 xm] 70)).alloc (.cells #[.int .i64 c,.map (some (wr.heap.size+1+1+1))] 226)).alloc (.map #[] 0):=⟨_,rfl⟩
    obtain ⟨nb,hnb⟩:∃nb,nb=wr.heap.size+1+1+1:=⟨_,rfl⟩
    have HBW:Hid (Below wr.heap.size wr W2):=hid_intro (by rw [hW2];exact al4 _ _ _ _ _)
    have X1:Hid (BlkW wr.heap.size [.string xa,.int .i64 xm,.int .i64 xs,.slice la ll lc] W2):=hid_intro (by rw [hW2];exact (((BlkW.new wr [.string xa,.int .i64 xm,.int .i64 xs,.slice la ll lc] 133).below (al _ _)).below (al _ _)).below (al _ _))
    have X2:Hid (BlkW (wr.heap.size+1) [.string xa,.int .i64 xm] W2):=hid_intro (by rw [hW2];exact ((new_at (w:=wr.alloc (.cells #[.string xa,.int .i64 xm,.int .i64 xs,.slice la ll lc] 133)) (by simp) [.string xa,.int .i64 xm] 70).below (al _ _)).below (al _ _))
    have X3:Hid (BlkW (wr.heap.size+1+1) [.int .i64 c,.map (some nb)] W2):=hid_intro (by rw [hW2,hnb];exact (new_at (w:=(wr.alloc (.cells #[.string xa,.int .i64 xm,.int .i64 xs,.slice la ll lc] 133)).alloc (.cells #[.string xa,.int .i64 xm] 70)) (by simp) _ 226).below (al _ _))
    obtain ⟨Dn,M',hM',hNM,hNN⟩:∃Dn M',M'≤6*k∧W2.ownsMap Tryz.prog 9 (plainElem (H:=Value) Tryz.prog 2) nb M' Dn∧NetM Dn (net (ds.take k) xa xm):=⟨.map [],0,by omega,by rw [hW2,hnb];exact omade_at (by simp),by rw [net_zero hc];exact netM_nil⟩
    have HNM:=hid_intro hNM
    have HNN:=hid_intro hNN
    have HNB:Hid (w.heap.size<nb∧nb<W2.heap.size∧((cnt (ds.take k) xa xm≠0∧nb=f xa xm)∨(cnt (ds.take k) xa xm=0∧wr.heap.size≤nb))∧nb≠wr.heap.size∧nb≠(wr.heap.size+1)∧nb≠(wr.heap.size+1+1)):=hid_intro (by rw [hnb,hW2];refine ⟨?_,?_,.inr ⟨hc,?_⟩,?_,?_,?_⟩<;>(try simp)<;>(try omega))
    rw [←hW2]
    rw [←hnb]
    clear hW2 hnb hNM hNN hrun
    replace HO:=hid_intro (omap_below HO.out HBW.out)
    have HD:Hid (Calls Tryz.prog 157 #[.agg #[.string xa,.int .i64 xm,.int .i64 xs,.slice la ll lc]] W2 fun e w'=>e=.returned (.bool (dB ⟨xa,xm,xs,xl⟩))∧Below W2.heap.size W2 w'):=hid_intro (by
     have h:=impl_doc ⟨xa,xm,xs,xl⟩ la lc W2 HX.out (HLi.out.below HBW.out)
     simp only [dcells,hxl] at h
     exact h)
    have HDB:=hid_intro (fun h:dB ⟨xa,xm,xs,xl⟩=true=>dB_lines h)
    have HDN:Hid (dB ⟨xa,xm,xs,xl⟩=false∨xs≠c→lB ds=false):=hid_intro (fun h=>lB_no (fun hr=>by
     have h1:=hr.2.1 k hkl
     rw [←HXX.out] at h1
     rcases h with h|h
     ·rw [h] at h1;exact absurd h1.1 (by simp)
     ·exact h (h1.2.trans HC0.out.symm)))
    have HSO:Hid (dB ⟨xa,xm,xs,xl⟩=true→xs=c→SOk ds (k+1)):=hid_intro (fun h1 h2=>HS.out.more (by rw [←HXX.out];exact h1) (by rw [←HXX.out];exact h2.trans HC0.out))
    generalize dB ⟨xa,xm,xs,xl⟩=r at *
    have a2:W2.cell? ⟨wr.heap.size,2,none⟩=some (.int .i64 xs):=X1.out.1.2 2 (by simp)
    have a3:W2.cell? ⟨wr.heap.size,3,none⟩=some (.slice la ll lc):=X1.out.1.2 3 (by simp)
    have a1l:=X1.out.1.1
    have p0:W2.cell? ⟨(wr.heap.size+1),0,none⟩=some (.string xa):=X2.out.1.2 0 (by simp)
    have p1:W2.cell? ⟨(wr.heap.size+1),1,none⟩=some (.int .i64 xm):=X2.out.1.2 1 (by simp)
    have p2l:=X2.out.1.1
    have r0:W2.cell? ⟨(wr.heap.size+1+1),0,none⟩=some (.int .i64 c):=X3.out.1.2 0 (by simp)
    have r1:W2.cell? ⟨(wr.heap.size+1+1),1,none⟩=some (.map (some nb)):=X3.out.1.2 1 (by simp)
    have rf:W2.frozen? ⟨(wr.heap.size+1+1),0,none⟩=false:=X3.out.2 0 (by simp)
    have r3l:=X3.out.1.1
    refine HD.out.mono ?_
    rintro e w3 ⟨rfl,hb3⟩
    clear a2 a3 a1l p0 p1 p2l r0 r1 rf r3l
    have HB3:=hid_intro (HB.out.trans ((HBW.out.trans (hb3.mono HBW.out.size)).mono HB.out.size))
    have HBW3:=hid_intro (HBW.out.trans (hb3.mono HBW.out.size))
    have hsz3:=hb3.size
    replace X1:=hid_intro (X1.out.below hb3)
    replace X2:=hid_intro (X2.out.below hb3)
    replace X3:=hid_intro (X3.out.below hb3)
    replace HNM:=hid_intro (omap_below HNM.out hb3)
    replace HO:=hid_intro (omap_below HO.out hb3)
    clear hb3 HD HBW
    cases r
    ·have HE:=hid_intro (HDN.out (.inl rfl))
     have a2:w3.cell? ⟨wr.heap.size,2,none⟩=some (.int .i64 xs):=X1.out.1.2 2 (by simp)
     have a3:w3.cell? ⟨wr.heap.size,3,none⟩=some (.slice la ll lc):=X1.out.1.2 3 (by simp)
     have a1l:=X1.out.1.1
     have p0:w3.cell? ⟨(wr.heap.size+1),0,none⟩=some (.string xa):=X2.out.1.2 0 (by simp)
     have p1:w3.cell? ⟨(wr.heap.size+1),1,none⟩=some (.int .i64 xm):=X2.out.1.2 1 (by simp)
     have p2l:=X2.out.1.1
     have r0:w3.cell? ⟨(wr.heap.size+1+1),0,none⟩=some (.int .i64 c):=X3.out.1.2 0 (by simp)
     have r1:w3.cell? ⟨(wr.heap.size+1+1),1,none⟩=some (.map (some nb)):=X3.out.1.2 1 (by simp)
     have rf:w3.frozen? ⟨(wr.heap.size+1+1),0,none⟩=false:=X3.out.2 0 (by simp)
     have r3l:=X3.out.1.1
     go_wp2_with fail
     try go_ret2
     exact HNO.out _ _ HE.out HB3.out
    have HRG:=hid_intro (HDB.out rfl)
    by_cases hsq:xs=c
    ·have HSK:=hid_intro (HSO.out rfl hsq)
     subst hsq
     have hq:(xs != xs)=false:=by simp
     have h6:xl.length≤6:=HRG.out.1
     have HNF:=hid_intro (net_facts (ds:=ds) k (by omega) HS.out xa xm)
     have HBR:=hid_intro (bring_any la lc xl 1 nb M' Dn (net (ds.take k) xa xm) (6000000000000000*(k:Int)) w3 (.inl rfl) (by omega) HX.out.2.2 (right_bd HRG.out) HNM.out (by omega) HNN.out (by omega) HNF.out.2.2 (HLi.out.below HBW3.out))
     rw [hxl] at HBR
     have a2:w3.cell? ⟨wr.heap.size,2,none⟩=some (.int .i64 xs):=X1.out.1.2 2 (by simp)
     have a3:w3.cell? ⟨wr.heap.size,3,none⟩=some (.slice la ll lc):=X1.out.1.2 3 (by simp)
     have a1l:=X1.out.1.1
     have p0:w3.cell? ⟨(wr.heap.size+1),0,none⟩=some (.string xa):=X2.out.1.2 0 (by simp)
     have p1:w3.cell? ⟨(wr.heap.size+1),1,none⟩=some (.int .i64 xm):=X2.out.1.2 1 (by simp)
     have p2l:=X2.out.1.1
     have r0:w3.cell? ⟨(wr.heap.size+1+1),0,none⟩=some (.int .i64 xs):=X3.out.1.2 0 (by simp)
     have r1:w3.cell? ⟨(wr.heap.size+1+1),1,none⟩=some (.map (some nb)):=X3.out.1.2 1 (by simp)
     have rf:w3.frozen? ⟨(wr.heap.size+1+1),0,none⟩=false:=X3.out.2 0 (by simp)
     have r3l:=X3.out.1.1
     go_wp2_with fail
     refine HBR.out.mono ?_
     rintro e w4 ⟨rfl,⟨D4,hO4,hN4⟩,_,hg4⟩
     clear a2 a3 a1l p0 p1 p2l r0 r1 rf r3l
     have hn:=HNB.out
     have X1:=hid_intro (blkw_grown X1.out hg4 (by simp;omega))
     have X2:=hid_intro (blkw_grown X2.out hg4 (by simp;omega))
     have X3:=hid_intro (blkw_grown X3.out hg4 (by simp;omega))
     have HO4:=hid_intro (HO.out.kept hg4 (by simp;omega))
     have HN4:=hid_intro hO4
     have HM4:=hid_intro hN4
     have HB4:=hid_intro (HB3.out.grown hg4 HB3.out.size (fun k e=>by cases e;omega))
     have HG4:=hid_intro hg4
     have hsz4:=hg4.size
     have hcw:wrap64 (xs+1)=xs+1:=by have:=HC0.out;have:=cnt_le (ds.take k) xa xm;have h2:(ds.take k).length≤k:=List.length_take_le k ds;unfold wrap64;omega
     have HO5:=hid_intro (HO4.out.setCell (a:=⟨(wr.heap.size+1+1),0,none⟩) (show w.heap.size≠(wr.heap.size+1+1) by have:=HB.out.size;omega) (.int .i64 (xs+1)))
     have X25:=hid_intro (DocR.BlkW.other X2.out (wr.heap.size+1+1) 0 (.int .i64 (xs+1)) (by omega))
     have X35:=hid_intro (X3.out.set 0 (.int .i64 (xs+1)) (by simp))
     clear hO4 hN4 hg4 HBR
     have a2:w4.cell? ⟨wr.heap.size,2,none⟩=some (.int .i64 xs):=X1.out.1.2 2 (by simp)
     have a3:w4.cell? ⟨wr.heap.size,3,none⟩=some (.slice la ll lc):=X1.out.1.2 3 (by simp)
     have a1l:=X1.out.1.1
     have p0:w4.cell? ⟨(wr.heap.size+1),0,none⟩=some (.string xa):=X2.out.1.2 0 (by simp)
     have p1:w4.cell? ⟨(wr.heap.size+1),1,none⟩=some (.int .i64 xm):=X2.out.1.2 1 (by simp)
     have p2l:=X2.out.1.1
     have r0:w4.cell? ⟨(wr.heap.size+1+1),0,none⟩=some (.int .i64 xs):=X3.out.1.2 0 (by simp)
     have r1:w4.cell? ⟨(wr.heap.size+1+1),1,none⟩=some (.map (some nb)):=X3.out.1.2 1 (by simp)
     have rf:w4.frozen? ⟨(wr.heap.size+1+1),0,none⟩=false:=X3.out.2 0 (by simp)
     have r3l:=X3.out.1.1
     have q0:(w4.setCell ⟨(wr.heap.size+1+1),0,none⟩ (.int .i64 (xs+1))).cell? ⟨(wr.heap.size+1),0,none⟩=some (.string xa):=X25.out.1.2 0 (by simp)
     have q1:(w4.setCell ⟨(wr.heap.size+1+1),0,none⟩ (.int .i64 (xs+1))).cell? ⟨(wr.heap.size+1),1,none⟩=some (.int .i64 xm):=X25.out.1.2 1 (by simp)
     have t0:(w4.setCell ⟨(wr.heap.size+1+1),0,none⟩ (.int .i64 (xs+1))).cell? ⟨(wr.heap.size+1+1),0,none⟩=some (.int .i64 (xs+1)):=X35.out.1.2 0 (by simp)
     have t1:(w4.setCell ⟨(wr.heap.size+1+1),0,none⟩ (.int .i64 (xs+1))).cell? ⟨(wr.heap.size+1+1),1,none⟩=some (.map (some nb)):=X35.out.1.2 1 (by simp)
     go_wp2_with (at_mapUpdate;refine wpList_mapUpdate_own _ rfl _ _ _ 182 rfl 70 226 keyedP Tryz.underlying182 RV w.heap.size k Dm rfl HO5.out (by unfold maxLen;omega) _ _ _ rfl rfl HKY.out (.held (.agg #[.int .i64 (xs+1),.map (some nb)])) [] rfl ?_;intro w6 hown hgrow)
     have HRS:Hid (RowsM w.heap.size (k+1) (ds.take (k+1)) w6):=hid_intro (by
      have hz6:=hgrow.size
      have hz5:(w4.setCell ⟨(wr.heap.size+1+1),0,none⟩ (.int .i64 (xs+1))).heap.size=w4.heap.size:=by simp
      have hst:=HST.out nb wr w6
      rw [←HXX.out] at hst
      dsimp only at hst
      refine hst H1.out H2.out H3.out H4.out ⟨hn.1,by omega⟩ hn.2.2.1 (by rw [←HC0.out];exact hown) ⟨D4,M'+ll,by omega,?_,HM4.out⟩ (fun b0 hb0 n1 n2=>?_) (by have:=HBW3.out.size;omega)
      ·exact (HN4.out.setCell (a:=⟨(wr.heap.size+1+1),0,none⟩) (show nb≠(wr.heap.size+1+1) by omega) _).kept hgrow (by simp;omega)
      ·have e1:=hgrow.block b0 (by rw [hz5];have:=HBW3.out.size;omega) (by simpa using n1)
       have e2:(w4.setCell ⟨(wr.heap.size+1+1),0,none⟩ (.int .i64 (xs+1))).heap[b0]? = w4.heap[b0]?:=by
        simp only [World.setCell]
        rw [Array.getElem?_modify,if_neg (by omega)]
       have e3:=HG4.out.block b0 (by have:=HBW3.out.size;omega) (by simpa using n2)
       exact ((e1.trans e2).trans e3).trans (HBW3.out.block b0 hb0))
     have HB6:Hid (Below w.heap.size w w6):=hid_intro ((HB4.out.setCell (p:=⟨(wr.heap.size+1+1),0,none⟩) (show w.heap.size≤(wr.heap.size+1+1) by have:=HB.out.size;omega) _).grown hgrow (by have:=HB4.out.size;simpa using this) (fun k e=>by cases e;exact Nat.le_refl _))
     clear a2 a3 a1l p0 p1 p2l r0 r1 rf r3l
     clear hown hgrow q0 q1 t0 t1
     go_wp2_with fail
     go_roundw
     case rel=>exact ⟨k+1,by omega,by go_num,HRS,HSK,HB6⟩
     case measure=>simp [intOf];omega
    ·have hq:(xs != c)=true:=by simpa using hsq
     have HE:=hid_intro (HDN.out (.inr hsq))
     have a2:w3.cell? ⟨wr.heap.size,2,none⟩=some (.int .i64 xs):=X1.out.1.2 2 (by simp)
     have a3:w3.cell? ⟨wr.heap.size,3,none⟩=some (.slice la ll lc):=X1.out.1.2 3 (by simp)
     have a1l:=X1.out.1.1
     have p0:w3.cell? ⟨(wr.heap.size+1),0,none⟩=some (.string xa):=X2.out.1.2 0 (by simp)
     have p1:w3.cell? ⟨(wr.heap.size+1),1,none⟩=some (.int .i64 xm):=X2.out.1.2 1 (by simp)
     have p2l:=X2.out.1.1
     have r0:w3.cell? ⟨(wr.heap.size+1+1),0,none⟩=some (.int .i64 c):=X3.out.1.2 0 (by simp)
     have r1:w3.cell? ⟨(wr.heap.size+1+1),1,none⟩=some (.map (some nb)):=X3.out.1.2 1 (by simp)
     have rf:w3.frozen? ⟨(wr.heap.size+1+1),0,none⟩=false:=X3.out.2 0 (by simp)
     have r3l:=X3.out.1.1
     go_wp2_with fail
     try go_ret2
     exact HNO.out _ _ HE.out HB3.out
   ·have hatk:=(h3 xa xm hc).2.1
    have hhas:Maps.has Dm (kP xa xm)=true:=Maps.has_true_of_atKey hatk
    obtain ⟨v,ps,hrun,hv⟩:=((h1.alloc (.cells #[.string xa,.int .i64 xm,.int .i64 xs,.slice la ll lc] 133)).alloc (.cells #[.string xa,.int .i64 xm] 70)).look_ok keyedP Tryz.underlying182 (zeroR _) (zd:=.held (.agg #[.int .i64 0,.map none])) (zp:=[]) rfl HKY.out
    obtain rfl:v=.agg #[.int .i64 c,.map (some (f xa xm))]:=by
     rw [hatk,←hc0] at hv
     simp [RV] at hv
     exact hv.1
    rw [hhas] at hrun
    clear hv h1 h2 h3 h4 hhas hc0 hatk
    go_wp2_with fail
    obtain ⟨W2,hW2⟩:∃W2,W2=((wr.alloc (.cells #[.string xa,.int .i64 xm,.int .i64 xs,.slice la ll lc] 133)).alloc (.cells #[.string xa,.int .i64 xm] 70)).alloc (.cells #[.int .i64 c,.map (some (f xa xm))] 226):=⟨_,rfl⟩
    obtain ⟨nb,hnb⟩:∃nb,nb=f xa xm:=⟨_,rfl⟩
    have HBW:Hid (Below wr.heap.size wr W2):=hid_intro (by rw [hW2];exact al3 _ _ _ _)
    have X1:Hid (BlkW wr.heap.size [.string xa,.int .i64 xm,.int .i64 xs,.slice la ll lc] W2):=hid_intro (by rw [hW2];exact ((BlkW.new wr [.string xa,.int .i64 xm,.int .i64 xs,.slice la ll lc] 133).below (al _ _)).below (al _ _))
    have X2:Hid (BlkW (wr.heap.size+1) [.string xa,.int .i64 xm] W2):=hid_intro (by rw [hW2];exact (new_at (w:=wr.alloc (.cells #[.string xa,.int .i64 xm,.int .i64 xs,.slice la ll lc] 133)) (by simp) [.string xa,.int .i64 xm] 70).below (al _ _))
    have X3:Hid (BlkW (wr.heap.size+1+1) [.int .i64 c,.map (some nb)] W2):=hid_intro (by rw [hW2,hnb];exact new_at (w:=(wr.alloc (.cells #[.string xa,.int .i64 xm,.int .i64 xs,.slice la ll lc] 133)).alloc (.cells #[.string xa,.int .i64 xm] 70)) (by simp) _ 226)
    obtain ⟨Dn,M',hM',hNM,hNN⟩:∃Dn M',M'≤6*k∧W2.ownsMap Tryz.prog 9 (plainElem (H:=Value) Tryz.prog 2) nb M' Dn∧NetM Dn (net (ds.take k) xa xm):=by
     obtain ⟨_,_,_,q3,Dn,M',q4,q5,q6⟩:=H3.out xa xm hc
     refine ⟨Dn,M',?_,?_,q6⟩
     ·have h2:(ds.take k).length≤k:=List.length_take_le k ds
      omega
     ·rw [hnb];exact omap_below q5 HBW.out
    have HNM:=hid_intro hNM
    have HNN:=hid_intro hNN
    have HNB:Hid (w.heap.size<nb∧nb<W2.heap.size∧((cnt (ds.take k) xa xm≠0∧nb=f xa xm)∨(cnt (ds.take k) xa xm=0∧wr.heap.size≤nb))∧nb≠wr.heap.size∧nb≠(wr.heap.size+1)∧nb≠(wr.heap.size+1+1)):=hid_intro (by
     obtain ⟨_,_,q2,q3,_⟩:=H3.out xa xm hc
     have:=HBW.out.size
     rw [hnb]
     exact ⟨q2,by omega,.inl ⟨hc,rfl⟩,by omega,by omega,by omega⟩)
    rw [←hW2]
    rw [←hnb]
    clear hW2 hnb hNM hNN hrun
    replace HO:=hid_intro (omap_below HO.out HBW.out)
    have HD:Hid (Calls Tryz.prog 157 #[.agg #[.string xa,.int .i64 xm,.int .i64 xs,.slice la ll lc]] W2 fun e w'=>e=.returned (.bool (dB ⟨xa,xm,xs,xl⟩))∧Below W2.heap.size W2 w'):=hid_intro (by
     have h:=impl_doc ⟨xa,xm,xs,xl⟩ la lc W2 HX.out (HLi.out.below HBW.out)
     simp only [dcells,hxl] at h
     exact h)
    have HDB:=hid_intro (fun h:dB ⟨xa,xm,xs,xl⟩=true=>dB_lines h)
    have HDN:Hid (dB ⟨xa,xm,xs,xl⟩=false∨xs≠c→lB ds=false):=hid_intro (fun h=>lB_no (fun hr=>by
     have h1:=hr.2.1 k hkl
     rw [←HXX.out] at h1
     rcases h with h|h
     ·rw [h] at h1;exact absurd h1.1 (by simp)
     ·exact h (h1.2.trans HC0.out.symm)))
    have HSO:Hid (dB ⟨xa,xm,xs,xl⟩=true→xs=c→SOk ds (k+1)):=hid_intro (fun h1 h2=>HS.out.more (by rw [←HXX.out];exact h1) (by rw [←HXX.out];exact h2.trans HC0.out))
    generalize dB ⟨xa,xm,xs,xl⟩=r at *
    have a2:W2.cell? ⟨wr.heap.size,2,none⟩=some (.int .i64 xs):=X1.out.1.2 2 (by simp)
    have a3:W2.cell? ⟨wr.heap.size,3,none⟩=some (.slice la ll lc):=X1.out.1.2 3 (by simp)
    have a1l:=X1.out.1.1
    have p0:W2.cell? ⟨(wr.heap.size+1),0,none⟩=some (.string xa):=X2.out.1.2 0 (by simp)
    have p1:W2.cell? ⟨(wr.heap.size+1),1,none⟩=some (.int .i64 xm):=X2.out.1.2 1 (by simp)
    have p2l:=X2.out.1.1
    have r0:W2.cell? ⟨(wr.heap.size+1+1),0,none⟩=some (.int .i64 c):=X3.out.1.2 0 (by simp)
    have r1:W2.cell? ⟨(wr.heap.size+1+1),1,none⟩=some (.map (some nb)):=X3.out.1.2 1 (by simp)
    have rf:W2.frozen? ⟨(wr.heap.size+1+1),0,none⟩=false:=X3.out.2 0 (by simp)
    have r3l:=X3.out.1.1
    refine HD.out.mono ?_
    rintro e w3 ⟨rfl,hb3⟩
    clear a2 a3 a1l p0 p1 p2l r0 r1 rf r3l
    have HB3:=hid_intro (HB.out.trans ((HBW.out.trans (hb3.mono HBW.out.size)).mono HB.out.size))
    have HBW3:=hid_intro (HBW.out.trans (hb3.mono HBW.out.size))
    have hsz3:=hb3.size
    replace X1:=hid_intro (X1.out.below hb3)
    replace X2:=hid_intro (X2.out.below hb3)
    replace X3:=hid_intro (X3.out.below hb3)
    replace HNM:=hid_intro (omap_below HNM.out hb3)
    replace HO:=hid_intro (omap_below HO.out hb3)
    clear hb3 HD HBW
    cases r
    ·have HE:=hid_intro (HDN.out (.inl rfl))
     have a2:w3.cell? ⟨wr.heap.size,2,none⟩=some (.int .i64 xs):=X1.out.1.2 2 (by simp)
     have a3:w3.cell? ⟨wr.heap.size,3,none⟩=some (.slice la ll lc):=X1.out.1.2 3 (by simp)
     have a1l:=X1.out.1.1
     have p0:w3.cell? ⟨(wr.heap.size+1),0,none⟩=some (.string xa):=X2.out.1.2 0 (by simp)
     have p1:w3.cell? ⟨(wr.heap.size+1),1,none⟩=some (.int .i64 xm):=X2.out.1.2 1 (by simp)
     have p2l:=X2.out.1.1
     have r0:w3.cell? ⟨(wr.heap.size+1+1),0,none⟩=some (.int .i64 c):=X3.out.1.2 0 (by simp)
     have r1:w3.cell? ⟨(wr.heap.size+1+1),1,none⟩=some (.map (some nb)):=X3.out.1.2 1 (by simp)
     have rf:w3.frozen? ⟨(wr.heap.size+1+1),0,none⟩=false:=X3.out.2 0 (by simp)
     have r3l:=X3.out.1.1
     go_wp2_with fail
     try go_ret2
     exact HNO.out _ _ HE.out HB3.out
    have HRG:=hid_intro (HDB.out rfl)
    by_cases hsq:xs=c
    ·have HSK:=hid_intro (HSO.out rfl hsq)
     subst hsq
     have hq:(xs != xs)=false:=by simp
     have h6:xl.length≤6:=HRG.out.1
     have HNF:=hid_intro (net_facts (ds:=ds) k (by omega) HS.out xa xm)
     have HBR:=hid_intro (bring_any la lc xl 1 nb M' Dn (net (ds.take k) xa xm) (6000000000000000*(k:Int)) w3 (.inl rfl) (by omega) HX.out.2.2 (right_bd HRG.out) HNM.out (by omega) HNN.out (by omega) HNF.out.2.2 (HLi.out.below HBW3.out))
     rw [hxl] at HBR
     have a2:w3.cell? ⟨wr.heap.size,2,none⟩=some (.int .i64 xs):=X1.out.1.2 2 (by simp)
     have a3:w3.cell? ⟨wr.heap.size,3,none⟩=some (.slice la ll lc):=X1.out.1.2 3 (by simp)
     have a1l:=X1.out.1.1
     have p0:w3.cell? ⟨(wr.heap.size+1),0,none⟩=some (.string xa):=X2.out.1.2 0 (by simp)
     have p1:w3.cell? ⟨(wr.heap.size+1),1,none⟩=some (.int .i64 xm):=X2.out.1.2 1 (by simp)
     have p2l:=X2.out.1.1
     have r0:w3.cell? ⟨(wr.heap.size+1+1),0,none⟩=some (.int .i64 xs):=X3.out.1.2 0 (by simp)
     have r1:w3.cell? ⟨(wr.heap.size+1+1),1,none⟩=some (.map (some nb)):=X3.out.1.2 1 (by simp)
     have rf:w3.frozen? ⟨(wr.heap.size+1+1),0,none⟩=false:=X3.out.2 0 (by simp)
     have r3l:=X3.out.1.1
     go_wp2_with fail
     refine HBR.out.mono ?_
     rintro e w4 ⟨rfl,⟨D4,hO4,hN4⟩,_,hg4⟩
     clear a2 a3 a1l p0 p1 p2l r0 r1 rf r3l
     have hn:=HNB.out
     have X1:=hid_intro (blkw_grown X1.out hg4 (by simp;omega))
     have X2:=hid_intro (blkw_grown X2.out hg4 (by simp;omega))
     have X3:=hid_intro (blkw_grown X3.out hg4 (by simp;omega))
     have HO4:=hid_intro (HO.out.kept hg4 (by simp;omega))
     have HN4:=hid_intro hO4
     have HM4:=hid_intro hN4
     have HB4:=hid_intro (HB3.out.grown hg4 HB3.out.size (fun k e=>by cases e;omega))
     have HG4:=hid_intro hg4
     have hsz4:=hg4.size
     have hcw:wrap64 (xs+1)=xs+1:=by have:=HC0.out;have:=cnt_le (ds.take k) xa xm;have h2:(ds.take k).length≤k:=List.length_take_le k ds;unfold wrap64;omega
     have HO5:=hid_intro (HO4.out.setCell (a:=⟨(wr.heap.size+1+1),0,none⟩) (show w.heap.size≠(wr.heap.size+1+1) by have:=HB.out.size;omega) (.int .i64 (xs+1)))
     have X25:=hid_intro (DocR.BlkW.other X2.out (wr.heap.size+1+1) 0 (.int .i64 (xs+1)) (by omega))
     have X35:=hid_intro (X3.out.set 0 (.int .i64 (xs+1)) (by simp))
     clear hO4 hN4 hg4 HBR
     have a2:w4.cell? ⟨wr.heap.size,2,none⟩=some (.int .i64 xs):=X1.out.1.2 2 (by simp)
     have a3:w4.cell? ⟨wr.heap.size,3,none⟩=some (.slice la ll lc):=X1.out.1.2 3 (by simp)
     have a1l:=X1.out.1.1
     have p0:w4.cell? ⟨(wr.heap.size+1),0,none⟩=some (.string xa):=X2.out.1.2 0 (by simp)
     have p1:w4.cell? ⟨(wr.heap.size+1),1,none⟩=some (.int .i64 xm):=X2.out.1.2 1 (by simp)
     have p2l:=X2.out.1.1
     have r0:w4.cell? ⟨(wr.heap.size+1+1),0,none⟩=some (.int .i64 xs):=X3.out.1.2 0 (by simp)
     have r1:w4.cell? ⟨(wr.heap.size+1+1),1,none⟩=some (.map (some nb)):=X3.out.1.2 1 (by simp)
     have rf:w4.frozen? ⟨(wr.heap.size+1+1),0,none⟩=false:=X3.out.2 0 (by simp)
     have r3l:=X3.out.1.1
     have q0:(w4.setCell ⟨(wr.heap.size+1+1),0,none⟩ (.int .i64 (xs+1))).cell? ⟨(wr.heap.size+1),0,none⟩=some (.string xa):=X25.out.1.2 0 (by simp)
     have q1:(w4.setCell ⟨(wr.heap.size+1+1),0,none⟩ (.int .i64 (xs+1))).cell? ⟨(wr.heap.size+1),1,none⟩=some (.int .i64 xm):=X25.out.1.2 1 (by simp)
     have t0:(w4.setCell ⟨(wr.heap.size+1+1),0,none⟩ (.int .i64 (xs+1))).cell? ⟨(wr.heap.size+1+1),0,none⟩=some (.int .i64 (xs+1)):=X35.out.1.2 0 (by simp)
     have t1:(w4.setCell ⟨(wr.heap.size+1+1),0,none⟩ (.int .i64 (xs+1))).cell? ⟨(wr.heap.size+1+1),1,none⟩=some (.map (some nb)):=X35.out.1.2 1 (by simp)
     go_wp2_with (at_mapUpdate;refine wpList_mapUpdate_own _ rfl _ _ _ 182 rfl 70 226 keyedP Tryz.underlying182 RV w.heap.size k Dm rfl HO5.out (by unfold maxLen;omega) _ _ _ rfl rfl HKY.out (.held (.agg #[.int .i64 (xs+1),.map (some nb)])) [] rfl ?_;intro w6 hown hgrow)
     have HRS:Hid (RowsM w.heap.size (k+1) (ds.take (k+1)) w6):=hid_intro (by
      have hz6:=hgrow.size
      have hz5:(w4.setCell ⟨(wr.heap.size+1+1),0,none⟩ (.int .i64 (xs+1))).heap.size=w4.heap.size:=by simp
      have hst:=HST.out nb wr w6
      rw [←HXX.out] at hst
      dsimp only at hst
      refine hst H1.out H2.out H3.out H4.out ⟨hn.1,by omega⟩ hn.2.2.1 (by rw [←HC0.out];exact hown) ⟨D4,M'+ll,by omega,?_,HM4.out⟩ (fun b0 hb0 n1 n2=>?_) (by have:=HBW3.out.size;omega)
      ·exact (HN4.out.setCell (a:=⟨(wr.heap.size+1+1),0,none⟩) (show nb≠(wr.heap.size+1+1) by omega) _).kept hgrow (by simp;omega)
      ·have e1:=hgrow.block b0 (by rw [hz5];have:=HBW3.out.size;omega) (by simpa using n1)
       have e2:(w4.setCell ⟨(wr.heap.size+1+1),0,none⟩ (.int .i64 (xs+1))).heap[b0]? = w4.heap[b0]?:=by
        simp only [World.setCell]
        rw [Array.getElem?_modify,if_neg (by omega)]
       have e3:=HG4.out.block b0 (by have:=HBW3.out.size;omega) (by simpa using n2)
       exact ((e1.trans e2).trans e3).trans (HBW3.out.block b0 hb0))
     have HB6:Hid (Below w.heap.size w w6):=hid_intro ((HB4.out.setCell (p:=⟨(wr.heap.size+1+1),0,none⟩) (show w.heap.size≤(wr.heap.size+1+1) by have:=HB.out.size;omega) _).grown hgrow (by have:=HB4.out.size;simpa using this) (fun k e=>by cases e;exact Nat.le_refl _))
     clear a2 a3 a1l p0 p1 p2l r0 r1 rf r3l
     clear hown hgrow q0 q1 t0 t1
     go_wp2_with fail
     go_roundw
     case rel=>exact ⟨k+1,by omega,by go_num,HRS,HSK,HB6⟩
     case measure=>simp [intOf];omega
    ·have hq:(xs != c)=true:=by simpa using hsq
     have HE:=hid_intro (HDN.out (.inr hsq))
     have a2:w3.cell? ⟨wr.heap.size,2,none⟩=some (.int .i64 xs):=X1.out.1.2 2 (by simp)
     have a3:w3.cell? ⟨wr.heap.size,3,none⟩=some (.slice la ll lc):=X1.out.1.2 3 (by simp)
     have a1l:=X1.out.1.1
     have p0:w3.cell? ⟨(wr.heap.size+1),0,none⟩=some (.string xa):=X2.out.1.2 0 (by simp)
     have p1:w3.cell? ⟨(wr.heap.size+1),1,none⟩=some (.int .i64 xm):=X2.out.1.2 1 (by simp)
     have p2l:=X2.out.1.1
     have r0:w3.cell? ⟨(wr.heap.size+1+1),0,none⟩=some (.int .i64 c):=X3.out.1.2 0 (by simp)
     have r1:w3.cell? ⟨(wr.heap.size+1+1),1,none⟩=some (.map (some nb)):=X3.out.1.2 1 (by simp)
     have rf:w3.frozen? ⟨(wr.heap.size+1+1),0,none⟩=false:=X3.out.2 0 (by simp)
     have r3l:=X3.out.1.1
     go_wp2_with fail
     try go_ret2
     exact HNO.out _ _ HE.out HB3.out
  ·have hlt2:¬(k:Int)<(len:Int):=by omega
   obtain rfl:k=len:=by omega
   have HT:Hid (ds.take k=ds):=hid_intro (List.take_of_length_le (by have:=HL.out;omega))
   rw [HT.out] at HR
   obtain ⟨Wo,hWo⟩:∃Wo,Wo=wr:=⟨_,rfl⟩
   subst hWo
   have HRK:=HR
   obtain ⟨Dm,f,h1,h2,h3,h4⟩:=HR.out
   have HO:=hid_intro h1
   have H2:=hid_intro h2
   have H3:=hid_intro h3
   have hrb:=h1.lt
   clear h1 h2 h3 h4 HR
   have HNK:Hid (∀a m,cnt ds a m≠0→ovB (net ds a m)=false→lB ds=false):=hid_intro (fun a m hc h=>lB_no (fun hr=>by
    obtain ⟨i,hi,rfl,rfl⟩:=mem_cnt hc
    have:=hr.2.2 i hi
    rw [h] at this
    cases this))
   have HYK:Hid ((∀a m,cnt ds a m≠0→ovB (net ds a m)=true)→lB ds=true):=hid_intro (fun h=>lB_yes ⟨by have:=HL.out;omega,by have:=HS.out;rw [HL.out] at this;exact this,fun i hi=>h _ _ (cnt_mem hi)⟩)
   go_wp2_with (at_range;refine wpList_range_own _ rfl _ 182 rfl 70 226 keyedP Tryz.underlying182 _ w.heap.size k Dm rfl HO.out ?_;intro w0 hrg0 hg0 hs0)
   have HB0:Hid (Below Wo.heap.size Wo w0):=hid_intro ((Below.refl _ _).grown hg0 (Nat.le_refl _) (fun k e=>by cases e))
   clear hg0 hs0
   try go_frame
   go_loopw [2] (fun v2 wr=>∃(left:Lit→Bool) (cn:Nat),wr.ranges Tryz.prog 70 RV w.heap.size Wo.heap.size k Dm left cn∧Hid (∀a m,cnt ds a m≠0→left (kP a m)=false→ovB (net ds a m)=true)∧Hid (Below Wo.heap.size Wo wr)) (fun _ wr=>wr.rangeLeft w.heap.size Wo.heap.size)
   case atStart=>exact ⟨_,_,hrg0,hid_intro (fun a m hc h=>by rw [Maps.has_true_of_atKey (H3.out a m hc).2.1] at h;cases h),HB0⟩
   case round =>
    obtain ⟨left,cn,hrg,HLf,HBo⟩:=hrel
    have HRG:=hid_intro hrg
    have hmeas:=hrg.left_eq
    clear hrg hrg0 HB0
    have HBa:=hid_intro (HB.out.trans (HBo.out.mono HB.out.size))
    go_wp2_with (at_next;refine wpList_next_ranges _ rfl _ rfl 70 keyedP _ (fun v:Value=>v) (fun v:Value=>v) (fun key kl h=>⟨key,rfl⟩) (fun v y h=>⟨v,rfl⟩) w.heap.size Wo.heap.size k Dm left cn rfl HRG.out ?_ ?_)
    ·intro hc0 hl0
     have HE:=hid_intro (HYK.out (fun a m hc=>HLf.out a m hc (hl0 _)))
     have HRW:=hid_intro (HRK.out.kept HBo.out)
     clear hl0
     go_wp2_with fail
     try go_ret2
     exact HYES.out k _ HE.out HBa.out HRW.out
    ·intro x c kl yd yp w' cnt' hkey hlk hv hat hrg' hlt3 hgr hsz hen
     simp only [RV,Option.some.injEq,Prod.mk.injEq] at hv
     obtain ⟨rfl,_⟩:=hv
     obtain ⟨a,m,hgd,rfl,hcn⟩:=H2.out kl (Maps.has_true_of_atKey hat)
     obtain ⟨_,q1,q2,q3,Dn,M',q4,q5,q6⟩:=H3.out a m hcn
     obtain rfl:c=.agg #[.int .i64 (cnt ds a m:Nat),.map (some (f a m))]:=by
      have h:=(hat (.held undef)).symm.trans (q1 _)
      simpa using h
     have HB1:=hid_intro (HBo.out.grown hgr HBo.out.size (fun k e=>by cases e;exact Nat.le_refl _))
     have HBb:=hid_intro (HB.out.trans (HB1.out.mono HB.out.size))
     have HRG1:=hid_intro hrg'
     have hms:=hrg'.left_eq
     have HOV:=hid_intro (fun o=>over_any (f a m) M' Dn (net ds a m) (w'.alloc o) ((omap_below q5 HB1.out).alloc o) q6)
     have HNO2:Hid (ovB (net ds a m)=false→lB ds=false):=hid_intro (HNK.out a m hcn)
     have HL2:Hid (ovB (net ds a m)=true→∀a' m',cnt ds a' m'≠0→(left (kP a' m') && !(kP a' m').sameKey (kP a m))=false→ovB (net ds a' m')=true):=hid_intro (fun h a' m' hc' h2=>by
      cases h3:left (kP a' m')
      ·exact HLf.out a' m' hc' h3
      ·rw [h3] at h2
       simp only [Bool.true_and,Bool.not_eq_false'] at h2
       obtain ⟨rfl,rfl⟩:=kP_inj (H3.out a' m' hc').1 hgd (WideAt.sameKey_eq h2)
       exact h)
     clear hkey hlk hat hrg' hgr q1 q2 q3 q4 q5 q6 HRG HLf HBo HBa
     generalize ovB (net ds a m)=r at *
     generalize ((cnt ds a m:Nat):Int)=cc at *
     generalize f a m=nb at *
     cases r
     ·have HE:=hid_intro (HNO2.out rfl)
      go_wp2_with fail
      refine (HOV.out _).mono ?_
      rintro e w5 ⟨rfl,hb5⟩
      have HB5:=hid_intro (HBb.out.trans (((al w' _).trans (hb5.mono (by simp))).mono HBb.out.size))
      clear hb5
      simp only [ovE,Bool.false_eq_true,if_false]
      go_wp2_with fail
      try go_ret2
      exact HNO.out _ _ HE.out HB5.out
     ·have HE:=hid_intro (HL2.out rfl)
      have HRA:=hid_intro (fun o=>HRG1.out.alloc o)
      go_wp2_with fail
      refine (HOV.out _).mono ?_
      rintro e w5 ⟨rfl,hb5⟩
      have HB5:=hid_intro (HB1.out.trans (((al w' _).trans (hb5.mono (by simp))).mono HB1.out.size))
      have HR5:=hid_intro ((HRA.out _).kept (row:=none) ⟨hb5.os,hb5.tape,hb5.output,hb5.size,fun k hk _=>hb5.block k hk⟩ (by simp) (by simp))
      have hm5:=HR5.out.left_eq
      clear hb5 hms
      simp only [ovE,if_true]
      go_wp2_with fail
      go_roundw
      case rel=>exact ⟨_,_,HR5.out,HE,HB5⟩
      case measure=>rw [hm5,hmeas];exact hlt3
end LedR
end Go.Proofs.YtmalfhhkjdkadaaGreatDoor
