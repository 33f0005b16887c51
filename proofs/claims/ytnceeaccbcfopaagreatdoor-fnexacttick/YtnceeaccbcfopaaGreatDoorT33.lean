/-
  LedgerRight on both sides.
  The conditions stand in what each theorem says.
-/
import Derived.Deep.RegionHeld3
import Derived.Test.YtnceeaccbcfopaaGreatDoorT32
set_option maxRecDepth 100000
set_option maxHeartbeats 16000000
namespace Go.Proofs.YtnceeaccbcfopaaGreatDoor
open Go.ChangeShapes Go.WideShapes Go.ChangeAt Go.RowKit
set_option linter.unusedVariables false
namespace LedR
open LinR RowG LtR NetR DocR
def QB (w:World) (b o:Nat) (xa:ByteArray) (xm xs:Int) (la:Option Addr) (ll lc:Nat) (W:World):Prop:=Below w.heap.size w W∧b<W.heap.size∧W.cell? ⟨b,o,none⟩=some (.string xa)∧W.cell? ⟨b,o+1,none⟩=some (.int .i64 xm)∧W.cell? ⟨b,o+2,none⟩=some (.int .i64 xs)∧W.cell? ⟨b,o+3,none⟩=some (.slice la ll lc)
theorem QB.below {w:World} {b o:Nat} {xa:ByteArray} {xm xs:Int} {la:Option Addr} {ll lc:Nat} {W W':World} (h:QB w b o xa xm xs la ll lc W) (hb:Below W.heap.size W W'):QB w b o xa xm xs la ll lc W':=by
 obtain ⟨h0,hl,p0,p1,p2,p3⟩:=h
 have f:=fun x=>hb.cell (p:=⟨b,x,none⟩) hl
 exact ⟨h0.trans (hb.mono h0.size),by have:=hb.size;omega,(f _).trans p0,(f _).trans p1,(f _).trans p2,(f _).trans p3⟩
theorem spec_ledger (ao:Option Addr) (cap:Nat) (ds:List D) (w:World) (hlen:ds.length≤1048576) (hSm:∀d∈ds,d.Sm) (hI:Dcs ao ds w) :
 Calls Tryz.prog 53 #[.slice ao ds.length cap] w fun e w'=>e=.returned (.bool (lB ds))∧Below w.heap.size w w':=by
 have HI:=H_ hI
 have HSm:=H_ hSm
 obtain ⟨len,hl⟩:∃len,len=ds.length:=⟨_,rfl⟩
 obtain ⟨R,hR⟩:∃R,lB ds=R:=⟨_,rfl⟩
 rw [hR,←hl]
 rw [←hl] at hlen
 have HR:=H_ hR
 have HL:=H_ hl
 clear hI hSm hl hR
 by_cases hbig:30<len
 ·have hbig2:(30:Int)<(len:Int):=by omega
  have HE:Hid (R=false):=H_ (by rw [←HR.out];exact lB_no (fun h=>by have:=h.1;have:=HL.out;omega))
  go_enter Tryz.func53,Tryz.ntmps53
  go_wp2_with fail
  go_ret
  exact ⟨by rw [HE.out];rfl,Below.refl _ _⟩
 have hbig2:¬(30:Int)<(len:Int):=by omega
 go_enter Tryz.func53,Tryz.ntmps53
 go_wp2_with fail
 go_loopw [3] (fun z wr=>∃k:Nat,k≤len∧z=.int .i64 k∧Hid (SOk ds k)∧Hid (Below w.heap.size w wr)) (fun z _=>len-(intOf z).toNat)
 case atStart=>exact ⟨0,by omega,rfl,H_ (SOk.zero ds),H_ (Below.refl _ _)⟩
 case round =>
  obtain ⟨k,hk,rfl,HS,HB⟩:=hrel
  by_cases hlt:k<len
  ·have hlt2:(k:Int)<(len:Int):=by omega
   have hkl:k<ds.length:=by have:=HL.out;omega
   obtain ⟨b,off,la,lc,rfl,hbl,c0,c1,c2,c3,hLi⟩:=(HI.out.below HB.out).at k hkl
   have hmem:=getD_mem (z:=D.zero) ds k hkl
   have HX:=H_ (HSm.out _ hmem)
   have HLi:=H_ hLi
   obtain ⟨X,hX⟩:∃X,X=ds.getD k D.zero:=⟨_,rfl⟩
   rw [←hX] at c0 c1 c2 c3 HX HLi
   have HXX:=H_ hX
   clear hX hLi hmem
   obtain ⟨xa,xm,xs,xl⟩:=X
   dsimp only at c0 c1 c2 c3
   have HC:Hid (∀W,Below w.heap.size w W→Calls Tryz.prog 107 #[.slice (some ⟨b,off,none⟩) len cap,.int .i64 k,.string xa,.int .i64 xm] W fun e w'=>e=.returned (.int .i64 (cnt (ds.take k) xa xm:Nat))∧Below W.heap.size W w'):=H_ (fun W hW=>by have h:=scount (some ⟨b,off,none⟩) cap ds k xa xm W (by omega) (by have:=HL.out;omega) (HI.out.below hW);rw [←HL.out] at h;exact h)
   generalize hxl:xl.length=ll at *
   have HD:Hid (Calls Tryz.prog 106 #[.agg #[.string xa,.int .i64 xm,.int .i64 xs,.slice la ll lc]] wr.drew fun e w'=>e=.returned (.bool (dB ⟨xa,xm,xs,xl⟩))∧Below wr.drew.heap.size wr.drew w'):=H_ (by
    have h:=spec_doc ⟨xa,xm,xs,xl⟩ la lc wr.drew HX.out (HLi.out.below (Below.refl _ _).drew)
    simp only [dcells,hxl] at h
    exact h)
   have HDN:Hid (dB ⟨xa,xm,xs,xl⟩=false∨xs≠((cnt (ds.take k) xa xm:Nat):Int)→R=false):=H_ (fun h=>by rw [←HR.out];exact lB_no (fun hr=>by
    have h1:=hr.2.1 k hkl
    rw [←HXX.out] at h1
    rcases h with h|h
    ·rw [h] at h1;exact absurd h1.1 (by simp)
    ·exact h h1.2))
   have HSO:Hid (dB ⟨xa,xm,xs,xl⟩=true→xs=((cnt (ds.take k) xa xm:Nat):Int)→SOk ds (k+1)):=H_ (fun h1 h2=>HS.out.more (by rw [←HXX.out];exact h1) (by rw [←HXX.out];exact h2))
   have HS0:Hid (QB w b (off+k*4) xa xm xs la ll lc wr.drew):=H_ ⟨HB.out.drew,hbl,c0,c1,c2,c3⟩
   generalize dB ⟨xa,xm,xs,xl⟩=r at *
   generalize ((cnt (ds.take k) xa xm:Nat):Int)=cc at *
   clear c0 c1 c2 c3 HX HLi
   cases r
   ·have HE:=H_ (HDN.out (.inl rfl))
    go_wp2_with fail
    refine wp_region_held_drew (S:=(fun W=>Below w.heap.size w W∧b<W.heap.size∧W.cell? ⟨b,off+k*4,none⟩=some (.string xa)∧W.cell? ⟨b,off+k*4+1,none⟩=some (.int .i64 xm)∧W.cell? ⟨b,off+k*4+2,none⟩=some (.int .i64 xs)∧W.cell? ⟨b,off+k*4+3,none⟩=some (.slice la ll lc))) (by kernel_rfl) HS0.out (fun hHeld=>?_)
    refine tk 0 ?_
    refine tk 1 ?_
    refine tk 2 ?_
    refine tk 3 ?_
    refine rd 4 (fun K hK=>?_)
    go_simp
    go_at_call 106
    refine HD.out.mono ?_
    rintro e q1 ⟨rfl,hq1⟩
    try go_wp2_with fail
    have hk1:=@QB.below w b (off+k*4) xa xm xs la ll lc _ _ HS0.out hq1
    refine hK.out _ _ hk1 (fun _=>?_)
    clear hK K
    try simp only [Act.put,SL]
    refine tk 5 ?_
    refine tk 6 ?_
    refine tu 7 ?_
    refine tu 8 ?_
    refine tu 9 ?_
    refine tu 10 ?_
    refine tu 11 ?_
    refine tu 12 ?_
    refine tu 13 ?_
    refine tu 14 ?_
    refine tu 15 ?_
    refine tu 16 ?_
    refine tu 17 ?_
    refine tu 18 ?_
    refine tu 19 ?_
    refine tu 20 ?_
    refine tu 21 ?_
    refine tu 22 ?_
    refine tu 23 ?_
    refine tu 24 ?_
    refine tu 25 ?_
    refine tk 26 ?_
    refine wpAnyH_done (by kernel_rfl) ?_ _
    have HBQ:=H_ hk1.1
    clear hk1
    go_wp2_with fail
    go_ret
    exact ⟨by rw [HE.out];rfl,HBQ.out⟩
   by_cases hsq:xs=cc
   ·have HE:=H_ (HSO.out rfl hsq)
    have hq:(xs != cc)=false:=by simpa using hsq
    clear hsq HDN HSO
    go_wp2_with fail
    refine wp_region_held_drew (S:=(fun W=>Below w.heap.size w W∧b<W.heap.size∧W.cell? ⟨b,off+k*4,none⟩=some (.string xa)∧W.cell? ⟨b,off+k*4+1,none⟩=some (.int .i64 xm)∧W.cell? ⟨b,off+k*4+2,none⟩=some (.int .i64 xs)∧W.cell? ⟨b,off+k*4+3,none⟩=some (.slice la ll lc))) (by kernel_rfl) HS0.out (fun hHeld=>?_)
    refine tk 0 ?_
    refine tk 1 ?_
    refine tk 2 ?_
    refine tk 3 ?_
    refine rd 4 (fun K hK=>?_)
    go_simp
    go_at_call 106
    refine HD.out.mono ?_
    rintro e q1 ⟨rfl,hq1⟩
    try go_wp2_with fail
    have hk1:=@QB.below w b (off+k*4) xa xm xs la ll lc _ _ HS0.out hq1
    refine hK.out _ _ hk1 (fun _=>?_)
    clear hK K
    try simp only [Act.put,SL]
    refine tk 5 ?_
    refine tk 6 ?_
    refine tk 7 ?_
    refine tk 8 ?_
    refine tk 9 ?_
    refine tk 10 ?_
    refine tk 11 ?_
    refine tk 12 ?_
    refine tk 13 ?_
    refine tk 14 ?_
    refine tk 15 ?_
    refine tk 16 ?_
    refine tk 17 ?_
    refine tk 18 ?_
    refine tk 19 ?_
    refine tk 20 ?_
    refine tk 21 ?_
    refine tk 22 ?_
    refine tk 23 ?_
    refine rd 24 (fun K hK=>?_)
    go_simp
    go_at_call 107
    refine (HC.out _ hk1.1).mono ?_
    rintro e q2 ⟨rfl,hq2⟩
    try go_wp2_with fail
    have hk2:=@QB.below w b (off+k*4) xa xm xs la ll lc _ _ hk1 hq2
    refine hK.out _ _ hk2 (fun _=>?_)
    clear hK K
    try simp only [Act.put,SL]
    refine tk 25 ?_
    refine tk 26 ?_
    refine wpAnyH_done (by kernel_rfl) ?_ _
    have HBQ:=H_ hk2.1
    clear hk1 hk2
    go_wp2_with fail
    go_roundw
    case rel=>exact ⟨k+1,by omega,by go_num,HE,HBQ⟩
    case measure=>simp [intOf];omega
   ·have HE:=H_ (HDN.out (.inr hsq))
    have hq:(xs != cc)=true:=by simpa using hsq
    clear hsq HDN HSO
    go_wp2_with fail
    refine wp_region_held_drew (S:=(fun W=>Below w.heap.size w W∧b<W.heap.size∧W.cell? ⟨b,off+k*4,none⟩=some (.string xa)∧W.cell? ⟨b,off+k*4+1,none⟩=some (.int .i64 xm)∧W.cell? ⟨b,off+k*4+2,none⟩=some (.int .i64 xs)∧W.cell? ⟨b,off+k*4+3,none⟩=some (.slice la ll lc))) (by kernel_rfl) HS0.out (fun hHeld=>?_)
    refine tk 0 ?_
    refine tk 1 ?_
    refine tk 2 ?_
    refine tk 3 ?_
    refine rd 4 (fun K hK=>?_)
    go_simp
    go_at_call 106
    refine HD.out.mono ?_
    rintro e q1 ⟨rfl,hq1⟩
    try go_wp2_with fail
    have hk1:=@QB.below w b (off+k*4) xa xm xs la ll lc _ _ HS0.out hq1
    refine hK.out _ _ hk1 (fun _=>?_)
    clear hK K
    try simp only [Act.put,SL]
    refine tk 5 ?_
    refine tk 6 ?_
    refine tk 7 ?_
    refine tk 8 ?_
    refine tk 9 ?_
    refine tk 10 ?_
    refine tk 11 ?_
    refine tk 12 ?_
    refine tk 13 ?_
    refine tk 14 ?_
    refine tk 15 ?_
    refine tk 16 ?_
    refine tk 17 ?_
    refine tk 18 ?_
    refine tk 19 ?_
    refine tk 20 ?_
    refine tk 21 ?_
    refine tk 22 ?_
    refine tk 23 ?_
    refine rd 24 (fun K hK=>?_)
    go_simp
    go_at_call 107
    refine (HC.out _ hk1.1).mono ?_
    rintro e q2 ⟨rfl,hq2⟩
    try go_wp2_with fail
    have hk2:=@QB.below w b (off+k*4) xa xm xs la ll lc _ _ hk1 hq2
    refine hK.out _ _ hk2 (fun _=>?_)
    clear hK K
    try simp only [Act.put,SL]
    refine tk 25 ?_
    refine tk 26 ?_
    refine wpAnyH_done (by kernel_rfl) ?_ _
    have HBQ:=H_ hk2.1
    clear hk1 hk2
    go_wp2_with fail
    go_ret
    exact ⟨by rw [HE.out];rfl,HBQ.out⟩
  ·have hlt2:¬(k:Int)<(len:Int):=by omega
   obtain rfl:k=len:=by omega
   have HSL:Hid (SOk ds ds.length):=H_ (by have h:=HS.out;rw [HL.out] at h;exact h)
   obtain ⟨Wo,hWo⟩:∃Wo,Wo=wr:=⟨_,rfl⟩
   subst hWo
   clear HS
   obtain ⟨len,hlen2⟩:∃len,len=k:=⟨_,rfl⟩
   subst hlen2
   go_wp2_with fail
   go_loopw [4] (fun z wr=>∃k:Nat,k≤len∧z=.int .i64 k∧Hid (NOk ds k)∧Hid (Below w.heap.size w wr)) (fun z _=>len-(intOf z).toNat)
   case atStart=>exact ⟨0,by omega,rfl,H_ (fun i hi=>absurd hi (by omega)),HB⟩
   case round =>
    clear HB
    obtain ⟨k,hk,rfl,HN,HB⟩:=hrel
    by_cases hlt:k<len
    ·have hlt2:(k:Int)<(len:Int):=by omega
     have hkl:k<ds.length:=by have:=HL.out;omega
     obtain ⟨b,off,la,lc,rfl,hbl,c0,c1,c2,c3,hLi⟩:=(HI.out.below HB.out).at k hkl
     obtain ⟨X,hX⟩:∃X,X=ds.getD k D.zero:=⟨_,rfl⟩
     rw [←hX] at c0 c1 c2 c3
     have HXX:=H_ hX
     clear hX hLi
     obtain ⟨xa,xm,xs,xl⟩:=X
     dsimp only at c0 c1 c2 c3
     generalize xl.length=ll at *
     have HSM:Hid (Calls Tryz.prog 109 #[.slice (some ⟨b,off,none⟩) len cap,.string xa,.int .i64 xm] wr.drew fun e w'=>∃v,e=.returned v∧OwnN w' wr.drew.heap.size v (net ds xa xm)∧Below wr.drew.heap.size wr.drew w'):=H_ (by have h:=ssum (some ⟨b,off,none⟩) cap ds xa xm wr.drew (by have:=HL.out;omega) HSL.out (HI.out.below (HB.out.trans ((Below.refl _ _).drew.mono HB.out.size)));rw [←HL.out] at h;exact h)
     have HNL:Hid ((net ds xa xm).length≤1000):=H_ (by have h:=(net_facts (ds:=ds) ds.length (Nat.le_refl _) HSL.out xa xm).2.1;rw [List.take_length] at h;have:=HL.out;omega)
     have HNO:Hid (ovB (net ds xa xm)=false→R=false):=H_ (fun h=>by rw [←HR.out];exact lB_no (fun hr=>by
      have h1:=hr.2.2 k hkl
      rw [←HXX.out] at h1
      rw [h] at h1
      cases h1))
     have HYE:Hid (ovB (net ds xa xm)=true→NOk ds (k+1)):=H_ (fun h i hi=>by
      by_cases e:i=k
      ·subst e
       rw [←HXX.out]
       exact h
      ·exact HN.out i (by omega))
     have HS0:Hid (QB w b (off+k*4) xa xm xs la ll lc wr.drew):=H_ ⟨HB.out.drew,hbl,c0,c1,c2,c3⟩
     clear c0 c1 c2 c3
     cases ho:ovB (net ds xa xm)
     ·have HE:=H_ (HNO.out ho)
      have HOV:=H_ ho
      clear ho
      go_wp2_with fail
      refine wp_region_held_drew (S:=(fun W=>Below w.heap.size w W∧b<W.heap.size∧W.cell? ⟨b,off+k*4,none⟩=some (.string xa)∧W.cell? ⟨b,off+k*4+1,none⟩=some (.int .i64 xm)∧W.cell? ⟨b,off+k*4+2,none⟩=some (.int .i64 xs)∧W.cell? ⟨b,off+k*4+3,none⟩=some (.slice la ll lc))) (by kernel_rfl) HS0.out (fun hHeld=>?_)
      refine tk 0 ?_
      refine tk 1 ?_
      refine tk 2 ?_
      refine tk 3 ?_
      refine tk 4 ?_
      refine tk 5 ?_
      refine tk 6 ?_
      refine tk 7 ?_
      refine tk 8 ?_
      refine tk 9 ?_
      refine tk 10 ?_
      refine rd 11 (fun K hK=>?_)
      go_simp
      go_at_call 109
      refine HSM.out.mono ?_
      rintro e q1 ⟨v,rfl,hv,hq1⟩
      obtain ⟨g,cp,rfl,g1,g2,g3,g4,g5⟩:=hv.open
      have HCL:=H_ (sclean (some ⟨g,0,none⟩) cp (net ds xa xm) q1 (by have:=HNL.out;omega) g5)
      clear hv g5
      try go_wp2_with fail
      have hk1:=@QB.below w b (off+k*4) xa xm xs la ll lc _ _ HS0.out hq1
      refine hK.out _ _ hk1 (fun _=>?_)
      clear hK K
      try simp only [Act.put,SL]
      refine rd 12 (fun K hK=>?_)
      go_simp
      go_at_call 108
      refine HCL.out.mono ?_
      rintro e q2 ⟨v2,rfl,hv2,hq2⟩
      clear hv2
      try go_wp2_with fail
      have hk2:=@QB.below w b (off+k*4) xa xm xs la ll lc _ _ hk1 hq2
      refine hK.out _ _ hk2 (fun _=>?_)
      clear hK K
      try simp only [Act.put,SL]
      refine tk 13 ?_
      refine tk 14 ?_
      refine tk 15 ?_
      refine tk 16 ?_
      refine tk 17 ?_
      refine wpAnyH_done (by kernel_rfl) ?_ _
      have HBQ:=H_ hk2.1
      clear hk1 hk2 HCL
      rw [HOV.out]
      go_wp2_with fail
      go_ret
      exact ⟨by rw [HE.out];rfl,HBQ.out⟩
     ·have HE:=H_ (HYE.out ho)
      have HOV:=H_ ho
      clear ho
      go_wp2_with fail
      refine wp_region_held_drew (S:=(fun W=>Below w.heap.size w W∧b<W.heap.size∧W.cell? ⟨b,off+k*4,none⟩=some (.string xa)∧W.cell? ⟨b,off+k*4+1,none⟩=some (.int .i64 xm)∧W.cell? ⟨b,off+k*4+2,none⟩=some (.int .i64 xs)∧W.cell? ⟨b,off+k*4+3,none⟩=some (.slice la ll lc))) (by kernel_rfl) HS0.out (fun hHeld=>?_)
      refine tk 0 ?_
      refine tk 1 ?_
      refine tk 2 ?_
      refine tk 3 ?_
      refine tk 4 ?_
      refine tk 5 ?_
      refine tk 6 ?_
      refine tk 7 ?_
      refine tk 8 ?_
      refine tk 9 ?_
      refine tk 10 ?_
      refine rd 11 (fun K hK=>?_)
      go_simp
      go_at_call 109
      refine HSM.out.mono ?_
      rintro e q1 ⟨v,rfl,hv,hq1⟩
      obtain ⟨g,cp,rfl,g1,g2,g3,g4,g5⟩:=hv.open
      have HCL:=H_ (sclean (some ⟨g,0,none⟩) cp (net ds xa xm) q1 (by have:=HNL.out;omega) g5)
      clear hv g5
      try go_wp2_with fail
      have hk1:=@QB.below w b (off+k*4) xa xm xs la ll lc _ _ HS0.out hq1
      refine hK.out _ _ hk1 (fun _=>?_)
      clear hK K
      try simp only [Act.put,SL]
      refine rd 12 (fun K hK=>?_)
      go_simp
      go_at_call 108
      refine HCL.out.mono ?_
      rintro e q2 ⟨v2,rfl,hv2,hq2⟩
      clear hv2
      try go_wp2_with fail
      have hk2:=@QB.below w b (off+k*4) xa xm xs la ll lc _ _ hk1 hq2
      refine hK.out _ _ hk2 (fun _=>?_)
      clear hK K
      try simp only [Act.put,SL]
      refine tk 13 ?_
      refine tk 14 ?_
      refine tk 15 ?_
      refine tk 16 ?_
      refine tk 17 ?_
      refine wpAnyH_done (by kernel_rfl) ?_ _
      have HBQ:=H_ hk2.1
      clear hk1 hk2 HCL
      rw [HOV.out]
      go_wp2_with fail
      go_roundw
      case rel=>exact ⟨k+1,by omega,by go_num,HE,HBQ⟩
      case measure=>simp [intOf];omega
    ·have hlt2:¬(k:Int)<(len:Int):=by omega
     obtain rfl:k=len:=by omega
     have HE:Hid (R=true):=H_ (by rw [←HR.out];exact lB_yes ⟨by have:=HL.out;omega,HSL.out,by have h:=HN.out;rw [HL.out] at h;exact h⟩)
     go_wp2_with fail
     go_ret
     exact ⟨by rw [HE.out];rfl,HB.out⟩
theorem impl_ledger (ao:Option Addr) (cap:Nat) (ds:List D) (w:World) (hlen:ds.length≤1048576) (hSm:∀d∈ds,d.Sm) (hwf:∀d∈ds,(Lit.int .i64 d.mo).wf=true) (hI:Dcs ao ds w) :
 Calls Tryz.prog 72 #[.slice ao ds.length cap] w fun e w'=>e=.returned (.bool (lB ds))∧Below w.heap.size w w':=by
 have H1:=H_ (irows ao cap ds w hlen hSm hwf hI)
 unfold RowsR at H1
 generalize lB ds=r at *
 generalize ds.length=len at *
 clear hI hSm hwf
 go_enter Tryz.func72,Tryz.ntmps72
 go_wp2_with fail
 refine H1.out.mono ?_
 rintro e w1 ⟨hb,⟨rfl,c,rfl⟩|⟨rfl,M,rfl,_⟩⟩
 ·have HB:=H_ hb
  clear hb
  go_wp2_with fail
  go_ret
  exact ⟨rfl,HB.out⟩
 ·have HB:=H_ hb
  clear hb
  go_wp2_with fail
  go_ret
  exact ⟨rfl,HB.out⟩
end LedR
end Go.Proofs.YtnceeaccbcfopaaGreatDoor
