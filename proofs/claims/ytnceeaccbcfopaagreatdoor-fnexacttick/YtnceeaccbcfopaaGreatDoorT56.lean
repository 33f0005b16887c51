/-
  The law's own helpers over a catalog: its size, its copy, two held against each other. The condition: all in it is small.
-/
import Derived.Test.YtnceeaccbcfopaaGreatDoorT55
namespace Go.Proofs.YtnceeaccbcfopaaGreatDoor
open Go.ChangeShapes Go.WideShapes Go.ChangeAt Go.RowKit
set_option linter.unusedVariables false
namespace CatR
open EvtR (Pt cell_put cell_far)
structure Ca.Small (c:Ca):Prop where
 ml:c.ms.length≤1048576
 ms:∀i,i<c.ms.length→(c.ms.getD i Me.zero).Small
 cl:c.cs.length≤1048576
 cs:∀i,i<c.cs.length→(c.cs.getD i Cr.zero).a.size≤1048576
structure Ca.In (c:Ca):Prop where
 ml:c.ms.length≤maxLen
 ms:∀i,i<c.ms.length→(c.ms.getD i Me.zero).In
 cl:c.cs.length≤maxLen
 cs:∀i,i<c.cs.length→(c.cs.getD i Cr.zero).a.size≤maxLen
theorem NewMes.far {base g:Nat} {bs:Nat→Nat} {n k:Nat} {ms:List Me} {w:World} (h:NewMes base g bs n k ms w) {b:Nat} (hb:b<base) (o:Nat) (v:Value):NewMes base g bs n k ms (w.setCell ⟨b,o,none⟩ v):=by
 have hg:=h.lo
 refine ⟨h.lo,h.pt.far (by omega) o v,h.inc,fun i hi=>?_⟩
 have hi2:=(h.inc i hi).1
 obtain ⟨⟨h0,h1,h2,h3,h4,h5⟩,h6,h7⟩:=h.cel i hi
 have e:=far_block w b o v g (by omega)
 have f:=fun x=>World.cell?_of_block (a:=⟨g,x,none⟩) e
 exact ⟨⟨(f _).trans h0,(f _).trans h1,(f _).trans h2,(f _).trans h3,(f _).trans h4,(f _).trans h5⟩,h6.far (by omega) o v,h7.far (by omega) o v⟩
theorem NewMes.mono {base base' g:Nat} {bs:Nat→Nat} {n k:Nat} {ms:List Me} {w:World} (h:NewMes base g bs n k ms w) (hb:base'≤base):NewMes base' g bs n k ms w:=⟨by have:=h.lo;omega,h.pt,h.inc,h.cel⟩
theorem Crs.far {b0 off len:Nat} {ts:List Cr} {w:World} (h:Crs (some ⟨b0,off,none⟩) len ts w) {b:Nat} (hb:b≠b0) (o:Nat) (v:Value):Crs (some ⟨b0,off,none⟩) len ts (w.setCell ⟨b,o,none⟩ v):=by
 refine ⟨h.1,?_⟩
 rcases h.2 with h0|⟨b1,off1,e,hlt,hc⟩
 ·exact .inl h0
 ·obtain ⟨rfl,rfl⟩:b0=b1∧off=off1:=by simpa using e
  have e:=far_block w b o v b0 hb
  exact .inr ⟨b0,off,rfl,by simpa using hlt,fun j hj=>⟨(World.cell?_of_block (a:=⟨b0,_,none⟩) e).trans (hc j hj).1,(World.cell?_of_block (a:=⟨b0,_,none⟩) e).trans (hc j hj).2⟩⟩
def NewCa (base:Nat) (v:Value) (c:Ca) (w:World):Prop:=∃g bs h,v=.agg #[.slice (some ⟨g,0,none⟩) c.ms.length c.ms.length,.slice (some ⟨h,0,none⟩) c.cs.length c.cs.length]∧NewMes base g bs c.ms.length c.ms.length c.ms w∧g<h∧(∀i,i<c.ms.length→bs i<h)∧Crs (some ⟨h,0,none⟩) c.cs.length c.cs w∧Pt h (c.cs.length*2) w
theorem NewCa.is {base:Nat} {v:Value} {c:Ca} {w:World} (h:NewCa base v c w):IsCa v c w:=by
 obtain ⟨g,bs,h0,h1,h2,h3,h4,h5,h6⟩:=h
 exact ⟨_,_,_,_,h1,h2.is rfl,h5⟩
theorem NewCa.below {base:Nat} {v:Value} {c:Ca} {w w':World} (h:NewCa base v c w) (hb:Below w.heap.size w w'):NewCa base v c w':=by
 obtain ⟨g,bs,h0,h1,h2,h3,h4,h5,h6⟩:=h
 exact ⟨g,bs,h0,h1,h2.below hb,h3,h4,h5.below hb,h6.below hb⟩
set_option maxRecDepth 100000 in
set_option maxHeartbeats 4000000 in
theorem toCa_any (v:Value) (c:Ca) (w:World) (hS:c.Small) (hC:IsCa v c w) :
 Calls Tryz.prog 22 #[v] w fun e w'=>(∃v',e=.returned v'∧NewCa w.heap.size v' c w')∧Below w.heap.size w w':=by
 obtain ⟨ma,mc,ca,cc,rfl,hM,hR⟩:=hC
 obtain ⟨ms,cs⟩:=c
 obtain ⟨s1,s2,s3,s4⟩:=hS
 simp only at *
 have HM:Hid (∀W,Below w.heap.size w W→Calls Tryz.prog 64 #[.slice ma ms.length mc] W fun e w'=>e=.returned (.slice (some ⟨W.heap.size,0,none⟩) ms.length ms.length)∧(∃bs,NewMes W.heap.size W.heap.size bs ms.length ms.length ms w')∧Below W.heap.size W w'):=H_ (fun W hW=>toMes_any ma ms.length mc ms W s1 s2 (hM.below hW))
 have HR:Hid (∀W,Below w.heap.size w W→Calls Tryz.prog 65 #[.slice ca cs.length cc] W fun e w'=>e=.returned (.slice (some ⟨W.heap.size,0,none⟩) cs.length cs.length)∧Crs (some ⟨W.heap.size,0,none⟩) cs.length cs w'∧Pt W.heap.size (cs.length*2) w'∧Below W.heap.size W w'):=H_ (fun W hW=>toCrs_any ca cs.length cc cs W s3 (hR.below hW))
 have HF:Hid (∀g bs h v w',v=.agg #[.slice (some ⟨g,0,none⟩) ms.length ms.length,.slice (some ⟨h,0,none⟩) cs.length cs.length]→NewMes w.heap.size g bs ms.length ms.length ms w'→g<h→(∀i,i<ms.length→bs i<h)→Crs (some ⟨h,0,none⟩) cs.length cs w'→Pt h (cs.length*2) w'→NewCa w.heap.size v ⟨ms,cs⟩ w'):=H_ (fun g bs h v w' h1 h2 h3 h4 h5 h6=>⟨g,bs,h,h1,h2,h3,h4,h5,h6⟩)
 clear hM hR s1 s2 s3 s4
 generalize ms.length=ml at *
 generalize cs.length=cl at *
 obtain ⟨W,hW⟩:∃W,W=(((w.alloc (.cells #[.slice ma ml mc,.slice ca cl cc] 25)).alloc (.cells #[.slice none 0 0,.slice none 0 0] 36)).alloc (.cells #[.slice none 0 0,.slice none 0 0] 36)):=⟨_,rfl⟩
 have HW:=H_ hW
 have HBB:Hid (Below w.heap.size w W):=H_ (by rw [hW];exact (((Below.refl _ _).alloc (Nat.le_refl _) _).alloc (by simp) _).alloc (by simp;omega) _)
 have hWs:W.heap.size=w.heap.size+3:=by rw [hW];simp
 have p0:W.cell? ⟨w.heap.size,0,none⟩=some (.slice ma ml mc):=by rw [hW];simp [go_sem]
 have p0':W.frozen? ⟨w.heap.size,0,none⟩=false:=by rw [hW];simp [go_sem]
 have p1:W.cell? ⟨w.heap.size,1,none⟩=some (.slice ca cl cc):=by rw [hW];simp [go_sem]
 have p1':W.frozen? ⟨w.heap.size,1,none⟩=false:=by rw [hW];simp [go_sem]
 have b0:W.cell? ⟨w.heap.size+1,0,none⟩=some (.slice none 0 0):=by rw [hW];simp [go_sem]
 have b0':W.frozen? ⟨w.heap.size+1,0,none⟩=false:=by rw [hW];simp [go_sem]
 have b1:W.cell? ⟨w.heap.size+1,1,none⟩=some (.slice none 0 0):=by rw [hW];simp [go_sem]
 have b1':W.frozen? ⟨w.heap.size+1,1,none⟩=false:=by rw [hW];simp [go_sem]
 have a0:W.cell? ⟨w.heap.size+2,0,none⟩=some (.slice none 0 0):=by rw [hW];simp [go_sem]
 have a0':W.frozen? ⟨w.heap.size+2,0,none⟩=false:=by rw [hW];simp [go_sem]
 have a1:W.cell? ⟨w.heap.size+2,1,none⟩=some (.slice none 0 0):=by rw [hW];simp [go_sem]
 have a1':W.frozen? ⟨w.heap.size+2,1,none⟩=false:=by rw [hW];simp [go_sem]
 clear hW
 go_enter Tryz.func22,Tryz.ntmps22
 go_wp2_with fail
 rw [←HW.out]
 refine (HM.out _ HBB.out).mono ?_
 rintro e w1 ⟨rfl,⟨bs,hN1⟩,hb1⟩
 rw [hWs] at hN1
 obtain ⟨hcc,hff⟩:=bcell hb1
 rw [hWs] at hcc hff
 have hlt:w.heap.size+3≤w1.heap.size:=by have:=hb1.size;omega
 have HB1:=H_ (HBB.out.trans (hb1.mono HBB.out.size))
 have HN1:=H_ hN1
 replace p0:=(hcc w.heap.size 0 (by omega)).trans p0
 replace p0':=(hff w.heap.size 0 (by omega)).trans p0'
 replace p1:=(hcc w.heap.size 1 (by omega)).trans p1
 replace p1':=(hff w.heap.size 1 (by omega)).trans p1'
 replace b0:=(hcc (w.heap.size+1) 0 (by omega)).trans b0
 replace b0':=(hff (w.heap.size+1) 0 (by omega)).trans b0'
 replace b1:=(hcc (w.heap.size+1) 1 (by omega)).trans b1
 replace b1':=(hff (w.heap.size+1) 1 (by omega)).trans b1'
 replace a0:=(hcc (w.heap.size+2) 0 (by omega)).trans a0
 replace a0':=(hff (w.heap.size+2) 0 (by omega)).trans a0'
 replace a1:=(hcc (w.heap.size+2) 1 (by omega)).trans a1
 replace a1':=(hff (w.heap.size+2) 1 (by omega)).trans a1'
 clear hN1 hb1 hcc hff
 obtain ⟨W2,hW2⟩:∃W2,W2=w1.setCell ⟨w.heap.size+1+1,0,none⟩ (.slice (some ⟨w.heap.size+3,0,none⟩) ml ml):=⟨_,rfl⟩
 have HW2:=H_ hW2
 have HB2:Hid (Below w.heap.size w W2):=H_ (by rw [hW2];exact HB1.out.setCell (show w.heap.size≤w.heap.size+1+1 by omega) _)
 have HN2:Hid (NewMes (w.heap.size+3) (w.heap.size+3) bs ml ml ms W2):=H_ (by rw [hW2];exact HN1.out.far (by omega) _ _)
 have hlt2:w.heap.size+3≤W2.heap.size:=by rw [hW2];simpa using hlt
 have p0q:W2.cell? ⟨w.heap.size,0,none⟩=some (.slice ma ml mc):=by rw [hW2];simp [go_sem,p0]
 have p0q':W2.frozen? ⟨w.heap.size,0,none⟩=false:=by rw [hW2];simp [go_sem,p0']
 have p1q:W2.cell? ⟨w.heap.size,1,none⟩=some (.slice ca cl cc):=by rw [hW2];simp [go_sem,p1]
 have p1q':W2.frozen? ⟨w.heap.size,1,none⟩=false:=by rw [hW2];simp [go_sem,p1']
 have b0q:W2.cell? ⟨w.heap.size+1,0,none⟩=some (.slice none 0 0):=by rw [hW2];simp [go_sem,b0]
 have b0q':W2.frozen? ⟨w.heap.size+1,0,none⟩=false:=by rw [hW2];simp [go_sem,b0']
 have b1q:W2.cell? ⟨w.heap.size+1,1,none⟩=some (.slice none 0 0):=by rw [hW2];simp [go_sem,b1]
 have b1q':W2.frozen? ⟨w.heap.size+1,1,none⟩=false:=by rw [hW2];simp [go_sem,b1']
 have a0q:W2.cell? ⟨w.heap.size+2,0,none⟩=some (.slice (some ⟨w.heap.size+3,0,none⟩) ml ml):=by rw [hW2];simp [go_sem,a0]
 have a0q':W2.frozen? ⟨w.heap.size+2,0,none⟩=false:=by rw [hW2];simp [go_sem,a0']
 have a1q:W2.cell? ⟨w.heap.size+2,1,none⟩=some (.slice none 0 0):=by rw [hW2];simp [go_sem,a1]
 have a1q':W2.frozen? ⟨w.heap.size+2,1,none⟩=false:=by rw [hW2];simp [go_sem,a1']
 go_wp2_with fail
 rw [←HW2.out]
 refine (HR.out _ HB2.out).mono ?_
 rintro e w3 ⟨rfl,hC3,hP3,hb3⟩
 have HN3:=H_ (HN2.out.below hb3)
 have HBS:=H_ HN2.out.blocks
 have HGL:=H_ HN2.out.pt.lt
 obtain ⟨hcc,hff⟩:=bcell hb3
 have HB3:=H_ (HB2.out.trans (hb3.mono HB2.out.size))
 have HC3:=H_ hC3
 have HP3:=H_ hP3
 replace p0q:=(hcc w.heap.size 0 (by omega)).trans p0q
 replace p1q:=(hcc w.heap.size 1 (by omega)).trans p1q
 replace b0q:=(hcc (w.heap.size+1) 0 (by omega)).trans b0q
 replace b1q:=(hcc (w.heap.size+1) 1 (by omega)).trans b1q
 replace a0q:=(hcc (w.heap.size+2) 0 (by omega)).trans a0q
 replace a1q:=(hcc (w.heap.size+2) 1 (by omega)).trans a1q
 replace b0q':=(hff (w.heap.size+1) 0 (by omega)).trans b0q'
 replace b1q':=(hff (w.heap.size+1) 1 (by omega)).trans b1q'
 replace a0q':=(hff (w.heap.size+2) 0 (by omega)).trans a0q'
 replace a1q':=(hff (w.heap.size+2) 1 (by omega)).trans a1q'
 clear hC3 hP3 hb3 hcc hff hW2 p0q' p1q' p0 p0' p1 p1' b0 b0' b1 b1' a0 a0' a1 a1'
 generalize W2.heap.size=h2 at *
 go_wp2_with fail
 refine bodyPost_ret (v:=.agg #[.slice (some ⟨w.heap.size+3,0,none⟩) ml ml,.slice (some ⟨h2,0,none⟩) cl cl]) (by simp [results,Tryz.results22,go_sem,b0q,b1q]) rfl ⟨⟨_,rfl,?_⟩,?_⟩
 ·refine HF.out (w.heap.size+3) bs h2 _ _ rfl ?_ ?_ HBS.out ?_ ?_
  ·exact ((((HN3.out.far (show _<_ by omega) _ _).far (show _<_ by omega) _ _).far (show _<_ by omega) _ _)).mono (by omega)
  ·exact HGL.out
  ·exact ((HC3.out.far (show _≠_ by omega) _ _).far (show _≠_ by omega) _ _).far (show _≠_ by omega) _ _
  ·exact ((HP3.out.far (show _≠_ by omega) _ _).far (show _≠_ by omega) _ _).far (show _≠_ by omega) _ _
 ·exact ((HB3.out.setCell (show w.heap.size≤w.heap.size+1+1 by omega) _).setCell (show w.heap.size≤w.heap.size+1 by omega) _).setCell (show w.heap.size≤w.heap.size+1 by omega) _
set_option maxHeartbeats 4000000 in
theorem szCa_any (v:Value) (c:Ca) (w:World) (hN:c.In) (hC:IsCa v c w) :
 Calls Tryz.prog 13 #[v,.int .i64 1048576] w fun e w'=>SzOut 1048576 c.Small e∧Below w.heap.size w w':=by
 obtain ⟨ma,mc,ca,cc,rfl,hM,hR⟩:=hC
 obtain ⟨ms,cs⟩:=c
 obtain ⟨s1,s2,s3,s4⟩:=hN
 simp only at *
 have HM:Hid (∀W,Below w.heap.size w W→Calls Tryz.prog 45 #[.slice ma ms.length mc,.int .i64 1048576] W fun e w'=>SzOut 1048576 (ms.length≤1048576∧∀i,i<ms.length→(ms.getD i Me.zero).Small) e∧Below W.heap.size W w'):=H_ (fun W hW=>szMes_any ma ms.length mc ms 1048576 W s1 (by omega) (by omega) (hM.below hW) s2)
 have HR:Hid (∀W L,0≤L→L≤1048576→Below w.heap.size w W→Calls Tryz.prog 46 #[.slice ca cs.length cc,.int .i64 L] W fun e w'=>SzOut L (cs.length≤1048576∧∀i,i<cs.length→(cs.getD i Cr.zero).a.size≤1048576) e∧Below W.heap.size W w'):=H_ (fun W L h0 h1 hW=>szCrs_any ca cs.length cc cs L W s3 h0 h1 (hR.below hW) s4)
 have HF:Hid (∀(h1:ms.length≤1048576∧∀i,i<ms.length→(ms.getD i Me.zero).Small) (h2:cs.length≤1048576∧∀i,i<cs.length→(cs.getD i Cr.zero).a.size≤1048576),Ca.Small ⟨ms,cs⟩):=H_ (fun h1 h2=>⟨h1.1,h1.2,h2.1,h2.2⟩)
 clear hM hR s1 s2 s3 s4
 have HB:Hid (Below w.heap.size w (w.alloc (.cells #[.slice ma ms.length mc,.slice ca cs.length cc] 25))):=H_ ((Below.refl _ _).alloc (Nat.le_refl _) _)
 generalize (ms.length≤1048576∧∀i,i<ms.length→(ms.getD i Me.zero).Small)=PM at *
 generalize (cs.length≤1048576∧∀i,i<cs.length→(cs.getD i Cr.zero).a.size≤1048576)=PC at *
 generalize Ca.Small ⟨ms,cs⟩=PS at *
 generalize ms.length=ml at *
 generalize cs.length=cl at *
 go_enter Tryz.func13,Tryz.ntmps13
 go_wp2_with fail
 refine (HM.out _ HB.out).mono ?_
 rintro e w1 ⟨⟨L,rfl,hL⟩,hb1⟩
 obtain ⟨hcc,hff⟩:=bcell hb1
 have hlt:w.heap.size<w1.heap.size:=by have:=hb1.size;simp at this;omega
 have HB1:=H_ (HB.out.trans (hb1.mono HB.out.size))
 have p1:w1.cell? ⟨w.heap.size,1,none⟩=some (.slice ca cl cc):=(hcc w.heap.size 1 (by simp)).trans (by simp [go_sem])
 clear hb1 hcc hff
 rcases hL with rfl|⟨l0,l1,hp⟩
 ·go_wp2_with fail
  go_ret
  exact ⟨⟨-1,rfl,.inl rfl⟩,HB1.out⟩
 ·have g1:¬L<0:=by omega
  have HP:=H_ hp
  have HR2:=H_ (HR.out w1 L l0 l1 HB1.out)
  clear hp
  go_wp2_with fail
  refine HR2.out.mono ?_
  rintro e w2 ⟨⟨L2,rfl,hL2⟩,hb2⟩
  have HB2:=H_ (HB1.out.trans (hb2.mono HB1.out.size))
  clear hb2
  rcases hL2 with rfl|⟨k0,k1,hp2⟩
  ·go_wp2_with fail
   go_ret
   exact ⟨⟨-1,rfl,.inl rfl⟩,HB2.out⟩
  ·have g2:¬L2<0:=by omega
   have HP2:=H_ hp2
   have HL2:Hid (L2≤1048576):=H_ (by omega)
   clear hp2 k1
   go_wp2_with fail
   go_ret
   exact ⟨⟨L2,rfl,.inr ⟨k0,HL2.out,HF.out HP.out HP2.out⟩⟩,HB2.out⟩
set_option maxHeartbeats 4000000 in
theorem eqCa_any (v v':Value) (c:Ca) (w:World) (hS:c.Small) (hI:IsCa v c w) (hJ:IsCa v' c w) :
 Calls Tryz.prog 34 #[v,v'] w fun e w'=>e=.returned (.bool true)∧Below w.heap.size w w':=by
 obtain ⟨ma,mc,ca,cc,rfl,hM,hR⟩:=hI
 obtain ⟨ma',mc',ca',cc',rfl,hM',hR'⟩:=hJ
 obtain ⟨ms,cs⟩:=c
 obtain ⟨s1,s2,s3,s4⟩:=hS
 simp only at *
 have HM:Hid (∀W,Below w.heap.size w W→Calls Tryz.prog 82 #[.slice ma ms.length mc,.slice ma' ms.length mc'] W fun e w'=>e=.returned (.bool true)∧Below W.heap.size W w'):=H_ (fun W hW=>eqMes_any ma ma' ms.length mc mc' ms W s1 s2 (hM.below hW) (hM'.below hW))
 have HR:Hid (∀W,Below w.heap.size w W→Calls Tryz.prog 83 #[.slice ca cs.length cc,.slice ca' cs.length cc'] W fun e w'=>e=.returned (.bool true)∧Below W.heap.size W w'):=H_ (fun W hW=>eqCrs_any ca ca' cs.length cc cc' cs W s3 (hR.below hW) (hR'.below hW))
 clear hM hR hM' hR' s1 s2 s3 s4
 generalize ms.length=ml at *
 generalize cs.length=cl at *
 have HB:Hid (Below w.heap.size w ((w.alloc (.cells #[.slice ma ml mc,.slice ca cl cc] 36)).alloc (.cells #[.slice ma' ml mc',.slice ca' cl cc'] 36))):=H_ (((Below.refl _ _).alloc (Nat.le_refl _) _).alloc (by simp) _)
 go_enter Tryz.func34,Tryz.ntmps34
 go_wp2_with fail
 refine (HM.out _ HB.out).mono ?_
 rintro e w1 ⟨rfl,hb1⟩
 obtain ⟨hcc,hff⟩:=bcell hb1
 have hlt:w.heap.size+1<w1.heap.size:=by have:=hb1.size;simp at this;omega
 have HB1:=H_ (HB.out.trans (hb1.mono HB.out.size))
 have p1:w1.cell? ⟨w.heap.size,1,none⟩=some (.slice ca cl cc):=(hcc w.heap.size 1 (by simp;omega)).trans (by simp [go_sem])
 have p2:w1.cell? ⟨w.heap.size+1,1,none⟩=some (.slice ca' cl cc'):=(hcc (w.heap.size+1) 1 (by simp)).trans (by simp [go_sem])
 clear hb1 hcc hff
 go_wp2_with fail
 refine (HR.out _ HB1.out).mono ?_
 rintro e w2 ⟨rfl,hb2⟩
 have HB2:=H_ (HB1.out.trans (hb2.mono HB1.out.size))
 clear hb2
 go_wp2_with fail
 go_ret
 exact ⟨rfl,HB2.out⟩
end CatR
end Go.Proofs.YtnceeaccbcfopaaGreatDoor
