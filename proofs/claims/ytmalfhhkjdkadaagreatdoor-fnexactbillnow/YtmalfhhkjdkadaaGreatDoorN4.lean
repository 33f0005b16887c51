/-
  The law's own helpers over a catalog: its size, its copy, two held against each other. The condition: all in it is small.
  A text of seen bytes alone (33 to 126): what the program says rune by rune and what the model says byte by byte. No condition but the length.
  What a right Id and a minute are: both sides say the same. No condition but the lengths.
  An engine's sources are right: both sides say the same, whatever their marks. The condition: at most 1048576 sources with names of at most 1048576 bytes.
-/
import Derived.Laws.RangeAny
import Derived.Test.YtmalfhhkjdkadaaGreatDoorN3
namespace Go.Proofs.YtmalfhhkjdkadaaGreatDoor
open Go.ChangeShapes Go.WideShapes Go.ChangeAt Go.RowKit
set_option linter.unusedVariables false
namespace CatR
open EvtR (Pt cell_put cell_far)
structure Ca.Small (c:Ca):Prop where
 ml:c.ms.length≤1048576
 ms:∀i,i<c.ms.length→(c.ms.getD i Me.zero).Small
 cl:c.cs.length≤1048576
 cs:∀i,i<c.cs.length→(c.cs.getD i Cr.zero).a.size≤1048576
structure Ca.In (c:Ca):Prop where
 ml:c.ms.length≤maxLen
 ms:∀i,i<c.ms.length→(c.ms.getD i Me.zero).In
 cl:c.cs.length≤maxLen
 cs:∀i,i<c.cs.length→(c.cs.getD i Cr.zero).a.size≤maxLen
theorem NewMes.far {base g:Nat} {bs:Nat→Nat} {n k:Nat} {ms:List Me} {w:World} (h:NewMes base g bs n k ms w) {b:Nat} (hb:b<base) (o:Nat) (v:Value):NewMes base g bs n k ms (w.setCell ⟨b,o,none⟩ v):=by
 have hg:=h.lo
 refine ⟨h.lo,h.pt.far (by omega) o v,h.inc,fun i hi=>?_⟩
 have hi2:=(h.inc i hi).1
 obtain ⟨⟨h0,h1,h2,h3,h4,h5⟩,h6,h7⟩:=h.cel i hi
 have e:=far_block w b o v g (by omega)
 have f:=fun x=>World.cell?_of_block (a:=⟨g,x,none⟩) e
 exact ⟨⟨(f _).trans h0,(f _).trans h1,(f _).trans h2,(f _).trans h3,(f _).trans h4,(f _).trans h5⟩,h6.far (by omega) o v,h7.far (by omega) o v⟩
theorem NewMes.mono {base base' g:Nat} {bs:Nat→Nat} {n k:Nat} {ms:List Me} {w:World} (h:NewMes base g bs n k ms w) (hb:base'≤base):NewMes base' g bs n k ms w:=⟨by have:=h.lo;omega,h.pt,h.inc,h.cel⟩
theorem Crs.far {b0 off len:Nat} {ts:List Cr} {w:World} (h:Crs (some ⟨b0,off,none⟩) len ts w) {b:Nat} (hb:b≠b0) (o:Nat) (v:Value):Crs (some ⟨b0,off,none⟩) len ts (w.setCell ⟨b,o,none⟩ v):=by
 refine ⟨h.1,?_⟩
 rcases h.2 with h0|⟨b1,off1,e,hlt,hc⟩
 ·exact .inl h0
 ·obtain ⟨rfl,rfl⟩:b0=b1∧off=off1:=by simpa using e
  have e:=far_block w b o v b0 hb
  exact .inr ⟨b0,off,rfl,by simpa using hlt,fun j hj=>⟨(World.cell?_of_block (a:=⟨b0,_,none⟩) e).trans (hc j hj).1,(World.cell?_of_block (a:=⟨b0,_,none⟩) e).trans (hc j hj).2⟩⟩
def NewCa (base:Nat) (v:Value) (c:Ca) (w:World):Prop:=∃g bs h,v=.agg #[.slice (some ⟨g,0,none⟩) c.ms.length c.ms.length,.slice (some ⟨h,0,none⟩) c.cs.length c.cs.length]∧NewMes base g bs c.ms.length c.ms.length c.ms w∧g<h∧(∀i,i<c.ms.length→bs i<h)∧Crs (some ⟨h,0,none⟩) c.cs.length c.cs w∧Pt h (c.cs.length*2) w
theorem NewCa.is {base:Nat} {v:Value} {c:Ca} {w:World} (h:NewCa base v c w):IsCa v c w:=by
 obtain ⟨g,bs,h0,h1,h2,h3,h4,h5,h6⟩:=h
 exact ⟨_,_,_,_,h1,h2.is rfl,h5⟩
theorem NewCa.below {base:Nat} {v:Value} {c:Ca} {w w':World} (h:NewCa base v c w) (hb:Below w.heap.size w w'):NewCa base v c w':=by
 obtain ⟨g,bs,h0,h1,h2,h3,h4,h5,h6⟩:=h
 exact ⟨g,bs,h0,h1,h2.below hb,h3,h4,h5.below hb,h6.below hb⟩
set_option maxRecDepth 100000 in
set_option maxHeartbeats 4000000 in
theorem toCa_any (v:Value) (c:Ca) (w:World) (hS:c.Small) (hC:IsCa v c w) :
 Calls Tryz.prog 23 #[v] w fun e w'=>(∃v',e=.returned v'∧NewCa w.heap.size v' c w')∧Below w.heap.size w w':=by
 obtain ⟨ma,mc,ca,cc,rfl,hM,hR⟩:=hC
 obtain ⟨ms,cs⟩:=c
 obtain ⟨s1,s2,s3,s4⟩:=hS
 simp only at *
 have HM:Hid (∀W,Below w.heap.size w W→Calls Tryz.prog 63 #[.slice ma ms.length mc] W fun e w'=>e=.returned (.slice (some ⟨W.heap.size,0,none⟩) ms.length ms.length)∧(∃bs,NewMes W.heap.size W.heap.size bs ms.length ms.length ms w')∧Below W.heap.size W w'):=hid_intro (fun W hW=>toMes_any ma ms.length mc ms W s1 s2 (hM.below hW))
 have HR:Hid (∀W,Below w.heap.size w W→Calls Tryz.prog 64 #[.slice ca cs.length cc] W fun e w'=>e=.returned (.slice (some ⟨W.heap.size,0,none⟩) cs.length cs.length)∧Crs (some ⟨W.heap.size,0,none⟩) cs.length cs w'∧Pt W.heap.size (cs.length*2) w'∧Below W.heap.size W w'):=hid_intro (fun W hW=>toCrs_any ca cs.length cc cs W s3 (hR.below hW))
 have HF:Hid (∀g bs h v w',v=.agg #[.slice (some ⟨g,0,none⟩) ms.length ms.length,.slice (some ⟨h,0,none⟩) cs.length cs.length]→NewMes w.heap.size g bs ms.length ms.length ms w'→g<h→(∀i,i<ms.length→bs i<h)→Crs (some ⟨h,0,none⟩) cs.length cs w'→Pt h (cs.length*2) w'→NewCa w.heap.size v ⟨ms,cs⟩ w'):=hid_intro (fun g bs h v w' h1 h2 h3 h4 h5 h6=>⟨g,bs,h,h1,h2,h3,h4,h5,h6⟩)
 clear hM hR s1 s2 s3 s4
 generalize ms.length=ml at *
 generalize cs.length=cl at *
 obtain ⟨W,hW⟩:∃W,W=(((w.alloc (.cells #[.slice ma ml mc,.slice ca cl cc] 25)).alloc (.cells #[.slice none 0 0,.slice none 0 0] 40)).alloc (.cells #[.slice none 0 0,.slice none 0 0] 40)):=⟨_,rfl⟩
 have HW:=hid_intro hW
 have HBB:Hid (Below w.heap.size w W):=hid_intro (by rw [hW];exact (((Below.refl _ _).alloc (Nat.le_refl _) _).alloc (by simp) _).alloc (by simp;omega) _)
 have hWs:W.heap.size=w.heap.size+3:=by rw [hW];simp
 have p0:W.cell? ⟨w.heap.size,0,none⟩=some (.slice ma ml mc):=by rw [hW];simp [go_sem]
 have p0':W.frozen? ⟨w.heap.size,0,none⟩=false:=by rw [hW];simp [go_sem]
 have p1:W.cell? ⟨w.heap.size,1,none⟩=some (.slice ca cl cc):=by rw [hW];simp [go_sem]
 have p1':W.frozen? ⟨w.heap.size,1,none⟩=false:=by rw [hW];simp [go_sem]
 have b0:W.cell? ⟨w.heap.size+1,0,none⟩=some (.slice none 0 0):=by rw [hW];simp [go_sem]
 have b0':W.frozen? ⟨w.heap.size+1,0,none⟩=false:=by rw [hW];simp [go_sem]
 have b1:W.cell? ⟨w.heap.size+1,1,none⟩=some (.slice none 0 0):=by rw [hW];simp [go_sem]
 have b1':W.frozen? ⟨w.heap.size+1,1,none⟩=false:=by rw [hW];simp [go_sem]
 have a0:W.cell? ⟨w.heap.size+2,0,none⟩=some (.slice none 0 0):=by rw [hW];simp [go_sem]
 have a0':W.frozen? ⟨w.heap.size+2,0,none⟩=false:=by rw [hW];simp [go_sem]
 have a1:W.cell? ⟨w.heap.size+2,1,none⟩=some (.slice none 0 0):=by rw [hW];simp [go_sem]
 have a1':W.frozen? ⟨w.heap.size+2,1,none⟩=false:=by rw [hW];simp [go_sem]
 clear hW
 go_enter Tryz.func23,Tryz.ntmps23
 go_wp2_with fail
 rw [←HW.out]
 refine (HM.out _ HBB.out).mono ?_
 rintro e w1 ⟨rfl,⟨bs,hN1⟩,hb1⟩
 rw [hWs] at hN1
 obtain ⟨hcc,hff⟩:=bcell hb1
 rw [hWs] at hcc hff
 have hlt:w.heap.size+3≤w1.heap.size:=by have:=hb1.size;omega
 have HB1:=hid_intro (HBB.out.trans (hb1.mono HBB.out.size))
 have HN1:=hid_intro hN1
 replace p0:=(hcc w.heap.size 0 (by omega)).trans p0
 replace p0':=(hff w.heap.size 0 (by omega)).trans p0'
 replace p1:=(hcc w.heap.size 1 (by omega)).trans p1
 replace p1':=(hff w.heap.size 1 (by omega)).trans p1'
 replace b0:=(hcc (w.heap.size+1) 0 (by omega)).trans b0
 replace b0':=(hff (w.heap.size+1) 0 (by omega)).trans b0'
 replace b1:=(hcc (w.heap.size+1) 1 (by omega)).trans b1
 replace b1':=(hff (w.heap.size+1) 1 (by omega)).trans b1'
 replace a0:=(hcc (w.heap.size+2) 0 (by omega)).trans a0
 replace a0':=(hff (w.heap.size+2) 0 (by omega)).trans a0'
 replace a1:=(hcc (w.heap.size+2) 1 (by omega)).trans a1
 replace a1':=(hff (w.heap.size+2) 1 (by omega)).trans a1'
 clear hN1 hb1 hcc hff
 obtain ⟨W2,hW2⟩:∃W2,W2=w1.setCell ⟨w.heap.size+1+1,0,none⟩ (.slice (some ⟨w.heap.size+3,0,none⟩) ml ml):=⟨_,rfl⟩
 have HW2:=hid_intro hW2
 have HB2:Hid (Below w.heap.size w W2):=hid_intro (by rw [hW2];exact HB1.out.setCell (show w.heap.size≤w.heap.size+1+1 by omega) _)
 have HN2:Hid (NewMes (w.heap.size+3) (w.heap.size+3) bs ml ml ms W2):=hid_intro (by rw [hW2];exact HN1.out.far (by omega) _ _)
 have hlt2:w.heap.size+3≤W2.heap.size:=by rw [hW2];simpa using hlt
 have p0q:W2.cell? ⟨w.heap.size,0,none⟩=some (.slice ma ml mc):=by rw [hW2];simp [go_sem,p0]
 have p0q':W2.frozen? ⟨w.heap.size,0,none⟩=false:=by rw [hW2];simp [go_sem,p0']
 have p1q:W2.cell? ⟨w.heap.size,1,none⟩=some (.slice ca cl cc):=by rw [hW2];simp [go_sem,p1]
 have p1q':W2.frozen? ⟨w.heap.size,1,none⟩=false:=by rw [hW2];simp [go_sem,p1']
 have b0q:W2.cell? ⟨w.heap.size+1,0,none⟩=some (.slice none 0 0):=by rw [hW2];simp [go_sem,b0]
 have b0q':W2.frozen? ⟨w.heap.size+1,0,none⟩=false:=by rw [hW2];simp [go_sem,b0']
 have b1q:W2.cell? ⟨w.heap.size+1,1,none⟩=some (.slice none 0 0):=by rw [hW2];simp [go_sem,b1]
 have b1q':W2.frozen? ⟨w.heap.size+1,1,none⟩=false:=by rw [hW2];simp [go_sem,b1']
 have a0q:W2.cell? ⟨w.heap.size+2,0,none⟩=some (.slice (some ⟨w.heap.size+3,0,none⟩) ml ml):=by rw [hW2];simp [go_sem,a0]
 have a0q':W2.frozen? ⟨w.heap.size+2,0,none⟩=false:=by rw [hW2];simp [go_sem,a0']
 have a1q:W2.cell? ⟨w.heap.size+2,1,none⟩=some (.slice none 0 0):=by rw [hW2];simp [go_sem,a1]
 have a1q':W2.frozen? ⟨w.heap.size+2,1,none⟩=false:=by rw [hW2];simp [go_sem,a1']
 go_wp2_with fail
 rw [←HW2.out]
 refine (HR.out _ HB2.out).mono ?_
 rintro e w3 ⟨rfl,hC3,hP3,hb3⟩
 have HN3:=hid_intro (HN2.out.below hb3)
 have HBS:=hid_intro HN2.out.blocks
 have HGL:=hid_intro HN2.out.pt.lt
 obtain ⟨hcc,hff⟩:=bcell hb3
 have HB3:=hid_intro (HB2.out.trans (hb3.mono HB2.out.size))
 have HC3:=hid_intro hC3
 have HP3:=hid_intro hP3
 replace p0q:=(hcc w.heap.size 0 (by omega)).trans p0q
 replace p1q:=(hcc w.heap.size 1 (by omega)).trans p1q
 replace b0q:=(hcc (w.heap.size+1) 0 (by omega)).trans b0q
 replace b1q:=(hcc (w.heap.size+1) 1 (by omega)).trans b1q
 replace a0q:=(hcc (w.heap.size+2) 0 (by omega)).trans a0q
 replace a1q:=(hcc (w.heap.size+2) 1 (by omega)).trans a1q
 replace b0q':=(hff (w.heap.size+1) 0 (by omega)).trans b0q'
 replace b1q':=(hff (w.heap.size+1) 1 (by omega)).trans b1q'
 replace a0q':=(hff (w.heap.size+2) 0 (by omega)).trans a0q'
 replace a1q':=(hff (w.heap.size+2) 1 (by omega)).trans a1q'
 clear hC3 hP3 hb3 hcc hff hW2 p0q' p1q' p0 p0' p1 p1' b0 b0' b1 b1' a0 a0' a1 a1'
 generalize W2.heap.size=h2 at *
 go_wp2_with fail
 refine bodyPost_ret (v:=.agg #[.slice (some ⟨w.heap.size+3,0,none⟩) ml ml,.slice (some ⟨h2,0,none⟩) cl cl]) (by simp [results,Tryz.results23,go_sem,b0q,b1q]) rfl ⟨⟨_,rfl,?_⟩,?_⟩
 ·refine HF.out (w.heap.size+3) bs h2 _ _ rfl ?_ ?_ HBS.out ?_ ?_
  ·exact ((((HN3.out.far (show _<_ by omega) _ _).far (show _<_ by omega) _ _).far (show _<_ by omega) _ _)).mono (by omega)
  ·exact HGL.out
  ·exact ((HC3.out.far (show _≠_ by omega) _ _).far (show _≠_ by omega) _ _).far (show _≠_ by omega) _ _
  ·exact ((HP3.out.far (show _≠_ by omega) _ _).far (show _≠_ by omega) _ _).far (show _≠_ by omega) _ _
 ·exact ((HB3.out.setCell (show w.heap.size≤w.heap.size+1+1 by omega) _).setCell (show w.heap.size≤w.heap.size+1 by omega) _).setCell (show w.heap.size≤w.heap.size+1 by omega) _
set_option maxHeartbeats 4000000 in
theorem szCa_any (v:Value) (c:Ca) (w:World) (hN:c.In) (hC:IsCa v c w) :
 Calls Tryz.prog 13 #[v,.int .i64 1048576] w fun e w'=>SzOut 1048576 c.Small e∧Below w.heap.size w w':=by
 obtain ⟨ma,mc,ca,cc,rfl,hM,hR⟩:=hC
 obtain ⟨ms,cs⟩:=c
 obtain ⟨s1,s2,s3,s4⟩:=hN
 simp only at *
 have HM:Hid (∀W,Below w.heap.size w W→Calls Tryz.prog 43 #[.slice ma ms.length mc,.int .i64 1048576] W fun e w'=>SzOut 1048576 (ms.length≤1048576∧∀i,i<ms.length→(ms.getD i Me.zero).Small) e∧Below W.heap.size W w'):=hid_intro (fun W hW=>szMes_any ma ms.length mc ms 1048576 W s1 (by omega) (by omega) (hM.below hW) s2)
 have HR:Hid (∀W L,0≤L→L≤1048576→Below w.heap.size w W→Calls Tryz.prog 44 #[.slice ca cs.length cc,.int .i64 L] W fun e w'=>SzOut L (cs.length≤1048576∧∀i,i<cs.length→(cs.getD i Cr.zero).a.size≤1048576) e∧Below W.heap.size W w'):=hid_intro (fun W L h0 h1 hW=>szCrs_any ca cs.length cc cs L W s3 h0 h1 (hR.below hW) s4)
 have HF:Hid (∀(h1:ms.length≤1048576∧∀i,i<ms.length→(ms.getD i Me.zero).Small) (h2:cs.length≤1048576∧∀i,i<cs.length→(cs.getD i Cr.zero).a.size≤1048576),Ca.Small ⟨ms,cs⟩):=hid_intro (fun h1 h2=>⟨h1.1,h1.2,h2.1,h2.2⟩)
 clear hM hR s1 s2 s3 s4
 have HB:Hid (Below w.heap.size w (w.alloc (.cells #[.slice ma ms.length mc,.slice ca cs.length cc] 25))):=hid_intro ((Below.refl _ _).alloc (Nat.le_refl _) _)
 generalize (ms.length≤1048576∧∀i,i<ms.length→(ms.getD i Me.zero).Small)=PM at *
 generalize (cs.length≤1048576∧∀i,i<cs.length→(cs.getD i Cr.zero).a.size≤1048576)=PC at *
 generalize Ca.Small ⟨ms,cs⟩=PS at *
 generalize ms.length=ml at *
 generalize cs.length=cl at *
 go_enter Tryz.func13,Tryz.ntmps13
 go_wp2_with fail
 refine (HM.out _ HB.out).mono ?_
 rintro e w1 ⟨⟨L,rfl,hL⟩,hb1⟩
 obtain ⟨hcc,hff⟩:=bcell hb1
 have hlt:w.heap.size<w1.heap.size:=by have:=hb1.size;simp at this;omega
 have HB1:=hid_intro (HB.out.trans (hb1.mono HB.out.size))
 have p1:w1.cell? ⟨w.heap.size,1,none⟩=some (.slice ca cl cc):=(hcc w.heap.size 1 (by simp)).trans (by simp [go_sem])
 clear hb1 hcc hff
 rcases hL with rfl|⟨l0,l1,hp⟩
 ·go_wp2_with fail
  go_ret
  exact ⟨⟨-1,rfl,.inl rfl⟩,HB1.out⟩
 ·have g1:¬L<0:=by omega
  have HP:=hid_intro hp
  have HR2:=hid_intro (HR.out w1 L l0 l1 HB1.out)
  clear hp
  go_wp2_with fail
  refine HR2.out.mono ?_
  rintro e w2 ⟨⟨L2,rfl,hL2⟩,hb2⟩
  have HB2:=hid_intro (HB1.out.trans (hb2.mono HB1.out.size))
  clear hb2
  rcases hL2 with rfl|⟨k0,k1,hp2⟩
  ·go_wp2_with fail
   go_ret
   exact ⟨⟨-1,rfl,.inl rfl⟩,HB2.out⟩
  ·have g2:¬L2<0:=by omega
   have HP2:=hid_intro hp2
   have HL2:Hid (L2≤1048576):=hid_intro (by omega)
   clear hp2 k1
   go_wp2_with fail
   go_ret
   exact ⟨⟨L2,rfl,.inr ⟨k0,HL2.out,HF.out HP.out HP2.out⟩⟩,HB2.out⟩
set_option maxHeartbeats 4000000 in
theorem eqCa_any (v v':Value) (c:Ca) (w:World) (hS:c.Small) (hI:IsCa v c w) (hJ:IsCa v' c w) :
 Calls Tryz.prog 31 #[v,v'] w fun e w'=>e=.returned (.bool true)∧Below w.heap.size w w':=by
 obtain ⟨ma,mc,ca,cc,rfl,hM,hR⟩:=hI
 obtain ⟨ma',mc',ca',cc',rfl,hM',hR'⟩:=hJ
 obtain ⟨ms,cs⟩:=c
 obtain ⟨s1,s2,s3,s4⟩:=hS
 simp only at *
 have HM:Hid (∀W,Below w.heap.size w W→Calls Tryz.prog 78 #[.slice ma ms.length mc,.slice ma' ms.length mc'] W fun e w'=>e=.returned (.bool true)∧Below W.heap.size W w'):=hid_intro (fun W hW=>eqMes_any ma ma' ms.length mc mc' ms W s1 s2 (hM.below hW) (hM'.below hW))
 have HR:Hid (∀W,Below w.heap.size w W→Calls Tryz.prog 79 #[.slice ca cs.length cc,.slice ca' cs.length cc'] W fun e w'=>e=.returned (.bool true)∧Below W.heap.size W w'):=hid_intro (fun W hW=>eqCrs_any ca ca' cs.length cc cc' cs W s3 (hR.below hW) (hR'.below hW))
 clear hM hR hM' hR' s1 s2 s3 s4
 generalize ms.length=ml at *
 generalize cs.length=cl at *
 have HB:Hid (Below w.heap.size w ((w.alloc (.cells #[.slice ma ml mc,.slice ca cl cc] 40)).alloc (.cells #[.slice ma' ml mc',.slice ca' cl cc'] 40))):=hid_intro (((Below.refl _ _).alloc (Nat.le_refl _) _).alloc (by simp) _)
 go_enter Tryz.func31,Tryz.ntmps31
 go_wp2_with fail
 refine (HM.out _ HB.out).mono ?_
 rintro e w1 ⟨rfl,hb1⟩
 obtain ⟨hcc,hff⟩:=bcell hb1
 have hlt:w.heap.size+1<w1.heap.size:=by have:=hb1.size;simp at this;omega
 have HB1:=hid_intro (HB.out.trans (hb1.mono HB.out.size))
 have p1:w1.cell? ⟨w.heap.size,1,none⟩=some (.slice ca cl cc):=(hcc w.heap.size 1 (by simp;omega)).trans (by simp [go_sem])
 have p2:w1.cell? ⟨w.heap.size+1,1,none⟩=some (.slice ca' cl cc'):=(hcc (w.heap.size+1) 1 (by simp)).trans (by simp [go_sem])
 clear hb1 hcc hff
 go_wp2_with fail
 refine (HR.out _ HB1.out).mono ?_
 rintro e w2 ⟨rfl,hb2⟩
 have HB2:=hid_intro (HB1.out.trans (hb2.mono HB1.out.size))
 clear hb2
 go_wp2_with fail
 go_ret
 exact ⟨rfl,HB2.out⟩
end CatR
namespace WordR
def seen (c:Int):Bool:=decide (33≤c∧c≤126)
def upTo (s:ByteArray) (k:Nat):Prop:=∀i (h:i<s.size),i<k→seen (s[i].toNat:Int)=true
def upToDec (s:ByteArray) (k:Nat):Decidable (upTo s k):=inferInstanceAs (Decidable (∀i (h:i<s.size),i<k→seen (s[i].toNat:Int)=true))
def printB (s:ByteArray):Bool:=@decide (upTo s s.size) (upToDec s s.size)
theorem print_no {s:ByteArray} {k:Nat} (h:k<s.size) (hb:seen (s[k].toNat:Int)=false):printB s=false:=by
 unfold printB;simp;intro hu;have:=hu k h h;simp [hb] at this
theorem print_yes {s:ByteArray} (hu:upTo s s.size):printB s=true:=by unfold printB;simpa using hu
theorem upTo_zero (s:ByteArray):upTo s 0:=fun _ _ h=>absurd h (by omega)
theorem upTo_succ {s:ByteArray} {k:Nat} (hu:upTo s k) (h:k<s.size) (hb:seen (s[k].toNat:Int)=true):upTo s (k+1):=by
 intro i hi hk
 by_cases e:i=k
 ·subst e;exact hb
 ·exact hu i hi (by omega)
theorem hid_intro' {p:Prop} (h:p):Hid p:=h
theorem byte_lt (s:ByteArray) (k:Nat) (h:k<s.size):(s[k].toNat:Int)<256:=by
 have:=s[k].toNat_lt;omega
set_option maxRecDepth 100000 in
set_option maxHeartbeats 2000000 in
theorem impl_printed (s:ByteArray) (w:World) (hs:s.size≤1048576) :
 Calls Tryz.prog 214 #[.string s] w fun e w'=>e=.returned (.bool (printB s))∧Below w.heap.size w w':=by
 have HB:∀pos,Hid (Below w.heap.size w (w.iter s pos)):=fun pos=>(Below.refl w.heap.size w).alloc (Nat.le_refl _) _
 go_enter Tryz.func214,Tryz.ntmps214
 go_wp2
 go_loopw [2] (fun _ w'=>∃pos:Nat,w'=w.iter s pos∧upTo s pos∧pos≤s.size) (fun _ w'=>s.size-w'.iterPos w.heap.size)
 case atStart=>exact ⟨0,rfl,upTo_zero s,Nat.zero_le _⟩
 case round =>
  obtain ⟨pos,rfl,hu,hle⟩:=hrel
  by_cases hp:pos<s.size
  ·have HN:=print_no (s:=s) hp
   have HY:=upTo_succ hu hp
   by_cases ha:(s[pos]'hp).toNat<128
   ·have hnx:∀ty,(Instr.next (.pointer (some ⟨w.heap.size,0,none⟩)) true ty).run Tryz.prog (w.iter s pos)=_:=fun ty=>run_next_ascii w s pos ty hp ha
    obtain ⟨c,hc⟩:∃c,c=(s[pos]'hp).toNat:=⟨_,rfl⟩
    rw [←hc] at HN HY ha hnx
    have HN':=hid_intro' HN
    have HY':=hid_intro' HY
    clear HN HY hc hu
    rcases (show ((c:Int)<33)∨(33≤(c:Int)∧(c:Int)≤126)∨(126<(c:Int)) by omega) with h|⟨h1,h2⟩|h
    ·have h':¬33≤(c:Int):=by omega
     go_wp2
     go_ret
     exact ⟨ret_bool (HN'.out (by unfold seen;simp;omega)).symm,(HB _).out⟩
    ·go_wp2
     go_roundw
     case rel=>exact ⟨pos+1,rfl,HY'.out (by unfold seen;simp;omega),by omega⟩
     case measure=>simp;omega
    ·have h':¬(c:Int)≤126:=by omega
     have h'':33≤(c:Int):=by omega
     go_wp2
     go_ret
     exact ⟨ret_bool (HN'.out (by unfold seen;simp;omega)).symm,(HB _).out⟩
   ·have hnx:∀ty,(Instr.next (.pointer (some ⟨w.heap.size,0,none⟩)) true ty).run Tryz.prog (w.iter s pos)=_:=fun ty=>run_next_any w s pos ty hp
    obtain ⟨d1,d2⟩:=decode_high s pos hp (by omega)
    have HN':=hid_intro' (HN (by unfold seen;simp;omega))
    clear HN HY hu
    generalize (Utf8.decode s pos).1=c at *
    generalize (Utf8.decode s pos).2=k at *
    have h':¬(c:Int)≤126:=by omega
    have h'':33≤(c:Int):=by omega
    go_wp2
    go_ret
    exact ⟨ret_bool HN'.out.symm,(HB _).out⟩
  ·have hnx:∀ty,(Instr.next (.pointer (some ⟨w.heap.size,0,none⟩)) true ty).run Tryz.prog (w.iter s pos)=_:=fun ty=>run_next_end w s pos ty hp
   go_wp2
   go_ret
   obtain rfl:pos=s.size:=by omega
   exact ⟨ret_bool (print_yes hu).symm,(HB _).out⟩
set_option maxHeartbeats 2000000 in
theorem spec_word (s:ByteArray) (most:Int) (w:World) (hs:s.size≤1048576) :
 Calls Tryz.prog 96 #[.string s,.int .i64 most] w fun e w'=>e=.returned (.bool (printB s&&decide ((s.size:Int)≤most)))∧w'=w:=by
 go_enter Tryz.func96,Tryz.ntmps96
 go_wp2
 go_loop [5] (fun i=>∃k:Nat,k≤s.size∧i=.int .i64 k∧upTo s k) (fun i=>s.size-(intOf i).toNat)
 case atStart=>exact ⟨0,Nat.zero_le _,rfl,upTo_zero s⟩
 case round =>
  obtain ⟨k,hk,rfl,hu⟩:=hrel
  by_cases hlt:k<s.size
  ·have HN:=hid_intro' (print_no (s:=s) hlt)
   have HY:=hid_intro' (upTo_succ hu hlt)
   clear hu
   rcases (show ((s[k].toNat:Int)<33)∨(¬(s[k].toNat:Int)<33∧(s[k].toNat:Int)≤126)∨(¬(s[k].toNat:Int)<33∧126<(s[k].toNat:Int)) by omega) with h|⟨h1,h2⟩|⟨h1,h2⟩
   ·go_wp2
    go_ret
    exact ⟨ret_bool (by rw [HN.out (by unfold seen;simp;omega)];rfl),rfl⟩
   ·have h3:¬126<(s[k].toNat:Int):=by omega
    go_wp2
    go_round
    case rel=>exact ⟨k+1,by omega,by go_num,HY.out (by unfold seen;simp;omega)⟩
    case measure=>simp [intOf];omega
   ·go_wp2
    go_ret
    exact ⟨ret_bool (by rw [HN.out (by unfold seen;simp;omega)];rfl),rfl⟩
  ·obtain rfl:k=s.size:=by omega
   have HP:=hid_intro' (print_yes hu)
   clear hu
   by_cases hm:(s.size:Int)≤most
   all_goals
    go_wp2
    go_ret
    exact ⟨ret_bool (by simp [HP.out,hm]),rfl⟩
end WordR
namespace EvtR
open WordR
theorem hid_intro {p:Prop} (h:p):Hid p:=h
def idB (s:ByteArray):Bool:=decide (1≤s.size∧s.size≤20)&&printB s
theorem impl_id (s:ByteArray) (w:World) (hs:s.size≤1048576):Calls Tryz.prog 193 #[.string s] w fun e w'=>e=.returned (.bool (idB s))∧Below w.heap.size w w':=by
 have HP:=hid_intro (fun w=>impl_printed s w hs)
 unfold idB
 generalize printB s=p at *
 rcases (show (¬1≤s.size)∨(1≤s.size∧¬s.size≤20)∨(1≤s.size∧s.size≤20) by omega) with h|⟨h1,h2⟩|⟨h1,h2⟩
 ·have h':¬(1:Int)≤(s.size:Int):=by omega
  go_enter Tryz.func193,Tryz.ntmps193
  go_wp2_with (go_at_call 156;go_in)
  go_ret
  exact ⟨ret_bool (by first|(simp;done)|(simp;omega)),Below.refl _ _⟩
 ·have h':(1:Int)≤(s.size:Int):=by omega
  have h'':¬(s.size:Int)≤20:=by omega
  go_enter Tryz.func193,Tryz.ntmps193
  go_wp2_with (go_at_call 156;go_in)
  go_ret
  exact ⟨ret_bool (by first|(simp;done)|(simp;omega)),Below.refl _ _⟩
 ·have h':(1:Int)≤(s.size:Int):=by omega
  have h'':(s.size:Int)≤20:=by omega
  go_enter Tryz.func193,Tryz.ntmps193
  go_wp2_with (first|(go_at_call 156;go_in)|(go_at_call 214;refine (HP.out _).mono ?_;rintro e w1 ⟨rfl,hb1⟩))
  go_ret
  exact ⟨ret_bool (by simp [h1,h2]),hb1⟩
theorem within_any (n low high:Int) (w:World) :
 Calls Tryz.prog 118 #[.int .i64 n,.int .i64 low,.int .i64 high] w fun e w'=>e=.returned (.bool (decide (low≤n∧n≤high)))∧w'=w:=by
 rcases (show (¬low≤n)∨(low≤n∧¬n≤high)∨(low≤n∧n≤high) by omega) with h|⟨h1,h2⟩|⟨h1,h2⟩
 all_goals
  go_enter Tryz.func118,Tryz.ntmps118
  go_wp2
  go_ret
  exact ⟨ret_bool (by first|(simp [*];done)|(simp;omega)),rfl⟩
theorem minute_any (n:Int) (w:World):Calls Tryz.prog 115 #[.int .i64 n] w fun e w'=>e=.returned (.bool (decide (0≤n∧n≤121000000)))∧w'=w:=by
 have H:=within_any n 0 121000000
 generalize decide (0≤n∧n≤121000000)=b at *
 go_enter Tryz.func115,Tryz.ntmps115
 go_wp2_with (go_at_call 118;refine (H _).mono ?_;rintro e w' ⟨rfl,rfl⟩)
 go_ret
 exact ⟨rfl,rfl⟩
theorem is_any (n low high:Int) (w:World) :
 Calls Tryz.prog 95 #[.int .i64 n,.int .i64 low,.int .i64 high] w fun e w'=>e=.returned (.bool (decide (low≤n∧n≤high)))∧w'=w:=by
 rcases (show (¬low≤n)∨(low≤n∧¬n≤high)∨(low≤n∧n≤high) by omega) with h|⟨h1,h2⟩|⟨h1,h2⟩
 all_goals
  go_enter Tryz.func95,Tryz.ntmps95
  go_wp2
  go_ret
  exact ⟨ret_bool (by first|(simp [*];done)|(simp;omega)),rfl⟩
theorem sminute_any (n:Int) (w:World):Calls Tryz.prog 97 #[.int .i64 n] w fun e w'=>e=.returned (.bool (decide (0≤n∧n≤121000000)))∧w'=w:=by
 have H:=is_any n 0 121000000
 generalize decide (0≤n∧n≤121000000)=b at *
 go_enter Tryz.func97,Tryz.ntmps97
 go_wp2_with (go_at_call 95;refine (H _).mono ?_;rintro e w' ⟨rfl,rfl⟩)
 go_ret
 exact ⟨rfl,rfl⟩
theorem empty_of (i:ByteArray) (h:i.size=0):i.toList=[]:=by
 rw [ByteArray.toList_eq]
 exact List.eq_nil_of_length_eq_zero h
theorem full_of (i:ByteArray) (h:i.size≠0):i.toList≠[]∧i.toList.isEmpty=false:=by
 have a:i.toList≠[]:=by
  rw [ByteArray.toList_eq]
  intro e
  exact h (show i.data.toList.length=0 by rw [e];rfl)
 exact ⟨a,by cases hl:i.toList with
  | nil=>exact absurd hl a
  | cons x l=>rfl⟩
end EvtR
namespace EngR
open RowG LtR StxR OwG
open NameR (nameB)
open CatR (Cr Crs CrAt crs_at)
def nmS (ss:List Cr):List ByteArray:=ss.map (·.a)
theorem nmS_len (ss:List Cr):(nmS ss).length=ss.length:=List.length_map ..
theorem nmS_get (ss:List Cr) (k:Nat) (hk:k<ss.length):(nmS ss).getD k tz=(ss.getD k Cr.zero).a:=by simp [nmS,List.getD,hk]
def minB (m:Int):Bool:=decide (0≤m∧m≤121000000)
def MOk (ss:List Cr) (k:Nat):Prop:=∀i,i<k→minB (ss.getD i Cr.zero).m=true
def srcB (ss:List Cr):Bool:=ss.all (fun x=>minB x.m)&&nsB (nmS ss)
theorem srcB_mark {ss:List Cr} {k:Nat} (hk:k<ss.length) (h:minB (ss.getD k Cr.zero).m=false):srcB ss=false:=by
 unfold srcB
 rw [Bool.and_eq_false_iff]
 refine .inl (List.all_eq_false.2 ⟨ss[k],List.getElem_mem hk,?_⟩)
 simp only [List.getD,List.getElem?_eq_getElem hk,Option.getD_some] at h
 simp [h]
theorem srcB_name {ss:List Cr} (h:nsB (nmS ss)=false):srcB ss=false:=by unfold srcB;rw [h,Bool.and_false]
theorem srcB_all {ss:List Cr} (h:MOk ss ss.length):srcB ss=nsB (nmS ss):=by
 unfold srcB
 rw [List.all_eq_true.2 (fun x hx=>?_),Bool.true_and]
 obtain ⟨i,hi,rfl⟩:=List.getElem_of_mem hx
 have:=h i hi
 simpa [List.getD,hi] using this
theorem MOk.zero (ss:List Cr):MOk ss 0:=fun i h=>absurd h (by omega)
theorem MOk.more {ss:List Cr} {k:Nat} (h:MOk ss k) (h1:minB (ss.getD k Cr.zero).m=true):MOk ss (k+1):=by
 intro i hi
 by_cases e:i=k
 ·subst e;exact h1
 ·exact h i (by omega)
set_option maxRecDepth 100000 in
set_option maxHeartbeats 4000000 in
theorem spec_srcsA (ao:Option Addr) (cap:Nat) (ss:List Cr) (w:World) (hlen:ss.length≤1048576) (hS:∀i,i<ss.length→(ss.getD i Cr.zero).a.size≤1048576) (hI:Crs ao ss.length ss w) :
 Calls Tryz.prog 52 #[.slice ao ss.length cap] w fun e w'=>e=.returned (.bool (srcB ss))∧Below w.heap.size w w':=by
 obtain ⟨ns,hns⟩:∃z,z=nmS ss:=⟨_,rfl⟩
 have hnl:ns.length=ss.length:=by rw [hns];exact nmS_len ss
 have HT0:Hid (∀k,k<ss.length→¬(lt (ahd ns k) (ns.getD k tz)=true∧nameB (ns.getD k tz)=true)→srcB ss=false):=hid_intro (fun k hk h=>srcB_name (by rw [←hns];exact nsB_false (by omega) h))
 have HT1:Hid (∀k,k<ss.length→minB (ss.getD k Cr.zero).m=false→srcB ss=false):=hid_intro (fun k hk h=>srcB_mark hk h)
 have HTE:Hid (NOk ns ss.length→MOk ss ss.length→srcB ss=decide (1≤ss.length∧ss.length≤3)):=hid_intro (fun h h1=>by
  rw [srcB_all h1,←hns]
  rw [←hnl] at h ⊢
  by_cases e:1≤ns.length∧ns.length≤3
  ·rw [decide_eq_true e];exact nsB_yes ⟨e,h⟩
  ·rw [decide_eq_false e];exact nsB_no (fun hr=>e hr.1))
 have HN:Hid (∀k,k<ss.length→(ss.getD k Cr.zero).a=ns.getD k tz):=hid_intro (fun k hk=>by rw [hns,nmS_get ss k hk])
 clear hns hnl
 have HI:=hid_intro hI
 have HS:=hid_intro hS
 obtain ⟨len,hl⟩:∃len,len=ss.length:=⟨_,rfl⟩
 rw [←hl] at hlen ⊢
 have HL:=hid_intro hl
 clear hI hS hl
 generalize srcB ss=R at *
 go_enter Tryz.func52,Tryz.ntmps52
 go_wp2_with fail
 go_loopw [3] (fun z wr=>∃k:Nat,k≤len∧z=.int .i64 k∧Hid (NOk ns k)∧Hid (MOk ss k)∧Hid (Below w.heap.size w wr)) (fun z _=>len-(intOf z).toNat)
 case atStart=>exact ⟨0,by omega,rfl,hid_intro (NOk.zero ns),hid_intro (MOk.zero ss),hid_intro (Below.refl _ _)⟩
 case round =>
  obtain ⟨k,hk,rfl,HK,HKM,HB⟩:=hrel
  by_cases hlt:k<len
  ·have hlt2:(k:Int)<(len:Int):=by omega
   obtain ⟨b,off,rfl,hbl,c0,c1⟩:=crs_at (HI.out.below HB.out) k (by have:=HL.out;omega)
   have hsz:=HS.out k (by have:=HL.out;omega)
   have HM9:=hid_intro (fun h1=>HKM.out.more (k:=k) h1)
   have HF9:=hid_intro (HT1.out k (by have:=HL.out;omega))
   rw [HN.out k (by have:=HL.out;omega)] at hsz c0
   obtain ⟨ym,hym⟩:∃z,z=(ss.getD k Cr.zero).m:=⟨_,rfl⟩
   rw [←hym] at c1 HM9 HF9
   clear hym
   have H2:=hid_intro (fun w=>EvtR.sminute_any ym w)
   have HM:=hid_intro (fun h1 h2=>HK.out.more (k:=k) h1 h2)
   have HF:=hid_intro (HT0.out k (by have:=HL.out;omega))
   rcases (show k=0∨∃j,k=j+1 from by rcases k with _|j;exact .inl rfl;exact .inr ⟨j,rfl⟩) with rfl|⟨j,hkj⟩
   ·have HA:Hid (ahd ns 0=⟨#[]⟩):=rfl
    simp only [Nat.zero_mul,Nat.add_zero] at c0 c1
    generalize ahd ns 0=a at *
    generalize ns.getD 0 tz=xi at *
    have H1:=hid_intro (fun w=>NameR.spec_any xi w hsz)
    have HP:=hid_intro (name_posN (s:=xi))
    generalize nameB xi=b1 at *
    cases b1
    ·have HR:Hid (R=false):=hid_intro (HF.out (fun h=>absurd h.2 (by simp)))
     clear HM HF HP
     go_wp2_with fail
     go_quiet ((first|(go_at_call 20;exact Calls.quiet_of_same (H1.out _))|(go_at_call 97;exact Calls.quiet_of_same (H2.out _))))
     go_wp2_with fail
     go_ret
     exact ⟨ret_bool HR.out.symm,bdN HB.out _⟩
    ·have HM2:=hid_intro (HM.out (by rw [HA.out];exact lt_empty (HP.out rfl)) rfl)
     clear HM HF HP
     generalize hq9:minB ym=b9 at *
     unfold minB at hq9
     rw [hq9] at H2
     clear hq9
     cases b9
     ·have HR:Hid (R=false):=hid_intro (HF9.out rfl)
      go_wp2_with fail
      go_quiet ((first|(go_at_call 20;exact Calls.quiet_of_same (H1.out _))|(go_at_call 97;exact Calls.quiet_of_same (H2.out _))))
      go_wp2_with fail
      go_ret
      exact ⟨ret_bool HR.out.symm,bdN HB.out _⟩
     ·have HM3:=hid_intro (HM9.out rfl)
      go_wp2_with fail
      go_quiet ((first|(go_at_call 20;exact Calls.quiet_of_same (H1.out _))|(go_at_call 97;exact Calls.quiet_of_same (H2.out _))))
      go_wp2_with fail
      go_roundw
      case rel=>exact ⟨0+1,by omega,by go_num,HM2,HM3,hid_intro (bdN HB.out _)⟩
      case measure=>simp [intOf];omega
   ·obtain ⟨b',off',hbo,hbl',d0,d1⟩:=crs_at (HI.out.below HB.out) j (by have:=HL.out;omega)
    obtain ⟨rfl,rfl⟩:b=b'∧off=off':=by simpa using hbo
    have HA:Hid (ahd ns k=ns.getD j tz):=hid_intro (by rw [hkj];rfl)
    rw [HN.out j (by have:=HL.out;omega)] at d0
    clear d1 hbl' hbo
    generalize ns.getD j tz=yi at *
    generalize ahd ns k=a at *
    generalize ns.getD k tz=xi at *
    have H1:=hid_intro (fun w=>NameR.spec_any xi w hsz)
    generalize nameB xi=b1 at *
    have hj1:IntKind.i64.wrap ((k:Int)-1)=(j:Int):=by rw [IntKind.wrap_i64];omega
    have hj2:0<k:=by omega
    have hj3:(j:Int)<(len:Int):=by omega
    clear hkj
    cases b1
    ·have HR:Hid (R=false):=hid_intro (HF.out (fun h=>absurd h.2 (by simp)))
     clear HM HF
     go_wp2_with fail
     go_quiet ((first|(go_at_call 20;exact Calls.quiet_of_same (H1.out _))|(go_at_call 97;exact Calls.quiet_of_same (H2.out _))))
     go_wp2_with fail
     go_ret
     exact ⟨ret_bool HR.out.symm,bdN HB.out _⟩
    rcases le_casesN xi yi with ⟨q1,q2⟩|⟨q1,q3,q4,q2⟩|⟨q1,q3,q4,q2⟩
    ·have HR:Hid (R=false):=hid_intro (HF.out (fun h=>by rw [HA.out,q2] at h;exact absurd h.1 (by simp)))
     have q5:Op.bytesLess yi.toList xi.toList=false:=lt_asymm q1
     clear HM HF q2
     go_wp2_with fail
     go_quiet ((first|(go_at_call 20;exact Calls.quiet_of_same (H1.out _))|(go_at_call 97;exact Calls.quiet_of_same (H2.out _))))
     go_wp2_with fail
     go_ret
     exact ⟨ret_bool HR.out.symm,bdN HB.out _⟩
    ·have HR:Hid (R=false):=hid_intro (HF.out (fun h=>by rw [HA.out,q2] at h;exact absurd h.1 (by simp)))
     obtain rfl:=toList_inj q3
     have q5:Op.bytesLess xi.toList xi.toList=false:=q1
     clear HM HF q2 q3 q4
     go_wp2_with fail
     go_quiet ((first|(go_at_call 20;exact Calls.quiet_of_same (H1.out _))|(go_at_call 97;exact Calls.quiet_of_same (H2.out _))))
     go_wp2_with fail
     go_ret
     exact ⟨ret_bool HR.out.symm,bdN HB.out _⟩
    ·have q5:Op.bytesLess yi.toList xi.toList=true:=q2
     have HM2:=hid_intro (HM.out (by rw [HA.out];exact q2) rfl)
     clear HM HF q2
     generalize hq9:minB ym=b9 at *
     unfold minB at hq9
     rw [hq9] at H2
     clear hq9
     cases b9
     ·have HR:Hid (R=false):=hid_intro (HF9.out rfl)
      go_wp2_with fail
      go_quiet ((first|(go_at_call 20;exact Calls.quiet_of_same (H1.out _))|(go_at_call 97;exact Calls.quiet_of_same (H2.out _))))
      go_wp2_with fail
      go_ret
      exact ⟨ret_bool HR.out.symm,bdN HB.out _⟩
     ·have HM3:=hid_intro (HM9.out rfl)
      go_wp2_with fail
      go_quiet ((first|(go_at_call 20;exact Calls.quiet_of_same (H1.out _))|(go_at_call 97;exact Calls.quiet_of_same (H2.out _))))
      go_wp2_with fail
      go_roundw
      case rel=>exact ⟨k+1,by omega,by go_num,HM2,HM3,hid_intro (bdN HB.out _)⟩
      case measure=>simp [intOf];omega
  ·have hlt2:¬(k:Int)<(len:Int):=by omega
   obtain rfl:k=len:=by omega
   have HR:=hid_intro (HTE.out (by rw [←HL.out];exact HK.out) (by rw [←HL.out];exact HKM.out))
   rw [←HL.out] at HR
   rcases (show k=0∨(1≤k∧k≤3)∨3<k by omega) with rfl|⟨h1,h3⟩|h3
   ·go_wp2_with (go_at_call 95;go_in)
    go_ret
    exact ⟨ret_bool (by rw [HR.out];rfl),HB.out⟩
   ·have h1':(1:Int)≤(k:Int):=by omega
    have h3':(k:Int)≤3:=by omega
    have HR2:Hid (R=true):=hid_intro (by rw [HR.out];exact decide_eq_true ⟨h1,h3⟩)
    clear HR h1 h3
    go_wp2_with (go_at_call 95;go_in)
    go_ret
    exact ⟨ret_bool HR2.out.symm,HB.out⟩
   ·have h1':(1:Int)≤(k:Int):=by omega
    have h3':¬(k:Int)≤3:=by omega
    have HR2:Hid (R=false):=hid_intro (by rw [HR.out];exact decide_eq_false (by omega))
    clear HR h3
    go_wp2_with (go_at_call 95;go_in)
    go_ret
    exact ⟨ret_bool HR2.out.symm,HB.out⟩
theorem infoSt:(Tryz.prog.info? 9).map (fun i=>(i.zero,i.size,i.bytes))=some (some (.string ⟨#[]⟩),1,16):=by kernel_rfl
theorem st_one (x:ByteArray):∀u∈[Value.string x],u.oneCell'=true:=by
 intro u hu
 simp at hu
 subst hu
 rfl
theorem nmS_take (ss:List Cr) (k:Nat) (hk:k<ss.length):(nmS ss).take (k+1)=(nmS ss).take k ++ [(ss.getD k Cr.zero).a]:=by
 have h:=RowG.take_more (z:=tz) (nmS ss) k (by rw [nmS_len];exact hk)
 rw [nmS_get ss k hk] at h
 exact h
set_option maxRecDepth 100000 in
set_option maxHeartbeats 4000000 in
theorem impl_srcs (ao:Option Addr) (cap:Nat) (ss:List Cr) (w:World) (hlen:ss.length≤1048576) (hS:∀i,i<ss.length→(ss.getD i Cr.zero).a.size≤1048576) (hI:Crs ao ss.length ss w) :
 Calls Tryz.prog 70 #[.slice ao ss.length cap] w fun e w'=>e=.returned (.bool (srcB ss))∧Below w.heap.size w w':=by
 obtain ⟨gi,gj,gz0,gz1,gz2⟩:=info_parts infoSt
 have HT1:Hid (∀k,k<ss.length→minB (ss.getD k Cr.zero).m=false→srcB ss=false):=hid_intro (fun k hk h=>srcB_mark hk h)
 have HTE:Hid (MOk ss ss.length→srcB ss=nsB (nmS ss)):=hid_intro (fun h=>srcB_all h)
 have HTK:=hid_intro (nmS_take ss)
 have HSZ:Hid (∀e∈nmS ss,e.size≤1048576):=hid_intro (fun e he=>by
  obtain ⟨x,hx,rfl⟩:=List.mem_map.1 he
  obtain ⟨i,hi,rfl⟩:=List.getElem_of_mem hx
  have:=hS i hi
  simpa [List.getD,hi] using this)
 have HI:=hid_intro hI
 obtain ⟨len,hl⟩:∃len,len=ss.length:=⟨_,rfl⟩
 rw [←hl] at hlen ⊢
 have HL:=hid_intro hl
 obtain ⟨ns,hns⟩:∃z,z=nmS ss:=⟨_,rfl⟩
 have HNL:Hid (ns.length=len):=hid_intro (by rw [hns,nmS_len,hl])
 rw [←hns] at HTE HTK HSZ
 clear hI hl hS hns
 generalize srcB ss=R at *
 go_enter Tryz.func70,Tryz.ntmps70
 go_wp2_with fail
 go_loopw [3,8] (fun x z wr=>∃(k:Nat) (sa:Option Addr) (sc:Nat),k≤len∧x=.slice sa k sc∧z=.int .i64 k∧Hid (MOk ss k)∧Hid (wr.ownsRow w.heap.size 9 1 (.slice sa k sc) k (cellsAll tcells (ns.take k)))∧Hid (Below w.heap.size w wr)) (fun _ z _=>len-(intOf z).toNat)
 case atStart=>exact ⟨0,none,0,by omega,rfl,rfl,hid_intro (MOk.zero ss),hid_intro (World.ownsRow_nil _ _ _ _),hid_intro (Below.refl _ _)⟩
 case round =>
  obtain ⟨k,sa,sc,hk,rfl,rfl,HK,HO,HB⟩:=hrel
  by_cases hlt:k<len
  ·have hlt2:(k:Int)<(len:Int):=by omega
   obtain ⟨b,off,rfl,hbl,c0,c1⟩:=crs_at (HI.out.below HB.out) k (by have:=HL.out;omega)
   have HM9:=hid_intro (fun h1=>HK.out.more (k:=k) h1)
   have HF9:=hid_intro (HT1.out k (by have:=HL.out;omega))
   have HTK9:=hid_intro (HTK.out k (by have:=HL.out;omega))
   generalize ss.getD k Cr.zero=X at *
   obtain ⟨xn,xm⟩:=X
   dsimp only at c0 c1 HM9 HF9 HTK9
   have H2:=hid_intro (fun w=>EvtR.minute_any xm w)
   have hal:Below wr.heap.size wr (wr.alloc (.cells #[.string xn,.int .i64 xm] 128)):=(Below.refl _ _).alloc (Nat.le_refl _) _
   have hal2:Below wr.heap.size wr ((wr.alloc (.cells #[.string xn,.int .i64 xm] 128)).alloc (.cells #[.string xn] 9)):=hal.alloc (by simp) _
   have HB1:=hid_intro (HB.out.trans (hal.mono HB.out.size))
   have HB2:=hid_intro (HB.out.trans (hal2.mono HB.out.size))
   have HO2:=hid_intro (RowG.own_below HO.out hal2)
   have HNW:Hid (∀j u,([.string xn]:List Value)[j]? = some u→((wr.alloc (.cells #[.string xn,.int .i64 xm] 128)).alloc (.cells #[.string xn] 9)).cell? ((⟨wr.heap.size+1,0,none⟩:Addr).add j)=some u):=hid_intro (by
    have h:=new_cells (wr.alloc (.cells #[.string xn,.int .i64 xm] 128)) [.string xn] 9
    rwa [show (wr.alloc (.cells #[.string xn,.int .i64 xm] 128)).heap.size=wr.heap.size+1 by simp] at h)
   have hbase:w.heap.size≤((wr.alloc (.cells #[.string xn,.int .i64 xm] 128)).alloc (.cells #[.string xn] 9)).heap.size:=HB2.out.size
   have HBS:=hid_intro hbase
   have sz1:k+1≤maxLen:=by unfold maxLen;omega
   have sz2:(k+1)*16≤140737488355328:=by omega
   clear hal hal2 hbase HB HO
   generalize hq9:minB xm=b9 at *
   unfold minB at hq9
   rw [hq9] at H2
   clear hq9
   cases b9
   ·have HR:Hid (R=false):=hid_intro (HF9.out rfl)
    go_wp2_with (go_at_call 115;refine (H2.out _).mono ?_;rintro e w' ⟨rfl,rfl⟩)
    go_ret
    exact ⟨ret_bool HR.out.symm,HB1.out⟩
   ·have HM3:=hid_intro (HM9.out rfl)
    go_wp2_with (first|(go_at_call 115;refine (H2.out _).mono ?_;rintro e w' ⟨rfl,rfl⟩)|(at_builtin;refine wpList_append_own _ rfl _ _ 92 rfl w.heap.size 9 gi (.string ⟨#[]⟩) 1 16 Tryz.underlying92 gj gz0 gz1 gz2 rfl (by decide) _ _ _ rfl HO2.out ⟨wr.heap.size+1,0,none⟩ 1 1 [.string xn] rfl rfl HNW.out (st_one xn) sz1 sz2 HBS.out ?_))
    intro v9 w9 hown hgrow hne
    have HB9:=hid_intro (HB2.out.grown hgrow HB2.out.size (fun _ e=>(HO2.out.lt _ e).1))
    have hS9:w9.ownsRow w.heap.size 9 1 v9 (k+1) (cellsAll tcells (ns.take (k+1))):=by
     rw [HTK9.out,cellsAll_snoc]
     exact hown
    obtain ⟨sb,sq,rfl⟩:=own_form hown
    have HS9:=hid_intro hS9
    clear hown hgrow hne hS9 HB1 HB2 HO2 HNW HBS
    go_wp2_with fail
    go_roundw
    case rel=>exact ⟨k+1,some ⟨sb,0,none⟩,sq,by omega,rfl,by go_num,HM3,HS9,HB9⟩
    case measure=>simp [intOf];omega
  ·have hlt2:¬(k:Int)<(len:Int):=by omega
   obtain rfl:k=len:=by omega
   have HR:Hid (R=nsB ns):=hid_intro (HTE.out (by rw [←HL.out];exact HK.out))
   have HTA:Hid (ns.take k=ns):=hid_intro (by rw [←HNL.out];exact List.take_length)
   rw [HTA.out] at HO
   obtain ⟨ao',cap',e1,hm⟩:=RowG.own_made (cells:=tcells) (z:=tz) (fun _=>rfl) (xs:=ns) (by have:=HO.out;rwa [←HNL.out] at this)
   simp only [Value.slice.injEq] at e1
   obtain ⟨rfl,_,rfl⟩:=e1
   have H5:=hid_intro (impl_names sa sc ns wr (by have:=HNL.out;omega) HSZ.out hm.rws)
   rw [HNL.out,←HR.out] at H5
   clear hm HO
   go_wp2_with (go_at_call 116;refine H5.out.mono ?_;rintro e w' ⟨rfl,hb⟩)
   go_ret
   exact ⟨rfl,HB.out.trans (hb.mono HB.out.size)⟩
end EngR
end Go.Proofs.YtmalfhhkjdkadaaGreatDoor
