/-
  The law's own helpers over a catalog: its size, its copy, two held against each other.
  Catalogs and windows that a copy has made are kept by stores at blocks from a base on.
  What right entries are: both sides say the same.
  What a list of entries that the law does not pass by is like.
  The law's own marks in a window's lists: written, and found again.
  The conditions stand in what each theorem says.
-/
import Derived.Deep.RegionHeld3
import Derived.BigQuiet
import Derived.Deep.QuietTactic
import Derived.Test.YtnceeaccbcfopaaGreatDoorT10
set_option maxRecDepth 100000
set_option maxHeartbeats 16000000
namespace Go.Proofs.YtnceeaccbcfopaaGreatDoor
open Go.ChangeShapes Go.WideShapes Go.ChangeAt Go.RowKit
set_option linter.unusedVariables false
namespace CatR
open EvtR (Pt cell_put cell_far)
structure Ca.Small (c:Ca):Prop where
 ml:c.ms.length≤1048576
 ms:∀i,i<c.ms.length→(c.ms.getD i Me.zero).Small
 cl:c.cs.length≤1048576
 cs:∀i,i<c.cs.length→(c.cs.getD i Cr.zero).a.size≤1048576
structure Ca.In (c:Ca):Prop where
 ml:c.ms.length≤maxLen
 ms:∀i,i<c.ms.length→(c.ms.getD i Me.zero).In
 cl:c.cs.length≤maxLen
 cs:∀i,i<c.cs.length→(c.cs.getD i Cr.zero).a.size≤maxLen
theorem NewMes.far {base g:Nat} {bs:Nat→Nat} {n k:Nat} {ms:List Me} {w:World} (h:NewMes base g bs n k ms w) {b:Nat} (hb:b<base) (o:Nat) (v:Value):NewMes base g bs n k ms (w.setCell ⟨b,o,none⟩ v):=by
 have hg:=h.lo
 refine ⟨h.lo,h.pt.far (by omega) o v,h.inc,fun i hi=>?_⟩
 have hi2:=(h.inc i hi).1
 obtain ⟨⟨h0,h1,h2,h3,h4,h5⟩,h6,h7⟩:=h.cel i hi
 have e:=far_block w b o v g (by omega)
 have f:=fun x=>World.cell?_of_block (a:=⟨g,x,none⟩) e
 exact ⟨⟨(f _).trans h0,(f _).trans h1,(f _).trans h2,(f _).trans h3,(f _).trans h4,(f _).trans h5⟩,h6.far (by omega) o v,h7.far (by omega) o v⟩
theorem NewMes.mono {base base' g:Nat} {bs:Nat→Nat} {n k:Nat} {ms:List Me} {w:World} (h:NewMes base g bs n k ms w) (hb:base'≤base):NewMes base' g bs n k ms w:=⟨by have:=h.lo;omega,h.pt,h.inc,h.cel⟩
theorem Crs.far {b0 off len:Nat} {ts:List Cr} {w:World} (h:Crs (some ⟨b0,off,none⟩) len ts w) {b:Nat} (hb:b≠b0) (o:Nat) (v:Value):Crs (some ⟨b0,off,none⟩) len ts (w.setCell ⟨b,o,none⟩ v):=by
 refine ⟨h.1,?_⟩
 rcases h.2 with h0|⟨b1,off1,e,hlt,hc⟩
 ·exact .inl h0
 ·obtain ⟨rfl,rfl⟩:b0=b1∧off=off1:=by simpa using e
  have e:=far_block w b o v b0 hb
  exact .inr ⟨b0,off,rfl,by simpa using hlt,fun j hj=>⟨(World.cell?_of_block (a:=⟨b0,_,none⟩) e).trans (hc j hj).1,(World.cell?_of_block (a:=⟨b0,_,none⟩) e).trans (hc j hj).2⟩⟩
def NewCa (base:Nat) (v:Value) (c:Ca) (w:World):Prop:=∃g bs h,v=.agg #[.slice (some ⟨g,0,none⟩) c.ms.length c.ms.length,.slice (some ⟨h,0,none⟩) c.cs.length c.cs.length]∧NewMes base g bs c.ms.length c.ms.length c.ms w∧g<h∧(∀i,i<c.ms.length→bs i<h)∧Crs (some ⟨h,0,none⟩) c.cs.length c.cs w∧Pt h (c.cs.length*2) w
theorem NewCa.is {base:Nat} {v:Value} {c:Ca} {w:World} (h:NewCa base v c w):IsCa v c w:=by
 obtain ⟨g,bs,h0,h1,h2,h3,h4,h5,h6⟩:=h
 exact ⟨_,_,_,_,h1,h2.is rfl,h5⟩
theorem NewCa.below {base:Nat} {v:Value} {c:Ca} {w w':World} (h:NewCa base v c w) (hb:Below w.heap.size w w'):NewCa base v c w':=by
 obtain ⟨g,bs,h0,h1,h2,h3,h4,h5,h6⟩:=h
 exact ⟨g,bs,h0,h1,h2.below hb,h3,h4,h5.below hb,h6.below hb⟩
theorem toCa_any (v:Value) (c:Ca) (w:World) (hS:c.Small) (hC:IsCa v c w) :
 Calls Tryz.prog 22 #[v] w fun e w'=>(∃v',e=.returned v'∧NewCa w.heap.size v' c w')∧Below w.heap.size w w':=by
 obtain ⟨ma,mc,ca,cc,rfl,hM,hR⟩:=hC
 obtain ⟨ms,cs⟩:=c
 obtain ⟨s1,s2,s3,s4⟩:=hS
 simp only at *
 have HM:Hid (∀W,Below w.heap.size w W→Calls Tryz.prog 64 #[.slice ma ms.length mc] W fun e w'=>e=.returned (.slice (some ⟨W.heap.size,0,none⟩) ms.length ms.length)∧(∃bs,NewMes W.heap.size W.heap.size bs ms.length ms.length ms w')∧Below W.heap.size W w'):=H_ (fun W hW=>toMes_any ma ms.length mc ms W s1 s2 (hM.below hW))
 have HR:Hid (∀W,Below w.heap.size w W→Calls Tryz.prog 65 #[.slice ca cs.length cc] W fun e w'=>e=.returned (.slice (some ⟨W.heap.size,0,none⟩) cs.length cs.length)∧Crs (some ⟨W.heap.size,0,none⟩) cs.length cs w'∧Pt W.heap.size (cs.length*2) w'∧Below W.heap.size W w'):=H_ (fun W hW=>toCrs_any ca cs.length cc cs W s3 (hR.below hW))
 have HF:Hid (∀g bs h v w',v=.agg #[.slice (some ⟨g,0,none⟩) ms.length ms.length,.slice (some ⟨h,0,none⟩) cs.length cs.length]→NewMes w.heap.size g bs ms.length ms.length ms w'→g<h→(∀i,i<ms.length→bs i<h)→Crs (some ⟨h,0,none⟩) cs.length cs w'→Pt h (cs.length*2) w'→NewCa w.heap.size v ⟨ms,cs⟩ w'):=H_ (fun g bs h v w' h1 h2 h3 h4 h5 h6=>⟨g,bs,h,h1,h2,h3,h4,h5,h6⟩)
 clear hM hR s1 s2 s3 s4
 generalize ms.length=ml at *
 generalize cs.length=cl at *
 obtain ⟨W,hW⟩:∃W,W=(((w.alloc (.cells #[.slice ma ml mc,.slice ca cl cc] 25)).alloc (.cells #[.slice none 0 0,.slice none 0 0] 36)).alloc (.cells #[.slice none 0 0,.slice none 0 0] 36)):=⟨_,rfl⟩
 have HW:=H_ hW
 have HBB:Hid (Below w.heap.size w W):=H_ (by rw [hW];exact ((al_ _ _).alloc (by simp) _).alloc (by simp;omega) _)
 have hWs:W.heap.size=w.heap.size+3:=by rw [hW];simp
 have p0:W.cell? ⟨w.heap.size,0,none⟩=some (.slice ma ml mc):=by rw [hW];simp [go_sem]
 have p0':W.frozen? ⟨w.heap.size,0,none⟩=false:=by rw [hW];simp [go_sem]
 have p1:W.cell? ⟨w.heap.size,1,none⟩=some (.slice ca cl cc):=by rw [hW];simp [go_sem]
 have p1':W.frozen? ⟨w.heap.size,1,none⟩=false:=by rw [hW];simp [go_sem]
 have b0:W.cell? ⟨w.heap.size+1,0,none⟩=some (.slice none 0 0):=by rw [hW];simp [go_sem]
 have b0':W.frozen? ⟨w.heap.size+1,0,none⟩=false:=by rw [hW];simp [go_sem]
 have b1:W.cell? ⟨w.heap.size+1,1,none⟩=some (.slice none 0 0):=by rw [hW];simp [go_sem]
 have b1':W.frozen? ⟨w.heap.size+1,1,none⟩=false:=by rw [hW];simp [go_sem]
 have a0:W.cell? ⟨w.heap.size+2,0,none⟩=some (.slice none 0 0):=by rw [hW];simp [go_sem]
 have a0':W.frozen? ⟨w.heap.size+2,0,none⟩=false:=by rw [hW];simp [go_sem]
 have a1:W.cell? ⟨w.heap.size+2,1,none⟩=some (.slice none 0 0):=by rw [hW];simp [go_sem]
 have a1':W.frozen? ⟨w.heap.size+2,1,none⟩=false:=by rw [hW];simp [go_sem]
 clear hW
 go_enter Tryz.func22,Tryz.ntmps22
 go_wp2_with fail
 rw [←HW.out]
 refine (HM.out _ HBB.out).mono ?_
 rintro e w1 ⟨rfl,⟨bs,hN1⟩,hb1⟩
 rw [hWs] at hN1
 obtain ⟨hcc,hff⟩:=bcell hb1
 rw [hWs] at hcc hff
 have hlt:w.heap.size+3≤w1.heap.size:=by have:=hb1.size;omega
 have HB1:=HT_ HBB hb1
 have HN1:=H_ hN1
 replace p0:=(hcc w.heap.size 0 (by omega)).trans p0
 replace p0':=(hff w.heap.size 0 (by omega)).trans p0'
 replace p1:=(hcc w.heap.size 1 (by omega)).trans p1
 replace p1':=(hff w.heap.size 1 (by omega)).trans p1'
 replace b0:=(hcc (w.heap.size+1) 0 (by omega)).trans b0
 replace b0':=(hff (w.heap.size+1) 0 (by omega)).trans b0'
 replace b1:=(hcc (w.heap.size+1) 1 (by omega)).trans b1
 replace b1':=(hff (w.heap.size+1) 1 (by omega)).trans b1'
 replace a0:=(hcc (w.heap.size+2) 0 (by omega)).trans a0
 replace a0':=(hff (w.heap.size+2) 0 (by omega)).trans a0'
 replace a1:=(hcc (w.heap.size+2) 1 (by omega)).trans a1
 replace a1':=(hff (w.heap.size+2) 1 (by omega)).trans a1'
 clear hN1 hb1 hcc hff
 obtain ⟨W2,hW2⟩:∃W2,W2=w1.setCell ⟨w.heap.size+1+1,0,none⟩ (.slice (some ⟨w.heap.size+3,0,none⟩) ml ml):=⟨_,rfl⟩
 have HW2:=H_ hW2
 have HB2:Hid (Below w.heap.size w W2):=H_ (by rw [hW2];exact HB1.out.setCell (show w.heap.size≤w.heap.size+1+1 by omega) _)
 have HN2:Hid (NewMes (w.heap.size+3) (w.heap.size+3) bs ml ml ms W2):=H_ (by rw [hW2];exact HN1.out.far (by omega) _ _)
 have hlt2:w.heap.size+3≤W2.heap.size:=by rw [hW2];simpa using hlt
 have p0q:W2.cell? ⟨w.heap.size,0,none⟩=some (.slice ma ml mc):=by rw [hW2];simp [go_sem,p0]
 have p0q':W2.frozen? ⟨w.heap.size,0,none⟩=false:=by rw [hW2];simp [go_sem,p0']
 have p1q:W2.cell? ⟨w.heap.size,1,none⟩=some (.slice ca cl cc):=by rw [hW2];simp [go_sem,p1]
 have p1q':W2.frozen? ⟨w.heap.size,1,none⟩=false:=by rw [hW2];simp [go_sem,p1']
 have b0q:W2.cell? ⟨w.heap.size+1,0,none⟩=some (.slice none 0 0):=by rw [hW2];simp [go_sem,b0]
 have b0q':W2.frozen? ⟨w.heap.size+1,0,none⟩=false:=by rw [hW2];simp [go_sem,b0']
 have b1q:W2.cell? ⟨w.heap.size+1,1,none⟩=some (.slice none 0 0):=by rw [hW2];simp [go_sem,b1]
 have b1q':W2.frozen? ⟨w.heap.size+1,1,none⟩=false:=by rw [hW2];simp [go_sem,b1']
 have a0q:W2.cell? ⟨w.heap.size+2,0,none⟩=some (.slice (some ⟨w.heap.size+3,0,none⟩) ml ml):=by rw [hW2];simp [go_sem,a0]
 have a0q':W2.frozen? ⟨w.heap.size+2,0,none⟩=false:=by rw [hW2];simp [go_sem,a0']
 have a1q:W2.cell? ⟨w.heap.size+2,1,none⟩=some (.slice none 0 0):=by rw [hW2];simp [go_sem,a1]
 have a1q':W2.frozen? ⟨w.heap.size+2,1,none⟩=false:=by rw [hW2];simp [go_sem,a1']
 go_wp2_with fail
 rw [←HW2.out]
 refine (HR.out _ HB2.out).mono ?_
 rintro e w3 ⟨rfl,hC3,hP3,hb3⟩
 have HN3:=H_ (HN2.out.below hb3)
 have HBS:=H_ HN2.out.blocks
 have HGL:=H_ HN2.out.pt.lt
 obtain ⟨hcc,hff⟩:=bcell hb3
 have HB3:=HT_ HB2 hb3
 have HC3:=H_ hC3
 have HP3:=H_ hP3
 replace p0q:=(hcc w.heap.size 0 (by omega)).trans p0q
 replace p1q:=(hcc w.heap.size 1 (by omega)).trans p1q
 replace b0q:=(hcc (w.heap.size+1) 0 (by omega)).trans b0q
 replace b1q:=(hcc (w.heap.size+1) 1 (by omega)).trans b1q
 replace a0q:=(hcc (w.heap.size+2) 0 (by omega)).trans a0q
 replace a1q:=(hcc (w.heap.size+2) 1 (by omega)).trans a1q
 replace b0q':=(hff (w.heap.size+1) 0 (by omega)).trans b0q'
 replace b1q':=(hff (w.heap.size+1) 1 (by omega)).trans b1q'
 replace a0q':=(hff (w.heap.size+2) 0 (by omega)).trans a0q'
 replace a1q':=(hff (w.heap.size+2) 1 (by omega)).trans a1q'
 clear hC3 hP3 hb3 hcc hff hW2 p0q' p1q' p0 p0' p1 p1' b0 b0' b1 b1' a0 a0' a1 a1'
 generalize W2.heap.size=h2 at *
 go_wp2_with fail
 refine bodyPost_ret (v:=.agg #[.slice (some ⟨w.heap.size+3,0,none⟩) ml ml,.slice (some ⟨h2,0,none⟩) cl cl]) (by simp [results,Tryz.results22,go_sem,b0q,b1q]) rfl ⟨⟨_,rfl,?_⟩,?_⟩
 ·refine HF.out (w.heap.size+3) bs h2 _ _ rfl ?_ ?_ HBS.out ?_ ?_
  ·exact ((((HN3.out.far (show _<_ by omega) _ _).far (show _<_ by omega) _ _).far (show _<_ by omega) _ _)).mono (by omega)
  ·exact HGL.out
  ·exact ((HC3.out.far (show _≠_ by omega) _ _).far (show _≠_ by omega) _ _).far (show _≠_ by omega) _ _
  ·exact ((HP3.out.far (show _≠_ by omega) _ _).far (show _≠_ by omega) _ _).far (show _≠_ by omega) _ _
 ·exact ((HB3.out.setCell (show w.heap.size≤w.heap.size+1+1 by omega) _).setCell (show w.heap.size≤w.heap.size+1 by omega) _).setCell (show w.heap.size≤w.heap.size+1 by omega) _
theorem szCa_any (v:Value) (c:Ca) (w:World) (hN:c.In) (hC:IsCa v c w) :
 Calls Tryz.prog 13 #[v,.int .i64 1048576] w fun e w'=>SzOut 1048576 c.Small e∧Below w.heap.size w w':=by
 obtain ⟨ma,mc,ca,cc,rfl,hM,hR⟩:=hC
 obtain ⟨ms,cs⟩:=c
 obtain ⟨s1,s2,s3,s4⟩:=hN
 simp only at *
 have HM:Hid (∀W,Below w.heap.size w W→Calls Tryz.prog 45 #[.slice ma ms.length mc,.int .i64 1048576] W fun e w'=>SzOut 1048576 (ms.length≤1048576∧∀i,i<ms.length→(ms.getD i Me.zero).Small) e∧Below W.heap.size W w'):=H_ (fun W hW=>szMes_any ma ms.length mc ms 1048576 W s1 (by omega) (by omega) (hM.below hW) s2)
 have HR:Hid (∀W L,0≤L→L≤1048576→Below w.heap.size w W→Calls Tryz.prog 46 #[.slice ca cs.length cc,.int .i64 L] W fun e w'=>SzOut L (cs.length≤1048576∧∀i,i<cs.length→(cs.getD i Cr.zero).a.size≤1048576) e∧Below W.heap.size W w'):=H_ (fun W L h0 h1 hW=>szCrs_any ca cs.length cc cs L W s3 h0 h1 (hR.below hW) s4)
 have HF:Hid (∀(h1:ms.length≤1048576∧∀i,i<ms.length→(ms.getD i Me.zero).Small) (h2:cs.length≤1048576∧∀i,i<cs.length→(cs.getD i Cr.zero).a.size≤1048576),Ca.Small ⟨ms,cs⟩):=H_ (fun h1 h2=>⟨h1.1,h1.2,h2.1,h2.2⟩)
 clear hM hR s1 s2 s3 s4
 have HB:Hid (Below w.heap.size w (w.alloc (.cells #[.slice ma ms.length mc,.slice ca cs.length cc] 25))):=H_ (al_ _ _)
 generalize (ms.length≤1048576∧∀i,i<ms.length→(ms.getD i Me.zero).Small)=PM at *
 generalize (cs.length≤1048576∧∀i,i<cs.length→(cs.getD i Cr.zero).a.size≤1048576)=PC at *
 generalize Ca.Small ⟨ms,cs⟩=PS at *
 generalize ms.length=ml at *
 generalize cs.length=cl at *
 go_enter Tryz.func13,Tryz.ntmps13
 go_wp2_with fail
 refine (HM.out _ HB.out).mono ?_
 rintro e w1 ⟨⟨L,rfl,hL⟩,hb1⟩
 obtain ⟨hcc,hff⟩:=bcell hb1
 have hlt:w.heap.size<w1.heap.size:=by have:=hb1.size;simp at this;omega
 have HB1:=HT_ HB hb1
 have p1:w1.cell? ⟨w.heap.size,1,none⟩=some (.slice ca cl cc):=(hcc w.heap.size 1 (by simp)).trans (by simp [go_sem])
 clear hb1 hcc hff
 rcases hL with rfl|⟨l0,l1,hp⟩
 ·go_wp2_with fail
  go_ret
  exact ⟨⟨-1,rfl,.inl rfl⟩,HB1.out⟩
 ·have g1:¬L<0:=by omega
  have HP:=H_ hp
  have HR2:=H_ (HR.out w1 L l0 l1 HB1.out)
  clear hp
  go_wp2_with fail
  refine HR2.out.mono ?_
  rintro e w2 ⟨⟨L2,rfl,hL2⟩,hb2⟩
  have HB2:=HT_ HB1 hb2
  clear hb2
  rcases hL2 with rfl|⟨k0,k1,hp2⟩
  ·go_wp2_with fail
   go_ret
   exact ⟨⟨-1,rfl,.inl rfl⟩,HB2.out⟩
  ·have g2:¬L2<0:=by omega
   have HP2:=H_ hp2
   have HL2:Hid (L2≤1048576):=H_ (by omega)
   clear hp2 k1
   go_wp2_with fail
   go_ret
   exact ⟨⟨L2,rfl,.inr ⟨k0,HL2.out,HF.out HP.out HP2.out⟩⟩,HB2.out⟩
theorem eqCa_any (v v':Value) (c:Ca) (w:World) (hS:c.Small) (hI:IsCa v c w) (hJ:IsCa v' c w) :
 Calls Tryz.prog 34 #[v,v'] w fun e w'=>e=.returned (.bool true)∧Below w.heap.size w w':=by
 obtain ⟨ma,mc,ca,cc,rfl,hM,hR⟩:=hI
 obtain ⟨ma',mc',ca',cc',rfl,hM',hR'⟩:=hJ
 obtain ⟨ms,cs⟩:=c
 obtain ⟨s1,s2,s3,s4⟩:=hS
 simp only at *
 have HM:Hid (∀W,Below w.heap.size w W→Calls Tryz.prog 82 #[.slice ma ms.length mc,.slice ma' ms.length mc'] W fun e w'=>e=.returned (.bool true)∧Below W.heap.size W w'):=H_ (fun W hW=>eqMes_any ma ma' ms.length mc mc' ms W s1 s2 (hM.below hW) (hM'.below hW))
 have HR:Hid (∀W,Below w.heap.size w W→Calls Tryz.prog 83 #[.slice ca cs.length cc,.slice ca' cs.length cc'] W fun e w'=>e=.returned (.bool true)∧Below W.heap.size W w'):=H_ (fun W hW=>eqCrs_any ca ca' cs.length cc cc' cs W s3 (hR.below hW) (hR'.below hW))
 clear hM hR hM' hR' s1 s2 s3 s4
 generalize ms.length=ml at *
 generalize cs.length=cl at *
 have HB:Hid (Below w.heap.size w ((w.alloc (.cells #[.slice ma ml mc,.slice ca cl cc] 36)).alloc (.cells #[.slice ma' ml mc',.slice ca' cl cc'] 36))):=H_ ((al_ _ _).alloc (by simp) _)
 go_enter Tryz.func34,Tryz.ntmps34
 go_wp2_with fail
 refine (HM.out _ HB.out).mono ?_
 rintro e w1 ⟨rfl,hb1⟩
 obtain ⟨hcc,hff⟩:=bcell hb1
 have hlt:w.heap.size+1<w1.heap.size:=by have:=hb1.size;simp at this;omega
 have HB1:=HT_ HB hb1
 have p1:w1.cell? ⟨w.heap.size,1,none⟩=some (.slice ca cl cc):=(hcc w.heap.size 1 (by simp;omega)).trans (by simp [go_sem])
 have p2:w1.cell? ⟨w.heap.size+1,1,none⟩=some (.slice ca' cl cc'):=(hcc (w.heap.size+1) 1 (by simp)).trans (by simp [go_sem])
 clear hb1 hcc hff
 go_wp2_with fail
 refine (HR.out _ HB1.out).mono ?_
 rintro e w2 ⟨rfl,hb2⟩
 have HB2:=HT_ HB1 hb2
 clear hb2
 go_wp2_with fail
 go_ret
 exact ⟨rfl,HB2.out⟩
end CatR
namespace EngR
open CatR ChG
open EvtR (Pt)
theorem ti_kq {base b o:Nat} {t:Ti} {w w':World} (h:TiAt w b o t) (hk:Kq base w w') (hb:base≤b) (hl:b<w.heap.size):TiAt w' b o t:=⟨(hk.cell hb hl _).trans h.1,(hk.cell hb hl _).trans h.2⟩
theorem tis_kq {base b off len:Nat} {ts:List Ti} {w w':World} (h:Tis (some ⟨b,off,none⟩) len ts w) (hk:Kq base w w') (hb:base≤b):Tis (some ⟨b,off,none⟩) len ts w':=by
 refine ⟨h.1,?_⟩
 rcases h.2 with h0|⟨b',off',e,hl,hc⟩
 ·exact .inl h0
 ·cases e
  exact .inr ⟨b,off,rfl,Nat.lt_of_lt_of_le hl hk.size,fun j hj=>ti_kq (hc j hj) hk hb hl⟩
theorem crs_kq {base b off len:Nat} {ts:List Cr} {w w':World} (h:Crs (some ⟨b,off,none⟩) len ts w) (hk:Kq base w w') (hb:base≤b):Crs (some ⟨b,off,none⟩) len ts w':=by
 refine ⟨h.1,?_⟩
 rcases h.2 with h0|⟨b',off',e,hl,hc⟩
 ·exact .inl h0
 ·cases e
  exact .inr ⟨b,off,rfl,Nat.lt_of_lt_of_le hl hk.size,fun j hj=>⟨(hk.cell hb hl _).trans (hc j hj).1,(hk.cell hb hl _).trans (hc j hj).2⟩⟩
theorem newca_kq {base:Nat} {v:Value} {c:Ca} {w w':World} (h:NewCa base v c w) (hk:Kq base w w'):NewCa base v c w':=by
 obtain ⟨g,bs,h0,h1,h2,h3,h4,h5,h6⟩:=h
 have hg:=h2.lo
 refine ⟨g,bs,h0,h1,⟨h2.lo,hk.pt h2.pt hg,h2.inc,fun i hi=>?_⟩,h3,h4,crs_kq h5 hk (by omega),hk.pt h6 (by omega)⟩
 obtain ⟨⟨c0,c1,c2,c3,c4,c5⟩,c6,c7⟩:=h2.cel i hi
 have hb:=(h2.inc i hi).1
 have f:=fun o=>hk.cell hg h2.pt.lt o
 exact ⟨⟨(f _).trans c0,(f _).trans c1,(f _).trans c2,(f _).trans c3,(f _).trans c4,(f _).trans c5⟩,tis_kq c6 hk (by omega),hk.pt c7 (by omega)⟩
theorem inn_kq {base g t t':Nat} {a:Option Addr} {n m:Nat} {w w':World} (h:WinR.Inn g t a n m w) (hk:Kq base w w') (hb:base≤g) (ht:t≤t'):WinR.Inn g t' a n m w':=h.imp id (fun ⟨g',e1,e2,e3,e4⟩=>⟨g',e1,e2,by omega,hk.pt e4 (by omega)⟩)
theorem wx_kq {base g t k:Nat} {ws:List WinR.Wd} {w w':World} (h:WinR.WX g t k ws w) (hg:g<w.heap.size) (hk:Kq base w w') (hb:base≤g):WinR.WX g t k ws w':=fun j hj=>by
 obtain ⟨ta,tc,ha,hc,c6,c7,n1,n2⟩:=h j hj
 exact ⟨ta,tc,ha,hc,(hk.cell hb hg _).trans c6,(hk.cell hb hg _).trans c7,inn_kq n1 hk hb (Nat.le_refl _),inn_kq n2 hk hb (Nat.le_refl _)⟩
theorem ww_kq {base g k:Nat} {ws:List WinR.Wd} {w w':World} (h:WinR.WW g k ws w) (hg:g<w.heap.size) (hk:Kq base w w') (hb:base≤g):WinR.WW g k ws w':=by
 intro j hj
 obtain ⟨ta,tc,ha,hc,c0,c1,c2,c3,c4,c5,c6,c7,hT,hH,n1,n2⟩:=h j hj
 have f:=fun o=>hk.cell hb hg o
 exact ⟨ta,tc,ha,hc,(f _).trans c0,(f _).trans c1,(f _).trans c2,(f _).trans c3,(f _).trans c4,(f _).trans c5,(f _).trans c6,(f _).trans c7,rws_kq hT hk (n1.imp id (fun ⟨g',e1,e2,_⟩ b off e=>by rw [e1] at e;simp at e;omega)),rws_kq hH hk (n2.imp id (fun ⟨g',e1,e2,_⟩ b off e=>by rw [e1] at e;simp at e;omega)),inn_kq n1 hk hb hk.size,inn_kq n2 hk hb hk.size⟩
end EngR
namespace SeenR
open RowG WordR LtR
open EvtR (idB within_any minute_any is_any sminute_any impl_id empty_of full_of)
def eOk (x:N):Bool:=idB x.i&&(decide (0≤x.n∧x.n≤121000000)&&decide (0≤x.s∧x.s≤4294967295))
def ahd (es:List N):Nat→ByteArray
 | 0=>⟨#[]⟩
 | k+1=>(es.getD k N.zero).i
def SOk (es:List N) (k:Nat):Prop:=∀i,i<k→lt (ahd es i) (es.getD i N.zero).i=true∧eOk (es.getD i N.zero)=true
def SRight (es:List N):Prop:=es.length≤40∧SOk es es.length
def SOkDec (es:List N) (k:Nat):Decidable (SOk es k):=inferInstanceAs (Decidable (∀i,i<k→lt (ahd es i) (es.getD i N.zero).i=true∧eOk (es.getD i N.zero)=true))
def SRightDec (es:List N):Decidable (SRight es) :=
 haveI:=SOkDec es es.length
 inferInstanceAs (Decidable (es.length≤40∧SOk es es.length))
def sB (es:List N):Bool:=@decide (SRight es) (SRightDec es)
theorem sB_no {es:List N} (h:¬SRight es):sB es=false:=by unfold sB;exact @decide_eq_false _ (SRightDec es) h
theorem sB_yes {es:List N} (h:SRight es):sB es=true:=by unfold sB;exact @decide_eq_true _ (SRightDec es) h
theorem sB_iff {es:List N}:sB es=true↔SRight es:=by unfold sB;exact @decide_eq_true_iff _ (SRightDec es)
theorem SOk.zero (es:List N):SOk es 0:=fun i h=>absurd h (by omega)
theorem SOk.more {es:List N} {k:Nat} (h:SOk es k) (h1:lt (ahd es k) (es.getD k N.zero).i=true) (h2:eOk (es.getD k N.zero)=true):SOk es (k+1):=by
 intro i hi
 by_cases e:i=k
 ·subst e;exact ⟨h1,h2⟩
 ·exact h i (by omega)
theorem sB_false {es:List N} {k:Nat} (hk:k<es.length) (h:¬(lt (ahd es k) (es.getD k N.zero).i=true∧eOk (es.getD k N.zero)=true)):sB es=false:=sB_no (fun hr=>h (hr.2 k hk))
theorem sB_long {es:List N} (h:40<es.length):sB es=false:=sB_no (fun hr=>by have:=hr.1;omega)
theorem id_pos {s:ByteArray} (h:idB s=true):1≤s.size:=by
 unfold idB at h
 simp at h
 exact h.1.1
theorem three (b1 b2 b3:Bool):(b1=false)∨(b1=true∧b2=false)∨(b1=true∧b2=true∧b3=false)∨(b1=true∧b2=true∧b3=true):=by
 cases b1<;>cases b2<;>cases b3<;>simp
theorem impl_entry (i:ByteArray) (n s:Int) (w:World) (hs:i.size≤1048576):Calls Tryz.prog 173 #[.agg #[.string i,.int .i64 n,.int .i64 s]] w fun e w'=>e=.returned (.bool (eOk ⟨i,n,s⟩))∧Below w.heap.size w w':=by
 have H1:=H_ (fun w=>impl_id i w hs)
 have H2:=H_ (fun w=>minute_any n w)
 have H3:=H_ (fun w=>within_any s 0 4294967295 w)
 unfold eOk
 dsimp only
 generalize idB i=b1 at *
 generalize decide (0≤n∧n≤121000000)=b2 at *
 generalize decide (0≤s∧s≤4294967295)=b3 at *
 rcases three b1 b2 b3 with rfl|⟨rfl,rfl⟩|⟨rfl,rfl,rfl⟩|⟨rfl,rfl,rfl⟩
 all_goals
  go_enter Tryz.func173,Tryz.ntmps173
  go_wp2_with (first|(go_at_call 204;refine (H1.out _).mono ?_;rintro e w1 ⟨rfl,hb1⟩;obtain ⟨hc,hz⟩:=bcell hb1)|(go_at_call 122;refine (H2.out _).mono ?_;rintro e w' ⟨rfl,rfl⟩)|(go_at_call 30;refine (H3.out _).mono ?_;rintro e w' ⟨rfl,rfl⟩))
  go_ret
  exact ⟨rfl,bel_alloc hb1⟩
theorem bdrewN {B:Nat} {a w:World} (h:Below B a w) (n:Nat):Below B a (w.drewN n):=⟨h.os,h.tape,h.output,h.size,h.block⟩
theorem le_ge1 {x a:ByteArray} (h:Op.bytesLess x.toList a.toList=true):Op.bytesLess a.toList x.toList=false:=lt_asymm h
theorem le_cases (x a:ByteArray):(Op.bytesLess x.toList a.toList=true∧lt a x=false)∨(Op.bytesLess x.toList a.toList=false∧x.toList=a.toList∧(x.toList==a.toList)=true∧lt a x=false)∨(Op.bytesLess x.toList a.toList=false∧x.toList≠a.toList∧(x.toList==a.toList)=false∧lt a x=true):=by
 cases h:lt x a
 ·by_cases e:x=a
  ·subst e;exact .inr (.inl ⟨h,rfl,by simp,h⟩)
  ·have ne:x.toList≠a.toList:=fun q=>e (toList_inj q)
   refine .inr (.inr ⟨h,ne,by simpa using ne,?_⟩)
   cases h2:lt a x
   ·exact absurd (lt_total h h2) e
   ·rfl
 ·exact .inl ⟨h,lt_asymm h⟩
theorem impl_seen (ao:Option Addr) (cap:Nat) (es:List N) (w:World) (hlen:es.length≤1048576) (hS:∀e∈es,e.i.size≤1048576) (hI:Ens ao es w) :
 Calls Tryz.prog 127 #[.slice ao es.length cap] w fun e w'=>e=.returned (.bool (sB es))∧Below w.heap.size w w':=by
 by_cases h40:40<es.length
 ·have HR:=H_ (sB_long h40)
  obtain ⟨len,hl⟩:∃len,len=es.length:=⟨_,rfl⟩
  rw [←hl] at hlen h40 ⊢
  have h40':(40:Int)<(len:Int):=by omega
  clear hI hS hl
  go_enter Tryz.func127,Tryz.ntmps127
  go_wp2_with fail
  go_ret
  exact ⟨ret_bool HR.out.symm,Below.refl _ _⟩
 ·have HT0:=H_ (fun k (hk:k<es.length)=>sB_false (es:=es) hk)
  have HTE:=H_ (fun h=>sB_yes (es:=es) ⟨by omega,h⟩)
  have HI:=H_ hI
  have HS:=H_ hS
  obtain ⟨len,hl⟩:∃len,len=es.length:=⟨_,rfl⟩
  rw [←hl] at hlen h40 ⊢
  have HL:=H_ hl
  have h40':¬(40:Int)<(len:Int):=by omega
  clear hI hS hl
  generalize sB es=R at *
  go_enter Tryz.func127,Tryz.ntmps127
  go_wp2_with fail
  go_loopw [3,11] (fun x z wr=>∃k:Nat,k≤len∧x=.string (ahd es k)∧z=.int .i64 k∧Hid (SOk es k)∧Hid (Below w.heap.size w wr)) (fun x z _=>len-(intOf z).toNat)
  case atStart=>exact ⟨0,by omega,rfl,rfl,H_ (SOk.zero es),H_ (Below.refl _ _)⟩
  case round =>
   obtain ⟨k,hk,rfl,rfl,HK,HB⟩:=hrel
   by_cases hlt:k<len
   ·have hlt2:(k:Int)<(len:Int):=by omega
    obtain ⟨b,off,rfl,hbl,c0,c1,c2⟩:=(HI.out.below HB.out).at k (by have:=HL.out;omega)
    have hsz:=HS.out _ (getD_mem (z:=N.zero) es k (by have:=HL.out;omega))
    have HM:=H_ (fun h1 h2=>HK.out.more (k:=k) h1 h2)
    have HF:=H_ (HT0.out k (by have:=HL.out;omega))
    have HA:Hid (ahd es (k+1)=(es.getD k N.zero).i):=rfl
    generalize ahd es k=a at *
    generalize es.getD k N.zero=X at *
    obtain ⟨xi,xn,xs⟩:=X
    have HA:Hid (ahd es (k+1)=xi):=HA
    have HC:=H_ (fun w=>impl_entry xi xn xs w hsz)
    dsimp only at HM HF c0 c1 c2
    generalize eOk ⟨xi,xn,xs⟩=r at *
    rcases le_cases xi a with ⟨q1,q2⟩|⟨q1,q3,q4,q2⟩|⟨q1,q3,q4,q2⟩
    ·have HR:Hid (R=false):=H_ (HF.out (fun h=>by rw [q2] at h;exact absurd h.1 (by simp)))
     clear HM HF q2
     go_wp2_with fail
     go_ret
     exact ⟨ret_bool HR.out.symm,HB.out.alloc HB.out.size _⟩
    ·have HR:Hid (R=false):=H_ (HF.out (fun h=>by rw [q2] at h;exact absurd h.1 (by simp)))
     clear HM HF q2
     go_wp2_with fail
     go_ret
     exact ⟨ret_bool HR.out.symm,HB.out.alloc HB.out.size _⟩
    ·cases r
     ·have HR:Hid (R=false):=H_ (HF.out (fun h=>absurd h.2 (by simp)))
      clear HM HF q2
      go_wp2_with (go_at_call 173;refine (HC.out _).mono ?_;rintro e w1 ⟨rfl,hb⟩)
      go_ret
      exact ⟨ret_bool HR.out.symm,HB.out.trans ((bel_alloc hb).mono HB.out.size)⟩
     ·replace HM:=H_ (HM.out q2 rfl)
      clear HF q2
      go_wp2_with fail
      refine (HC.out _).mono ?_
      rintro e w1 ⟨rfl,hb⟩
      obtain ⟨hcc,hff⟩:=bcell hb
      have hsz1:wr.heap.size<w1.heap.size:=by have:=hb.size;simp at this;omega
      have e0:=hcc wr.heap.size 0 (by simp)
      simp [go_sem] at e0
      have HB1:=H_ (HB.out.trans ((bel_alloc hb).mono HB.out.size))
      clear hb hcc hff c0 c1 c2
      go_wp2_with fail
      go_roundw
      case rel=>exact ⟨k+1,by omega,by rw [HA.out],by go_num,HM,HB1⟩
      case measure=>simp [intOf];omega
   ·have hlt2:¬(k:Int)<(len:Int):=by omega
    obtain rfl:k=len:=by omega
    have HR:Hid (R=true):=H_ (HTE.out (by rw [←HL.out];exact HK.out))
    go_wp2_with fail
    go_ret
    exact ⟨ret_bool HR.out.symm,HB.out⟩
theorem spec_seen (ao:Option Addr) (cap:Nat) (es:List N) (w:World) (hlen:es.length≤1048576) (hS:∀e∈es,e.i.size≤1048576) (hI:Ens ao es w) :
 Calls Tryz.prog 52 #[.slice ao es.length cap] w fun e w'=>e=.returned (.bool (sB es))∧Below w.heap.size w w':=by
 have HT0:=H_ (fun k (hk:k<es.length)=>sB_false (es:=es) hk)
 have HTE:Hid (SOk es es.length→sB es=decide (es.length≤40)):=H_ (fun h=>by
  by_cases e:es.length≤40
  ·rw [decide_eq_true e];exact sB_yes ⟨e,h⟩
  ·rw [decide_eq_false e];exact sB_no (fun hr=>e hr.1))
 have HI:=H_ hI
 have HS:=H_ hS
 obtain ⟨len,hl⟩:∃len,len=es.length:=⟨_,rfl⟩
 rw [←hl] at hlen ⊢
 have HL:=H_ hl
 clear hI hS hl
 generalize sB es=R at *
 go_enter Tryz.func52,Tryz.ntmps52
 go_wp2_with fail
 go_loopw [3] (fun z wr=>∃k:Nat,k≤len∧z=.int .i64 k∧Hid (SOk es k)∧Hid (Below w.heap.size w wr)) (fun z _=>len-(intOf z).toNat)
 case atStart=>exact ⟨0,by omega,rfl,H_ (SOk.zero es),H_ (Below.refl _ _)⟩
 case round =>
  obtain ⟨k,hk,rfl,HK,HB⟩:=hrel
  by_cases hlt:k<len
  ·have hlt2:(k:Int)<(len:Int):=by omega
   obtain ⟨b,off,rfl,hbl,c0,c1,c2⟩:=(HI.out.below HB.out).at k (by have:=HL.out;omega)
   have hsz:=HS.out _ (getD_mem (z:=N.zero) es k (by have:=HL.out;omega))
   have HM:=H_ (fun h1 h2=>HK.out.more (k:=k) h1 h2)
   have HF:=H_ (HT0.out k (by have:=HL.out;omega))
   rcases (show k=0∨∃j,k=j+1 from by rcases k with _|j;exact .inl rfl;exact .inr ⟨j,rfl⟩) with rfl|⟨j,hkj⟩
   ·have HA:Hid (ahd es 0=⟨#[]⟩):=rfl
    simp only [Nat.zero_mul,Nat.add_zero] at c0 c1 c2
    generalize ahd es 0=a at *
    generalize es.getD 0 N.zero=X at *
    obtain ⟨xi,xn,xs⟩:=X
    have H1:=H_ (fun w=>spec_word xi 20 w hsz)
    have H2:=H_ (fun w=>sminute_any xn w)
    have H3:=H_ (fun w=>is_any xs 0 4294967295 w)
    have HP:=H_ (id_pos (s:=xi))
    have HE:Hid (eOk ⟨xi,xn,xs⟩=(idB xi&&(decide (0≤xn∧xn≤121000000)&&decide (0≤xs∧xs≤4294967295)))):=rfl
    dsimp only at HM HF c0 c1 c2 hsz
    generalize eOk ⟨xi,xn,xs⟩=r at *
    by_cases hi:xi.size=0
    ·have he:=empty_of xi hi
     have HR:Hid (R=false):=H_ (HF.out (fun h=>by
      have e:=HE.out
      rw [show idB xi=false by unfold idB;simp [hi],Bool.false_and] at e
      rw [e] at h;exact absurd h.2 (by simp)))
     clear HM HF hi HP HE
     go_wp2_with fail
     go_quiet ((first|(go_at_call 105;exact Calls.quiet_of_same (H1.out _))|(go_at_call 21;exact Calls.quiet_of_same (H2.out _))|(go_at_call 63;exact Calls.quiet_of_same (H3.out _))))
     go_wp2_with fail
     go_ret
     exact ⟨ret_bool HR.out.symm,bdrewN (HB.out.alloc HB.out.size _) _⟩
    ·obtain ⟨he,he2⟩:=full_of xi hi
     rw [show (printB xi&&decide ((xi.size:Int)≤20))=idB xi by unfold idB;rw [Bool.and_comm];congr 1;exact decide_eq_decide.2 (by omega)] at H1
     generalize idB xi=b1 at *
     generalize decide (0≤xn∧xn≤121000000)=b2 at *
     generalize decide (0≤xs∧xs≤4294967295)=b3 at *
     rcases three b1 b2 b3 with rfl|⟨rfl,rfl⟩|⟨rfl,rfl,rfl⟩|⟨rfl,rfl,rfl⟩
     ·have HR:Hid (R=false):=H_ (HF.out (fun h=>by rw [HE.out] at h;exact absurd h.2 (by simp)))
      clear HM HF hi HP HE
      go_wp2_with fail
      go_quiet ((first|(go_at_call 105;exact Calls.quiet_of_same (H1.out _))|(go_at_call 21;exact Calls.quiet_of_same (H2.out _))|(go_at_call 63;exact Calls.quiet_of_same (H3.out _))))
      go_wp2_with fail
      go_ret
      exact ⟨ret_bool HR.out.symm,bdrewN (HB.out.alloc HB.out.size _) _⟩
     ·have HR:Hid (R=false):=H_ (HF.out (fun h=>by rw [HE.out] at h;exact absurd h.2 (by simp)))
      clear HM HF hi HP HE
      go_wp2_with fail
      go_quiet ((first|(go_at_call 105;exact Calls.quiet_of_same (H1.out _))|(go_at_call 21;exact Calls.quiet_of_same (H2.out _))|(go_at_call 63;exact Calls.quiet_of_same (H3.out _))))
      go_wp2_with fail
      go_ret
      exact ⟨ret_bool HR.out.symm,bdrewN (HB.out.alloc HB.out.size _) _⟩
     ·have HR:Hid (R=false):=H_ (HF.out (fun h=>by rw [HE.out] at h;exact absurd h.2 (by simp)))
      clear HM HF hi HP HE
      go_wp2_with fail
      go_quiet ((first|(go_at_call 105;exact Calls.quiet_of_same (H1.out _))|(go_at_call 21;exact Calls.quiet_of_same (H2.out _))|(go_at_call 63;exact Calls.quiet_of_same (H3.out _))))
      go_wp2_with fail
      go_ret
      exact ⟨ret_bool HR.out.symm,bdrewN (HB.out.alloc HB.out.size _) _⟩
     ·have HM2:=H_ (HM.out (by rw [HA.out];exact lt_empty (HP.out rfl)) (by rw [HE.out];rfl))
      clear HM HF hi HP HE
      go_wp2_with fail
      go_quiet ((first|(go_at_call 105;exact Calls.quiet_of_same (H1.out _))|(go_at_call 21;exact Calls.quiet_of_same (H2.out _))|(go_at_call 63;exact Calls.quiet_of_same (H3.out _))))
      go_wp2_with fail
      go_roundw
      case rel=>exact ⟨0+1,by omega,by go_num,HM2,H_ (bdrewN (HB.out.alloc HB.out.size _) _)⟩
      case measure=>simp [intOf];omega
   ·obtain ⟨b',off',hbo,hbl',d0,d1,d2⟩:=(HI.out.below HB.out).at j (by have:=HL.out;omega)
    obtain ⟨rfl,rfl⟩:b=b'∧off=off':=by simpa using hbo
    have HA:Hid (ahd es k=(es.getD j N.zero).i):=H_ (by rw [hkj];rfl)
    have hj1:IntKind.i64.wrap ((k:Int)-1)=(j:Int):=by rw [IntKind.wrap_i64];omega
    have hj2:0<k:=by omega
    have hj3:(j:Int)<(len:Int):=by omega
    clear hbl' hbo hkj
    generalize ahd es k=a at *
    generalize es.getD k N.zero=X at *
    generalize es.getD j N.zero=Y at *
    obtain ⟨xi,xn,xs⟩:=X
    obtain ⟨yi,yn,ys⟩:=Y
    have HA:Hid (a=yi):=HA
    have H1:=H_ (fun w=>spec_word xi 20 w hsz)
    have H2:=H_ (fun w=>sminute_any xn w)
    have H3:=H_ (fun w=>is_any xs 0 4294967295 w)
    have HE:Hid (eOk ⟨xi,xn,xs⟩=(idB xi&&(decide (0≤xn∧xn≤121000000)&&decide (0≤xs∧xs≤4294967295)))):=rfl
    dsimp only at HM HF c0 c1 c2 d0 d1 d2 hsz
    generalize eOk ⟨xi,xn,xs⟩=r at *
    by_cases hi:xi.size=0
    ·have he:=empty_of xi hi
     have HR:Hid (R=false):=H_ (HF.out (fun h=>by
      have e:=HE.out
      rw [show idB xi=false by unfold idB;simp [hi],Bool.false_and] at e
      rw [e] at h;exact absurd h.2 (by simp)))
     clear HM HF hi HE
     go_wp2_with fail
     go_quiet ((first|(go_at_call 105;exact Calls.quiet_of_same (H1.out _))|(go_at_call 21;exact Calls.quiet_of_same (H2.out _))|(go_at_call 63;exact Calls.quiet_of_same (H3.out _))))
     go_wp2_with fail
     go_ret
     exact ⟨ret_bool HR.out.symm,bdrewN (HB.out.alloc HB.out.size _) _⟩
    ·obtain ⟨he,he2⟩:=full_of xi hi
     rw [show (printB xi&&decide ((xi.size:Int)≤20))=idB xi by unfold idB;rw [Bool.and_comm];congr 1;exact decide_eq_decide.2 (by omega)] at H1
     generalize idB xi=b1 at *
     generalize decide (0≤xn∧xn≤121000000)=b2 at *
     generalize decide (0≤xs∧xs≤4294967295)=b3 at *
     cases b1
     ·have HR:Hid (R=false):=H_ (HF.out (fun h=>by rw [HE.out] at h;exact absurd h.2 (by simp)))
      clear HM HF hi HE
      go_wp2_with fail
      go_quiet ((first|(go_at_call 105;exact Calls.quiet_of_same (H1.out _))|(go_at_call 21;exact Calls.quiet_of_same (H2.out _))|(go_at_call 63;exact Calls.quiet_of_same (H3.out _))))
      go_wp2_with fail
      go_ret
      exact ⟨ret_bool HR.out.symm,bdrewN (HB.out.alloc HB.out.size _) _⟩
     ·rcases le_cases xi yi with ⟨q1,q2⟩|⟨q1,q3,q4,q2⟩|⟨q1,q3,q4,q2⟩
      ·have HR:Hid (R=false):=H_ (HF.out (fun h=>by rw [HA.out,q2] at h;exact absurd h.1 (by simp)))
       have q5:=le_ge1 q1
       clear HM HF hi HE q2
       go_wp2_with fail
       go_quiet ((first|(go_at_call 105;exact Calls.quiet_of_same (H1.out _))|(go_at_call 21;exact Calls.quiet_of_same (H2.out _))|(go_at_call 63;exact Calls.quiet_of_same (H3.out _))))
       go_wp2_with fail
       go_ret
       exact ⟨ret_bool HR.out.symm,bdrewN (HB.out.alloc HB.out.size _) _⟩
      ·have HR:Hid (R=false):=H_ (HF.out (fun h=>by rw [HA.out,q2] at h;exact absurd h.1 (by simp)))
       obtain rfl:=toList_inj q3
       have q5:Op.bytesLess xi.toList xi.toList=false:=q1
       clear HM HF hi HE q2 q3 q4
       go_wp2_with fail
       go_quiet ((first|(go_at_call 105;exact Calls.quiet_of_same (H1.out _))|(go_at_call 21;exact Calls.quiet_of_same (H2.out _))|(go_at_call 63;exact Calls.quiet_of_same (H3.out _))))
       go_wp2_with fail
       go_ret
       exact ⟨ret_bool HR.out.symm,bdrewN (HB.out.alloc HB.out.size _) _⟩
      ·cases b2
       ·have HR:Hid (R=false):=H_ (HF.out (fun h=>by rw [HE.out] at h;exact absurd h.2 (by simp)))
        have q5:Op.bytesLess yi.toList xi.toList=true:=q2
        clear HM HF hi HE q2
        go_wp2_with fail
        go_quiet ((first|(go_at_call 105;exact Calls.quiet_of_same (H1.out _))|(go_at_call 21;exact Calls.quiet_of_same (H2.out _))|(go_at_call 63;exact Calls.quiet_of_same (H3.out _))))
        go_wp2_with fail
        go_ret
        exact ⟨ret_bool HR.out.symm,bdrewN (HB.out.alloc HB.out.size _) _⟩
       ·cases b3
        ·have HR:Hid (R=false):=H_ (HF.out (fun h=>by rw [HE.out] at h;exact absurd h.2 (by simp)))
         have q5:Op.bytesLess yi.toList xi.toList=true:=q2
         clear HM HF hi HE q2
         go_wp2_with fail
         go_quiet ((first|(go_at_call 105;exact Calls.quiet_of_same (H1.out _))|(go_at_call 21;exact Calls.quiet_of_same (H2.out _))|(go_at_call 63;exact Calls.quiet_of_same (H3.out _))))
         go_wp2_with fail
         go_ret
         exact ⟨ret_bool HR.out.symm,bdrewN (HB.out.alloc HB.out.size _) _⟩
        ·have HM2:=H_ (HM.out (by rw [HA.out];exact q2) (by rw [HE.out];rfl))
         have q5:Op.bytesLess yi.toList xi.toList=true:=q2
         clear HM HF hi HE q2
         go_wp2_with fail
         go_quiet ((first|(go_at_call 105;exact Calls.quiet_of_same (H1.out _))|(go_at_call 21;exact Calls.quiet_of_same (H2.out _))|(go_at_call 63;exact Calls.quiet_of_same (H3.out _))))
         go_wp2_with fail
         go_roundw
         case rel=>exact ⟨k+1,by omega,by go_num,HM2,H_ (bdrewN (HB.out.alloc HB.out.size _) _)⟩
         case measure=>simp [intOf];omega
  ·have hlt2:¬(k:Int)<(len:Int):=by omega
   obtain rfl:k=len:=by omega
   have HR:Hid (R=decide (k≤40)):=H_ (by have e:=HL.out;have h:=HTE.out;rw [←e] at h;exact h HK.out)
   by_cases h40:k≤40
   ·have h40':(k:Int)≤40:=by omega
    rw [decide_eq_true h40] at HR
    go_wp2_with fail
    go_ret
    exact ⟨ret_bool HR.out.symm,HB.out⟩
   ·have h40':¬(k:Int)≤40:=by omega
    rw [decide_eq_false h40] at HR
    go_wp2_with fail
    go_ret
    exact ⟨ret_bool HR.out.symm,HB.out⟩
end SeenR
end Go.Proofs.YtnceeaccbcfopaaGreatDoor
namespace Go.Proofs.YtnceeaccbcfopaaGreatDoor
open Go.RowKit
namespace SeenR
open RowG
end SeenR
end Go.Proofs.YtnceeaccbcfopaaGreatDoor
namespace Go.Proofs.YtnceeaccbcfopaaGreatDoor
open Go.ChangeShapes Go.WideShapes Go.ChangeAt Go.RowKit
set_option linter.unusedVariables false
namespace WinR
open RowG (Wr MadeG grown_set)
open EvtR (Pt)
open CatR (Blk Blk.new)
open MarkR (mk mT mark_any)
structure Outs (base top:Nat) (w w':World):Prop where
 os:w'.os=w.os
 tape:w'.tape=w.tape
 output:w'.output=w.output
 size:w.heap.size≤w'.heap.size
 block:∀k,k<w.heap.size→k<base∨top≤k→w'.heap[k]? = w.heap[k]?
theorem Outs.refl (base top:Nat) (w:World):Outs base top w w:=⟨rfl,rfl,rfl,Nat.le_refl _,fun _ _ _=>rfl⟩
theorem Outs.trans {base top:Nat} {w w1 w2:World} (h:Outs base top w w1) (h2:Outs base top w1 w2):Outs base top w w2 :=
 ⟨h2.os.trans h.os,h2.tape.trans h.tape,h2.output.trans h.output,Nat.le_trans h.size h2.size,fun k hk hn=>(h2.block k (Nat.lt_of_lt_of_le hk h.size) hn).trans (h.block k hk hn)⟩
theorem Outs.below {base top:Nat} {w w1 w2:World} (h:Outs base top w w1) (hb:Below w1.heap.size w1 w2):Outs base top w w2 :=
 h.trans ⟨hb.os,hb.tape,hb.output,hb.size,fun k hk _=>hb.block k hk⟩
theorem Outs.grown {base top:Nat} {w w1 w2:World} {g:Nat} (h:Outs base top w w1) (hg:w1.grownBy w2 (some g)) (h1:base≤g) (h2:g<top):Outs base top w w2 :=
 h.trans ⟨hg.os,hg.tape,hg.output,hg.size,fun k hk hn=>hg.block k hk (by simp;omega)⟩
theorem Outs.bel {base top:Nat} {w w':World} (h:Outs base top w w') {B:Nat} (hB:B≤base) (hw:B≤w.heap.size):Below B w w' :=
 ⟨h.os,h.tape,h.output,by have:=h.size;omega,fun k hk=>h.block k (by omega) (.inl (by omega))⟩
theorem Outs.blk {base top b:Nat} {cs:List Value} {w w':World} (h:Outs base top w w') (hp:Blk b cs w) (hg:b<base∨top≤b):Blk b cs w':=by
 have e:=h.block b hp.1 hg
 exact ⟨Nat.lt_of_lt_of_le hp.1 h.size,fun i hi=>(World.cell?_of_block (a:=⟨b,i,none⟩) e).trans (hp.2 i hi)⟩
theorem gtrans {w w1 w2:World} {g:Option Nat} (h1:w.grownBy w1 g) (h2:w1.grownBy w2 g):w.grownBy w2 g :=
 ⟨h2.os.trans h1.os,h2.tape.trans h1.tape,h2.output.trans h1.output,Nat.le_trans h1.size h2.size,fun k hk hne=>(h2.block k (by have:=h1.size;omega) hne).trans (h1.block k hk hne)⟩
theorem rgrown {w w':World} (hb:Below w.heap.size w w') (row:Option Nat):w.grownBy w' row:=⟨hb.os,hb.tape,hb.output,hb.size,fun k hk _=>hb.block k hk⟩
def mtC (K o:Nat):Option Value:=some (.string (mT (K+o)))
def mhC (K o:Nat):Option Value:=some (.int .i64 ((K+o:Nat):Int))
theorem mark_st {f:Nat→Option Value} {g m j:Nat} {w0 w:World} (hp:Pt g m w) (hm:Wr f j g w) (hg:w0.grownBy w (some g)) (hj:j<m) (v:Value) (hv:f j=some v) :
 Pt g m (w.setCell ⟨g,j,none⟩ v)∧Wr f (j+1) g (w.setCell ⟨g,j,none⟩ v)∧w0.grownBy (w.setCell ⟨g,j,none⟩ v) (some g) :=
 ⟨hp.set _ _,hm.more hp hj v hv,gtrans hg (grown_set _ g _ _)⟩
theorem markT (g n cap K:Nat) (w:World) (hn:n≤1048576) (hK:1≤K∧K≤10000000) (h0:Pt g n w) :
 Calls Tryz.prog 90 #[.slice (some ⟨g,0,none⟩) n cap,.int .i64 K] w fun e w'=>e=.returned (.int .i64 (K+n:Nat))∧Pt g n w'∧Wr (mtC K) n g w'∧w.grownBy w' (some g):=by
 have HP:=H_ h0
 obtain ⟨k1,k2⟩:=hK
 have HT:Hid (∀(z:Int) (L:Nat),z=L→1≤L→L<100000000→∀w,Calls Tryz.prog 89 #[.int .i64 z] w fun e w'=>e=.returned (.string (mT L))∧Below w.heap.size w w'):=H_ (fun z L e h0 h w=>by subst e;exact mark_any L h0 h w)
 clear h0
 go_enter Tryz.func90,Tryz.ntmps90
 go_wp2_with fail
 go_loopw [5,1] (fun x z wr=>∃i:Nat,x=.int .i64 (i:Int)∧z=.int .i64 ((K:Int)+(i:Int))∧i≤n∧Hid (Pt g n wr)∧Hid (Wr (mtC K) i g wr)∧Hid (w.grownBy wr (some g))) (fun x _ _=>n-(intOf x).toNat)
 case atStart=>exact ⟨0,rfl,by simp,by omega,HP,H_ (fun o ho=>absurd ho (by omega)),H_ ⟨rfl,rfl,rfl,Nat.le_refl _,fun _ _ _=>rfl⟩⟩
 case round =>
  obtain ⟨i,rfl,rfl,hi,HP,HM,HG⟩:=hrel
  by_cases hin:i=n
  ·subst hin
   go_wp2_with fail
   go_ret
   exact ⟨by go_num,HP.out,HM.out,HG.out⟩
  ·have h1:(i:Int)<(n:Int):=by omega
   go_wp2_with fail
   refine (HT.out _ (K+i) (by push_cast;omega) (by omega) (by omega) _).mono ?_
   rintro e w1 ⟨rfl,hb⟩
   have HP1:=H_ (HP.out.below hb)
   have HM1:=H_ (HM.out.below HP.out hb)
   have HG1:=H_ (gtrans HG.out (rgrown hb _))
   obtain ⟨v0,c0⟩:=HP1.out.has i (by omega)
   have f0:=HP1.out.free i (by omega)
   have HS:=H_ (mark_st HP1.out HM1.out HG1.out (by omega) (.string (mT (K+i))) rfl)
   clear hb HP HM HG HP1 HM1 HG1
   go_wp2_with fail
   go_roundw
   case rel=>exact ⟨i+1,by go_num,by (congr 1)<;>omega,by omega,H_ HS.out.1,H_ HS.out.2.1,H_ HS.out.2.2⟩
   case measure=>simp [intOf];omega
theorem markH (g n cap K:Nat) (w:World) (hn:n≤1048576) (hK:1≤K∧K≤20000000) (h0:Pt g (n*2) w) :
 Calls Tryz.prog 91 #[.slice (some ⟨g,0,none⟩) n cap,.int .i64 K] w fun e w'=>e=.returned (.int .i64 (K+2*n:Nat))∧Pt g (n*2) w'∧Wr (mhC K) (n*2) g w'∧w.grownBy w' (some g):=by
 have HP:=H_ h0
 obtain ⟨k1,k2⟩:=hK
 clear h0
 go_enter Tryz.func91,Tryz.ntmps91
 go_wp2_with fail
 go_loopw [5,1] (fun x z wr=>∃i:Nat,x=.int .i64 (i:Int)∧z=.int .i64 ((K:Int)+2*(i:Int))∧i≤n∧Hid (Pt g (n*2) wr)∧Hid (Wr (mhC K) (i*2) g wr)∧Hid (w.grownBy wr (some g))) (fun x _ _=>n-(intOf x).toNat)
 case atStart=>exact ⟨0,rfl,by simp,by omega,HP,H_ (fun o ho=>absurd ho (by omega)),H_ ⟨rfl,rfl,rfl,Nat.le_refl _,fun _ _ _=>rfl⟩⟩
 case round =>
  obtain ⟨i,rfl,rfl,hi,HP,HM,HG⟩:=hrel
  by_cases hin:i=n
  ·subst hin
   go_wp2_with fail
   go_ret
   exact ⟨by go_num,HP.out,HM.out,HG.out⟩
  ·have h1:(i:Int)<(n:Int):=by omega
   obtain ⟨v0,c0⟩:=HP.out.has (i*2) (by omega)
   have f0:=HP.out.free (i*2) (by omega)
   obtain ⟨v1,c1⟩:=HP.out.has (i*2+1) (by omega)
   have f1:=HP.out.free (i*2+1) (by omega)
   have HS:=H_ (mark_st HP.out HM.out HG.out (by omega) (.int .i64 ((K:Int)+2*(i:Int))) (by unfold mhC;congr 2;push_cast;omega))
   have HS2:=H_ (mark_st HS.out.1 HS.out.2.1 HS.out.2.2 (by omega) (.int .i64 ((K:Int)+2*(i:Int)+1)) (by unfold mhC;congr 2;push_cast;omega))
   clear HP HM HG HS
   go_wp2_with fail
   go_roundw
   case rel=>exact ⟨i+1,by go_num,by (congr 1)<;>omega,by omega,H_ HS2.out.1,H_ (by rw [show (i+1)*2=i*2+1+1 by omega];exact HS2.out.2.1),H_ HS2.out.2.2⟩
   case measure=>simp [intOf];omega
def MTx (w:World) (g o:Nat) (t0:ByteArray) (W:World):Prop:=Below w.heap.size w W∧g<W.heap.size∧W.cell? ⟨g,o,none⟩=some (.string t0)
theorem MTx.below {w w1 w2:World} {g o:Nat} {t0:ByteArray} (h:MTx w g o t0 w1) (hb:Below w1.heap.size w1 w2):MTx w g o t0 w2 :=
 ⟨h.1.trans (hb.mono h.1.size),Nat.lt_of_lt_of_le h.2.1 hb.size,(hb.cell (p:=⟨g,o,none⟩) h.2.1).trans h.2.2⟩
theorem heldT (g n cap K:Nat) (w:World) (hn:n≤1048576) (hK:1≤K∧K≤10000000) (h0:g<w.heap.size) (hm:Wr (mtC K) n g w) :
 Calls Tryz.prog 147 #[.slice (some ⟨g,0,none⟩) n cap,.int .i64 K] w fun e w'=>e=.returned (.int .i64 (K+n:Nat))∧Below w.heap.size w w':=by
 have HP:=H_ h0
 have HM:=H_ hm
 obtain ⟨k1,k2⟩:=hK
 clear h0 hm
 go_enter Tryz.func147,Tryz.ntmps147
 go_wp2_with fail
 go_loopw [5,1] (fun x z wr=>∃i:Nat,x=.int .i64 (i:Int)∧z=.int .i64 ((K:Int)+(i:Int))∧i≤n∧Hid (Below w.heap.size w wr)) (fun x _ _=>n-(intOf x).toNat)
 case atStart=>exact ⟨0,rfl,by simp,by omega,H_ (Below.refl _ _)⟩
 case round =>
  obtain ⟨i,rfl,rfl,hi,HB⟩:=hrel
  by_cases hin:i=n
  ·subst hin
   go_wp2_with fail
   go_ret
   exact ⟨by go_num,HB.out⟩
  ·have h1:(i:Int)<(n:Int):=by omega
   have q0:wr.cell? ⟨g,i,none⟩=some (.string (mT (K+i))):=(HB.out.cell (p:=⟨g,i,none⟩) HP.out).trans (HM.out i (by omega))
   have HT0:Hid (∀w,Calls Tryz.prog 89 #[.int .i64 ((K:Int)+(i:Int))] w fun e w'=>e=.returned (.string (mT (K+i)))∧Below w.heap.size w w'):=H_ (fun w=>by have:=mark_any (K+i) (by omega) (by omega) w;rw [show ((K+i:Nat):Int)=(K:Int)+(i:Int) by omega] at this;exact this)
   generalize mT (K+i)=T0 at *
   have hgl:g<wr.heap.size:=Nat.lt_of_lt_of_le HP.out HB.out.size
   have HS0:Hid (MTx w g i T0 wr.drew):=H_ (MTx.below ⟨HB.out,hgl,q0⟩ (Below.refl _ _).drew)
   go_wp2_with fail
   go_region_held3 (fun w'=>Below w.heap.size w w'∧g<w'.heap.size∧w'.cell? ⟨g,i,none⟩=some (.string T0)) (first|assumption|(exact HS0.out)|(exact MTx.below (w:=w) (g:=g) (o:=i) (t0:=T0) (by assumption) hb))
    (first|(go_at_call 89;refine (HT0.out _).mono ?_;rintro e w' ⟨rfl,hb⟩))
   rename_i hS
   have HB2:=H_ hS.1
   clear hS HS0 q0
   go_wp2_with fail
   go_roundw
   case rel=>exact ⟨i+1,by go_num,by (congr 1)<;>omega,by omega,HB2⟩
   case measure=>simp [intOf];omega
theorem heldH (g n cap K:Nat) (w:World) (hn:n≤1048576) (hK:1≤K∧K≤20000000) (h0:g<w.heap.size) (hm:Wr (mhC K) (n*2) g w) :
 Calls Tryz.prog 148 #[.slice (some ⟨g,0,none⟩) n cap,.int .i64 K] w fun e w'=>e=.returned (.int .i64 (K+2*n:Nat))∧Below w.heap.size w w':=by
 have HP:=H_ h0
 have HM:=H_ hm
 obtain ⟨k1,k2⟩:=hK
 clear h0 hm
 go_enter Tryz.func148,Tryz.ntmps148
 go_wp2_with fail
 go_loopw [5,1] (fun x z wr=>∃i:Nat,x=.int .i64 (i:Int)∧z=.int .i64 ((K:Int)+2*(i:Int))∧i≤n∧Hid (Below w.heap.size w wr)) (fun x _ _=>n-(intOf x).toNat)
 case atStart=>exact ⟨0,rfl,by simp,by omega,H_ (Below.refl _ _)⟩
 case round =>
  obtain ⟨i,rfl,rfl,hi,HB⟩:=hrel
  by_cases hin:i=n
  ·subst hin
   go_wp2_with fail
   go_ret
   exact ⟨by go_num,HB.out⟩
  ·have h1:(i:Int)<(n:Int):=by omega
   have q0:wr.cell? ⟨g,i*2,none⟩=some (.int .i64 ((K:Int)+2*(i:Int))):=((HB.out.cell (p:=⟨g,i*2,none⟩) HP.out).trans (HM.out (i*2) (by omega))).trans (by unfold mhC;congr 2;push_cast;omega)
   have q1:wr.cell? ⟨g,i*2+1,none⟩=some (.int .i64 ((K:Int)+2*(i:Int)+1)):=((HB.out.cell (p:=⟨g,i*2+1,none⟩) HP.out).trans (HM.out (i*2+1) (by omega))).trans (by unfold mhC;congr 2;push_cast;omega)
   go_wp2_with fail
   try (go_quiet (fail);go_wp2_with fail)
   go_roundw
   case rel=>exact ⟨i+1,by go_num,by (congr 1)<;>omega,by omega,H_ (by first|exact HB.out|exact bdN HB.out _)⟩
   case measure=>simp [intOf];omega
theorem nil_any (f:Nat) (hf:f=90∨f=91∨f=147∨f=148) (ao:Option Addr) (cap K:Nat) (w:World) (hK:K≤20000000):Calls Tryz.prog f #[.slice ao 0 cap,.int .i64 K] w fun e w'=>e=.returned (.int .i64 K)∧Below w.heap.size w w':=by
 rcases hf with rfl|rfl|rfl|rfl
 ·go_enter Tryz.func90,Tryz.ntmps90
  go_wp2_with fail
  go_loopw [5,1] (fun x z wr=>x=.int .i64 0∧z=.int .i64 (K:Int)∧Hid (Below w.heap.size w wr)) (fun x _ _=>0)
  case atStart=>exact ⟨rfl,rfl,H_ (Below.refl _ _)⟩
  case round =>
   obtain ⟨rfl,rfl,HB⟩:=hrel
   go_wp2_with fail
   go_ret
   exact ⟨rfl,HB.out⟩
 ·go_enter Tryz.func91,Tryz.ntmps91
  go_wp2_with fail
  go_loopw [5,1] (fun x z wr=>x=.int .i64 0∧z=.int .i64 (K:Int)∧Hid (Below w.heap.size w wr)) (fun x _ _=>0)
  case atStart=>exact ⟨rfl,rfl,H_ (Below.refl _ _)⟩
  case round =>
   obtain ⟨rfl,rfl,HB⟩:=hrel
   go_wp2_with fail
   go_ret
   exact ⟨rfl,HB.out⟩
 ·go_enter Tryz.func147,Tryz.ntmps147
  go_wp2_with fail
  go_loopw [5,1] (fun x z wr=>x=.int .i64 0∧z=.int .i64 (K:Int)∧Hid (Below w.heap.size w wr)) (fun x _ _=>0)
  case atStart=>exact ⟨rfl,rfl,H_ (Below.refl _ _)⟩
  case round =>
   obtain ⟨rfl,rfl,HB⟩:=hrel
   go_wp2_with fail
   go_ret
   exact ⟨rfl,HB.out⟩
 ·go_enter Tryz.func148,Tryz.ntmps148
  go_wp2_with fail
  go_loopw [5,1] (fun x z wr=>x=.int .i64 0∧z=.int .i64 (K:Int)∧Hid (Below w.heap.size w wr)) (fun x _ _=>0)
  case atStart=>exact ⟨rfl,rfl,H_ (Below.refl _ _)⟩
  case round =>
   obtain ⟨rfl,rfl,HB⟩:=hrel
   go_wp2_with fail
   go_ret
   exact ⟨rfl,HB.out⟩
def MkdW (ta ha:Option Addr) (tl hl K:Nat) (w:World):Prop:=(tl=0∨∃g,ta=some ⟨g,0,none⟩∧Pt g tl w∧Wr (mtC K) tl g w)∧(hl=0∨∃g,ha=some ⟨g,0,none⟩∧Pt g (hl*2) w∧Wr (mhC (K+tl)) (hl*2) g w)
theorem MkdW.below {ta ha:Option Addr} {tl hl K:Nat} {w w':World} (h:MkdW ta ha tl hl K w) (hb:Below w.heap.size w w'):MkdW ta ha tl hl K w' :=
 ⟨h.1.imp id (fun ⟨g,e,p,q⟩=>⟨g,e,p.below hb,q.below p hb⟩),h.2.imp id (fun ⟨g,e,p,q⟩=>⟨g,e,p.below hb,q.below p hb⟩)⟩
end WinR
end Go.Proofs.YtnceeaccbcfopaaGreatDoor
