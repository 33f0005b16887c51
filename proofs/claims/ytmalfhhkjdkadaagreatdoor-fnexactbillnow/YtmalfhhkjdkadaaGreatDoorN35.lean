/-
  FnExactBillNow: for every engine and every further argument the law's call returns true (the program's BillNow hands back what the model's does, writes into no argument and keeps nothing of one; its answer is its own, behind another call too), and the arguments read as they did. The condition, told by the card: the program's own variables hold what its text lays.
-/
import Derived.Deep.RegionHeld3
import Derived.Test.YtmalfhhkjdkadaaGreatDoorN34
namespace Go.Proofs.YtmalfhhkjdkadaaGreatDoor
open Go.ChangeShapes Go.WideShapes Go.ChangeAt Go.RowKit
open Go.ChangeMaps (open_string shut_string)
set_option linter.unusedVariables false
namespace BillNowL
open CatR EngR ChG
def BX (w5:World) (B1 B2:Nat) (a0 a1 a2 a3 a4 a5 a6 b0 b1 b2 b3 b4 b5 b6:Value) (W:World):Prop:=Below w5.heap.size w5 W∧B1<W.heap.size∧B2<W.heap.size∧W.cell? ⟨B1,0,none⟩=some a0∧W.cell? ⟨B1,1,none⟩=some a1∧W.cell? ⟨B1,2,none⟩=some a2∧W.cell? ⟨B1,3,none⟩=some a3∧W.cell? ⟨B1,4,none⟩=some a4∧W.cell? ⟨B1,5,none⟩=some a5∧W.cell? ⟨B1,6,none⟩=some a6∧W.cell? ⟨B2,0,none⟩=some b0∧W.cell? ⟨B2,1,none⟩=some b1∧W.cell? ⟨B2,2,none⟩=some b2∧W.cell? ⟨B2,3,none⟩=some b3∧W.cell? ⟨B2,4,none⟩=some b4∧W.cell? ⟨B2,5,none⟩=some b5∧W.cell? ⟨B2,6,none⟩=some b6
theorem BX.below {w5:World} {B1 B2:Nat} {a0 a1 a2 a3 a4 a5 a6 b0 b1 b2 b3 b4 b5 b6:Value} {W W':World} (h:BX w5 B1 B2 a0 a1 a2 a3 a4 a5 a6 b0 b1 b2 b3 b4 b5 b6 W) (hb:Below W.heap.size W W'):BX w5 B1 B2 a0 a1 a2 a3 a4 a5 a6 b0 b1 b2 b3 b4 b5 b6 W':=by
 obtain ⟨h0,l1,l2,p0,p1,p2,p3,p4,p5,p6,p7,p8,p9,p10,p11,p12,p13⟩:=h
 have f:=fun o=>hb.cell (p:=⟨B1,o,none⟩) l1
 have g:=fun o=>hb.cell (p:=⟨B2,o,none⟩) l2
 have hs:=hb.size
 exact ⟨h0.trans (hb.mono h0.size),by omega,by omega,(f 0).trans p0,(f 1).trans p1,(f 2).trans p2,(f 3).trans p3,(f 4).trans p4,(f 5).trans p5,(f 6).trans p6,(g 0).trans p7,(g 1).trans p8,(g 2).trans p9,(g 3).trans p10,(g 4).trans p11,(g 5).trans p12,(g 6).trans p13⟩
theorem BX.drew {w5:World} {B1 B2:Nat} {a0 a1 a2 a3 a4 a5 a6 b0 b1 b2 b3 b4 b5 b6:Value} {W:World} (h:BX w5 B1 B2 a0 a1 a2 a3 a4 a5 a6 b0 b1 b2 b3 b4 b5 b6 W):BX w5 B1 B2 a0 a1 a2 a3 a4 a5 a6 b0 b1 b2 b3 b4 b5 b6 W.drew:=⟨h.1.drew,h.2⟩
set_option maxRecDepth 100000 in
set_option maxHeartbeats 16000000 in
theorem law_in (P:Prop) (M:Value→World→Prop) (N:Nat→Nat→Value→World→Prop) (L:World→Prop) (R:Value→World→Prop) (O:Nat→Value→World→Prop) (ma:Option Addr) (ml mc:Nat) (ca:Option Addr) (cl cc:Nat) (sa:Option Addr) (sl sc:Nat) (ea:Option Addr) (el ec:Nat) (ua:Option Addr) (ul uc:Nat) (da:Option Addr) (dl dc:Nat) (fr:Int) (a:ByteArray) (m:Int) (w:World)
 (hI:M (.agg #[.slice ma ml mc,.slice ca cl cc,.slice sa sl sc,.slice ea el ec,.slice ua ul uc,.slice da dl dc,.int .i64 fr]) w)
 (hL:L w)
 (hkm:∀v w w',M v w→Below w.heap.size w w'→M v w')
 (hkl:∀w w',L w→Below w.heap.size w w'→L w')
 (hkn:∀b t v w w',N b t v w→Kq b w w'→N b t v w')
 (hR:∀v W W',R v W→Below W.heap.size W W'→R v W')
 (hOR:∀b v W,O b v W→R v W)
 (hOK:∀b v W W',O b v W→Kq b W W'→O b v W')
 (hF:∀b v W,O b v W→∃(a0:Option Addr) (n0:Nat) (c0:Nat) (e0:Int),v=.agg #[.slice a0 n0 c0,.int .i64 e0])
 (hZ:∀w,M (.agg #[.slice ma ml mc,.slice ca cl cc,.slice sa sl sc,.slice ea el ec,.slice ua ul uc,.slice da dl dc,.int .i64 fr]) w→Calls Tryz.prog 4 #[.agg #[.slice ma ml mc,.slice ca cl cc,.slice sa sl sc,.slice ea el ec,.slice ua ul uc,.slice da dl dc,.int .i64 fr],.int .i64 1048576] w fun e w'=>SzOut 1048576 P e∧Below w.heap.size w w')
 (hT:P→∀v w,M v w→Calls Tryz.prog 6 #[v] w fun e w'=>(∃(pma pca psa pea pua pda:Option Addr) (pmc pcc psc pec puc pdc:Nat),e=.returned (.agg #[.slice pma ml pmc,.slice pca cl pcc,.slice psa sl psc,.slice pea el pec,.slice pua ul puc,.slice pda dl pdc,.int .i64 fr])∧M (.agg #[.slice pma ml pmc,.slice pca cl pcc,.slice psa sl psc,.slice pea el pec,.slice pua ul puc,.slice pda dl pdc,.int .i64 fr]) w'∧N w.heap.size w'.heap.size (.agg #[.slice pma ml pmc,.slice pca cl pcc,.slice psa sl psc,.slice pea el pec,.slice pua ul puc,.slice pda dl pdc,.int .i64 fr]) w')∧Below w.heap.size w w')
 (hS:¬(1048576:Int)<(a.size:Int)→P→∀v w,L w→M v w→Calls Tryz.prog 5 #[v,.string a,.int .i64 m] w fun e w'=>∃v',e=.returned v'∧O w.heap.size v' w'∧Below w.heap.size w w')
 (hM:¬(1048576:Int)<(a.size:Int)→P→∀v w,L w→M v w→Calls Tryz.prog 7 #[v,.string a,.int .i64 m] w fun e w'=>∃v',e=.returned v'∧O w.heap.size v' w'∧Below w.heap.size w w')
 (hE:P→∀v v' W,R v W→R v' W→Calls Tryz.prog 8 #[v,v'] W fun e w'=>e=.returned (.bool true)∧Below W.heap.size W w')
 (hEE:P→∀v v' w,M v w→M v' w→Calls Tryz.prog 9 #[v,v'] w fun e w'=>e=.returned (.bool true)∧Below w.heap.size w w')
 (hMk:P→∀base top v w,N base top v w→Calls Tryz.prog 10 #[v,.int .i64 1] w fun e w'=>(∃K:Nat,e=.returned (.int .i64 (K:Nat)))∧Chg (fun b=>base≤b∧b<top) w w')
 (hK:P→∀base v Wt W,O base v Wt→Kq base Wt W→Calls Tryz.prog 11 #[v,.int .i64 1] W fun e w'=>∃KK:Nat,e=.returned (.int .i64 KK)∧Chg (fun b=>base≤b∧b<Wt.heap.size) W w'∧∀w2,Below w'.heap.size w' w2→Calls Tryz.prog 12 #[v,.int .i64 1] w2 fun e w3=>e=.returned (.int .i64 KK)∧Below w2.heap.size w2 w3) :
 Calls Tryz.prog 3 #[.agg #[.slice ma ml mc,.slice ca cl cc,.slice sa sl sc,.slice ea el ec,.slice ua ul uc,.slice da dl dc,.int .i64 fr],.string a,.int .i64 m] w fun e w'=>e=.returned (.bool true)∧Below w.heap.size w w':=by
 have HI:=hid_intro hI
 have HLD:=hid_intro hL
 have HKM:=hid_intro hkm
 have HLK:=hid_intro hkl
 have HKN:=hid_intro hkn
 have HR:=hid_intro hR
 have HOR:=hid_intro hOR
 have HOK:=hid_intro hOK
 have HF:=hid_intro hF
 have HZ:=hid_intro hZ
 have HT:=hid_intro hT
 have HS:=hid_intro hS
 have HM:=hid_intro hM
 have HE:=hid_intro hE
 have HEE:=hid_intro hEE
 have HMK:=hid_intro hMk
 have HK:=hid_intro hK
 clear hI hL hkm hkl hkn hR hOR hOK hF hZ hT hS hM hE hEE hMk hK
 by_cases hq:(1048576:Int)<(a.size:Int)
 ·go_enter Tryz.func3,Tryz.ntmps3
  go_wp2_with fail
  go_ret
  exact ⟨rfl,(Below.refl _ _).alloc (Nat.le_refl _) _⟩
 have HA:Hid (Blk w.heap.size [.slice ma ml mc,.slice ca cl cc,.slice sa sl sc,.slice ea el ec,.slice ua ul uc,.slice da dl dc,.int .i64 fr] (w.alloc (.cells #[.slice ma ml mc,.slice ca cl cc,.slice sa sl sc,.slice ea el ec,.slice ua ul uc,.slice da dl dc,.int .i64 fr] 31))):=hid_intro (Blk.new w _ _)
 have HB:Hid (Below w.heap.size w (w.alloc (.cells #[.slice ma ml mc,.slice ca cl cc,.slice sa sl sc,.slice ea el ec,.slice ua ul uc,.slice da dl dc,.int .i64 fr] 31))):=hid_intro ((Below.refl _ _).alloc (Nat.le_refl _) _)
 go_enter Tryz.func3,Tryz.ntmps3
 go_wp2_with fail
 refine (HZ.out _ (HKM.out _ _ _ HI.out HB.out)).mono ?_
 rintro e w1 ⟨⟨Z1,rfl,hZ1⟩,hb1⟩
 replace HA:=hid_intro (HA.out.below hb1)
 replace HB:=hid_intro (HB.out.trans (hb1.mono HB.out.size))
 clear hb1
 rcases hZ1 with rfl|⟨hz0,hz1,hP⟩
 ·go_wp2_with fail
  go_ret
  exact ⟨rfl,HB.out⟩
 have hz2:¬Z1<0:=by omega
 replace HT:=hid_intro (HT.out hP)
 replace HS:=hid_intro (HS.out hq hP)
 replace HM:=hid_intro (HM.out hq hP)
 replace HE:=hid_intro (HE.out hP)
 replace HEE:=hid_intro (HEE.out hP)
 replace HMK:=hid_intro (HMK.out hP)
 replace HK:=hid_intro (HK.out hP)
 clear hP HZ
 have r0:w1.cell? ⟨w.heap.size,0,none⟩=some (.slice ma ml mc):=HA.out.2 0 (by simp)
 have r1:w1.cell? ⟨w.heap.size,1,none⟩=some (.slice ca cl cc):=HA.out.2 1 (by simp)
 have r2:w1.cell? ⟨w.heap.size,2,none⟩=some (.slice sa sl sc):=HA.out.2 2 (by simp)
 have r3:w1.cell? ⟨w.heap.size,3,none⟩=some (.slice ea el ec):=HA.out.2 3 (by simp)
 have r4:w1.cell? ⟨w.heap.size,4,none⟩=some (.slice ua ul uc):=HA.out.2 4 (by simp)
 have r5:w1.cell? ⟨w.heap.size,5,none⟩=some (.slice da dl dc):=HA.out.2 5 (by simp)
 have r6:w1.cell? ⟨w.heap.size,6,none⟩=some (.int .i64 fr):=HA.out.2 6 (by simp)
 have rL:=HA.out.1
 go_wp2_with fail
 refine (HT.out _ _ (HKM.out _ _ _ HI.out HB.out)).mono ?_
 rintro e w2 ⟨⟨yma,yca,ysa,yea,yua,yda,ymc,ycc,ysc,yec,yuc,ydc,rfl,hM,hN⟩,hb2⟩
 replace HA:=hid_intro (HA.out.below hb2)
 replace HB:=hid_intro (HB.out.trans (hb2.mono HB.out.size))
 have MV:=hid_intro hM
 clear hM hN
 clear hb2
 clear r0 r1 r2 r3 r4 r5 r6 rL
 go_wp2_with fail
 refine (HS.out _ _ (HLK.out _ _ HLD.out HB.out) MV.out).mono ?_
 rintro e w3 ⟨v,rfl,hv,hb3⟩
 replace HA:=hid_intro (HA.out.below hb3)
 replace HB:=hid_intro (HB.out.trans (hb3.mono HB.out.size))
 obtain ⟨a1,n1,c1,e1,rfl⟩:=HF.out _ _ _ hv
 have HR1:=hid_intro (HOR.out _ _ _ hv)
 clear hv MV
 clear hb3
 have HAz:=HA
 obtain ⟨w4,hw4⟩:∃z,z=w3.alloc (.cells #[.slice a1 n1 c1,.int .i64 e1] 35):=⟨_,rfl⟩
 have al:Below w3.heap.size w3 w4:=by rw [hw4];exact (Below.refl _ _).alloc (Nat.le_refl _) _
 have HX1:Hid (Blk w3.heap.size [.slice a1 n1 c1,.int .i64 e1] w4):=hid_intro (by rw [hw4];exact Blk.new w3 [.slice a1 n1 c1,.int .i64 e1] 35)
 replace HA:=hid_intro (HA.out.below al)
 replace HB:=hid_intro (HB.out.trans (al.mono HB.out.size))
 replace HR1:=hid_intro (HR.out _ _ _ HR1.out al)
 obtain ⟨B1,hB1⟩:∃z,z=w3.heap.size:=⟨_,rfl⟩
 rw [←hB1] at HX1
 have HW:=hid_intro hw4
 have HBBB1:=hid_intro hB1
 clear al hw4 hB1
 have HBW:=hid_intro (Below.refl w4.heap.size w4)
 have HSZ0:Hid (w.heap.size≤w4.heap.size):=hid_intro HB.out.size
 have HA6:=HA
 have HR6:=HR1
 clear HR1
 have HX6:=HX1
 clear HX1 HA
 have r0:w3.cell? ⟨w.heap.size,0,none⟩=some (.slice ma ml mc):=HAz.out.2 0 (by simp)
 have r1:w3.cell? ⟨w.heap.size,1,none⟩=some (.slice ca cl cc):=HAz.out.2 1 (by simp)
 have r2:w3.cell? ⟨w.heap.size,2,none⟩=some (.slice sa sl sc):=HAz.out.2 2 (by simp)
 have r3:w3.cell? ⟨w.heap.size,3,none⟩=some (.slice ea el ec):=HAz.out.2 3 (by simp)
 have r4:w3.cell? ⟨w.heap.size,4,none⟩=some (.slice ua ul uc):=HAz.out.2 4 (by simp)
 have r5:w3.cell? ⟨w.heap.size,5,none⟩=some (.slice da dl dc):=HAz.out.2 5 (by simp)
 have r6:w3.cell? ⟨w.heap.size,6,none⟩=some (.int .i64 fr):=HAz.out.2 6 (by simp)
 have rL:=HAz.out.1
 go_wp2_with fail
 rw [←HW.out,←HBBB1.out]
 clear HW HAz
 clear r0 r1 r2 r3 r4 r5 r6 rL
 refine (HT.out _ _ (HKM.out _ _ _ HI.out HB.out)).mono ?_
 rintro e w5 ⟨⟨xma,xca,xsa,xea,xua,xda,xmc,xcc,xsc,xec,xuc,xdc,rfl,hM,hN⟩,hb5⟩
 replace HB:=hid_intro (HB.out.trans (hb5.mono HB.out.size))
 replace HBW:=hid_intro (HBW.out.trans (hb5.mono HBW.out.size))
 have MX:=hid_intro hM
 have HN:=hid_intro hN
 have HSZ1:Hid (w4.heap.size≤w5.heap.size):=hid_intro hb5.size
 clear hM hN
 clear hb5
 obtain ⟨w6,hw6⟩:∃z,z=w5.alloc (.cells #[.slice xma ml xmc,.slice xca cl xcc,.slice xsa sl xsc,.slice xea el xec,.slice xua ul xuc,.slice xda dl xdc,.int .i64 fr] 46):=⟨_,rfl⟩
 have al:Below w5.heap.size w5 w6:=by rw [hw6];exact (Below.refl _ _).alloc (Nat.le_refl _) _
 have HX0:Hid (Blk w5.heap.size [.slice xma ml xmc,.slice xca cl xcc,.slice xsa sl xsc,.slice xea el xec,.slice xua ul xuc,.slice xda dl xdc,.int .i64 fr] w6):=hid_intro (by rw [hw6];exact Blk.new w5 [.slice xma ml xmc,.slice xca cl xcc,.slice xsa sl xsc,.slice xea el xec,.slice xua ul xuc,.slice xda dl xdc,.int .i64 fr] 46)
 replace HB:=hid_intro (HB.out.trans (al.mono HB.out.size))
 replace HBW:=hid_intro (HBW.out.trans (al.mono HBW.out.size))
 replace MX:=hid_intro (HKM.out _ _ _ MX.out al)
 replace HN:=hid_intro (HKN.out _ _ _ _ _ HN.out (Kq.below (Kq.refl _ _) al))
 obtain ⟨B0,hB0⟩:∃z,z=w5.heap.size:=⟨_,rfl⟩
 rw [←hB0] at HX0
 have HW:=hid_intro hw6
 have HBBB0:=hid_intro hB0
 clear al hw6 hB0
 have HSZ2:Hid (w5.heap.size<w6.heap.size):=hid_intro (by have:=HX0.out.1;have:=HBBB0.out;omega)
 go_wp2_with fail
 rw [←HW.out,←HBBB0.out]
 clear HW
 refine (HM.out _ _ (HLK.out _ _ HLD.out HB.out) MX.out).mono ?_
 rintro e w7 ⟨v,rfl,hv,hb7⟩
 replace HB:=hid_intro (HB.out.trans (hb7.mono HB.out.size))
 replace HBW:=hid_intro (HBW.out.trans (hb7.mono HBW.out.size))
 replace MX:=hid_intro (HKM.out _ _ _ MX.out hb7)
 replace HN:=hid_intro (HKN.out _ _ _ _ _ HN.out (Kq.below (Kq.refl _ _) hb7))
 replace HX0:=hid_intro (HX0.out.below hb7)
 have HO2:=hid_intro hv
 obtain ⟨a2,n2,c2,e2,rfl⟩:=HF.out _ _ _ hv
 have HKP:=hid_intro (Kq.refl w6.heap.size w7)
 have HS9:Hid (w6.heap.size≤w7.heap.size):=hid_intro hb7.size
 clear hv
 clear hb7
 have HX1z:=hid_intro (HX6.out.below HBW.out)
 obtain ⟨w8,hw8⟩:∃z,z=w7.alloc (.cells #[.slice a2 n2 c2,.int .i64 e2] 35):=⟨_,rfl⟩
 have al:Below w7.heap.size w7 w8:=by rw [hw8];exact (Below.refl _ _).alloc (Nat.le_refl _) _
 have HX2:Hid (Blk w7.heap.size [.slice a2 n2 c2,.int .i64 e2] w8):=hid_intro (by rw [hw8];exact Blk.new w7 [.slice a2 n2 c2,.int .i64 e2] 35)
 replace HB:=hid_intro (HB.out.trans (al.mono HB.out.size))
 replace HBW:=hid_intro (HBW.out.trans (al.mono HBW.out.size))
 replace MX:=hid_intro (HKM.out _ _ _ MX.out al)
 replace HN:=hid_intro (HKN.out _ _ _ _ _ HN.out (Kq.below (Kq.refl _ _) al))
 replace HX0:=hid_intro (HX0.out.below al)
 replace HKP:=hid_intro (HKP.out.below al)
 obtain ⟨B2,hB2⟩:∃z,z=w7.heap.size:=⟨_,rfl⟩
 rw [←hB2] at HX2
 have HW:=hid_intro hw8
 have HBBB2:=hid_intro hB2
 clear al hw8 hB2
 have HLB2:Hid (w6.heap.size≤B2):=hid_intro (by have:=HS9.out;have:=HBBB2.out;omega)
 have x0:w7.cell? ⟨B1,0,none⟩=some (.slice a1 n1 c1):=HX1z.out.2 0 (by simp)
 have x1:w7.cell? ⟨B1,1,none⟩=some (.int .i64 e1):=HX1z.out.2 1 (by simp)
 have xL:=HX1z.out.1
 go_wp2_with fail
 rw [←HW.out,←HBBB2.out]
 clear HW HX1z
 clear x0 x1 xL
 refine (HE.out _ _ _ (HOR.out _ _ _ (HOK.out _ _ _ _ HO2.out HKP.out)) (HR.out _ _ _ HR6.out HBW.out)).mono ?_
 rintro e w9 ⟨rfl,hb9⟩
 replace HB:=hid_intro (HB.out.trans (hb9.mono HB.out.size))
 replace HBW:=hid_intro (HBW.out.trans (hb9.mono HBW.out.size))
 replace MX:=hid_intro (HKM.out _ _ _ MX.out hb9)
 replace HN:=hid_intro (HKN.out _ _ _ _ _ HN.out (Kq.below (Kq.refl _ _) hb9))
 replace HX0:=hid_intro (HX0.out.below hb9)
 replace HKP:=hid_intro (HKP.out.below hb9)
 replace HX2:=hid_intro (HX2.out.below hb9)
 clear hb9
 have HAz:=hid_intro (HA6.out.below HBW.out)
 have r0:w9.cell? ⟨w.heap.size,0,none⟩=some (.slice ma ml mc):=HAz.out.2 0 (by simp)
 have r1:w9.cell? ⟨w.heap.size,1,none⟩=some (.slice ca cl cc):=HAz.out.2 1 (by simp)
 have r2:w9.cell? ⟨w.heap.size,2,none⟩=some (.slice sa sl sc):=HAz.out.2 2 (by simp)
 have r3:w9.cell? ⟨w.heap.size,3,none⟩=some (.slice ea el ec):=HAz.out.2 3 (by simp)
 have r4:w9.cell? ⟨w.heap.size,4,none⟩=some (.slice ua ul uc):=HAz.out.2 4 (by simp)
 have r5:w9.cell? ⟨w.heap.size,5,none⟩=some (.slice da dl dc):=HAz.out.2 5 (by simp)
 have r6:w9.cell? ⟨w.heap.size,6,none⟩=some (.int .i64 fr):=HAz.out.2 6 (by simp)
 have rL:=HAz.out.1
 have s0:w9.cell? ⟨B0,0,none⟩=some (.slice xma ml xmc):=HX0.out.2 0 (by simp)
 have s1:w9.cell? ⟨B0,1,none⟩=some (.slice xca cl xcc):=HX0.out.2 1 (by simp)
 have s2:w9.cell? ⟨B0,2,none⟩=some (.slice xsa sl xsc):=HX0.out.2 2 (by simp)
 have s3:w9.cell? ⟨B0,3,none⟩=some (.slice xea el xec):=HX0.out.2 3 (by simp)
 have s4:w9.cell? ⟨B0,4,none⟩=some (.slice xua ul xuc):=HX0.out.2 4 (by simp)
 have s5:w9.cell? ⟨B0,5,none⟩=some (.slice xda dl xdc):=HX0.out.2 5 (by simp)
 have s6:w9.cell? ⟨B0,6,none⟩=some (.int .i64 fr):=HX0.out.2 6 (by simp)
 have sL:=HX0.out.1
 have HS0:Hid (BX w9 w.heap.size B0 (.slice ma ml mc) (.slice ca cl cc) (.slice sa sl sc) (.slice ea el ec) (.slice ua ul uc) (.slice da dl dc) (.int .i64 fr) (.slice xma ml xmc) (.slice xca cl xcc) (.slice xsa sl xsc) (.slice xea el xec) (.slice xua ul xuc) (.slice xda dl xdc) (.int .i64 fr) w9):=hid_intro ⟨Below.refl _ _,rL,sL,r0,r1,r2,r3,r4,r5,r6,s0,s1,s2,s3,s4,s5,s6⟩
 have HS1:=hid_intro HS0.out.drew
 have HM5:Hid (∀W,Below w9.heap.size w9 W→Calls Tryz.prog 6 #[.agg #[.slice ma ml mc,.slice ca cl cc,.slice sa sl sc,.slice ea el ec,.slice ua ul uc,.slice da dl dc,.int .i64 fr]] W fun e w'=>(∃(pma pca psa pea pua pda:Option Addr) (pmc pcc psc pec puc pdc:Nat),e=.returned (.agg #[.slice pma ml pmc,.slice pca cl pcc,.slice psa sl psc,.slice pea el pec,.slice pua ul puc,.slice pda dl pdc,.int .i64 fr])∧M (.agg #[.slice pma ml pmc,.slice pca cl pcc,.slice psa sl psc,.slice pea el pec,.slice pua ul puc,.slice pda dl pdc,.int .i64 fr]) w'∧M (.agg #[.slice xma ml xmc,.slice xca cl xcc,.slice xsa sl xsc,.slice xea el xec,.slice xua ul xuc,.slice xda dl xdc,.int .i64 fr]) w')∧Below W.heap.size W w'):=hid_intro (fun W hW=>(HT.out _ W (HKM.out _ _ _ HI.out (HB.out.trans (hW.mono HB.out.size)))).mono fun e w' h=>by
  obtain ⟨⟨pma,pca,psa,pea,pua,pda,pmc,pcc,psc,pec,puc,pdc,he,h1,_⟩,hb⟩:=h
  exact ⟨⟨pma,pca,psa,pea,pua,pda,pmc,pcc,psc,pec,puc,pdc,he,h1,HKM.out _ _ _ MX.out (hW.trans (hb.mono hW.size))⟩,hb⟩)
 go_wp2_with fail
 go_region_held3 (fun W=>Below w9.heap.size w9 W∧w.heap.size<W.heap.size∧B0<W.heap.size∧W.cell? ⟨w.heap.size,0,none⟩=some (.slice ma ml mc)∧W.cell? ⟨w.heap.size,1,none⟩=some (.slice ca cl cc)∧W.cell? ⟨w.heap.size,2,none⟩=some (.slice sa sl sc)∧W.cell? ⟨w.heap.size,3,none⟩=some (.slice ea el ec)∧W.cell? ⟨w.heap.size,4,none⟩=some (.slice ua ul uc)∧W.cell? ⟨w.heap.size,5,none⟩=some (.slice da dl dc)∧W.cell? ⟨w.heap.size,6,none⟩=some (.int .i64 fr)∧W.cell? ⟨B0,0,none⟩=some (.slice xma ml xmc)∧W.cell? ⟨B0,1,none⟩=some (.slice xca cl xcc)∧W.cell? ⟨B0,2,none⟩=some (.slice xsa sl xsc)∧W.cell? ⟨B0,3,none⟩=some (.slice xea el xec)∧W.cell? ⟨B0,4,none⟩=some (.slice xua ul xuc)∧W.cell? ⟨B0,5,none⟩=some (.slice xda dl xdc)∧W.cell? ⟨B0,6,none⟩=some (.int .i64 fr)) (first|assumption|(exact HS0.out)|(exact HS1.out)|(exact @BX.below w9 (w.heap.size) B0 _ _ _ _ _ _ _ _ _ _ _ _ _ _ _ _ (by assumption) hb10)|(exact @BX.below w9 (w.heap.size) B0 _ _ _ _ _ _ _ _ _ _ _ _ _ _ _ _ (by assumption) hb11))
  (first|(go_at_call 6;refine (HM5.out _ (by first|exact (by assumption:BX w9 _ _ _ _ _ _ _ _ _ _ _ _ _ _ _ _ _).1|exact HS0.out.1|exact HS1.out.1)).mono ?_;rintro e w10 ⟨⟨zma,zca,zsa,zea,zua,zda,zmc,zcc,zsc,zec,zuc,zdc,rfl,hN6,hN7⟩,hb10⟩)|(go_at_call 9;refine (HEE.out _ _ _ hN7 hN6).mono ?_;rintro e w11 ⟨rfl,hb11⟩))
 rename_i hS
 have hbS:=hS.1
 replace HB:=hid_intro (HB.out.trans (hbS.mono HB.out.size))
 replace HBW:=hid_intro (HBW.out.trans (hbS.mono HBW.out.size))
 replace MX:=hid_intro (HKM.out _ _ _ MX.out hbS)
 replace HN:=hid_intro (HKN.out _ _ _ _ _ HN.out (Kq.below (Kq.refl _ _) hbS))
 replace HX0:=hid_intro (HX0.out.below hbS)
 replace HKP:=hid_intro (HKP.out.below hbS)
 replace HX2:=hid_intro (HX2.out.below hbS)
 clear hS hbS HS0 HS1 HM5 HAz hN6 hN7 hb10 hb11
 clear r0 r1 r2 r3 r4 r5 r6 rL
 clear s0 s1 s2 s3 s4 s5 s6 sL
 clear MX
 have s0:=HX0.out.2 0 (by simp)
 have s1:=HX0.out.2 1 (by simp)
 have s2:=HX0.out.2 2 (by simp)
 have s3:=HX0.out.2 3 (by simp)
 have s4:=HX0.out.2 4 (by simp)
 have s5:=HX0.out.2 5 (by simp)
 have s6:=HX0.out.2 6 (by simp)
 have sL:=HX0.out.1
 simp only [List.getElem?_cons_zero,List.getElem?_cons_succ] at s0 s1 s2 s3 s4 s5 s6
 go_wp2_with fail
 refine (HMK.out _ _ _ _ HN.out).mono ?_
 rintro e w13 ⟨⟨K1,rfl⟩,hc⟩
 clear s0 s1 s2 s3 s4 s5 s6 sL
 replace HB:=hid_intro (hc.out HB.out (fun b q=>by have:=HSZ0.out;have:=HSZ1.out;have:=HSZ2.out;omega) (Nat.le_refl _))
 replace HBW:=hid_intro (hc.out HBW.out (fun b q=>by have:=HSZ1.out;have:=HSZ2.out;omega) (Nat.le_refl _))
 replace HKP:=hid_intro (HKP.out.chg hc (fun b q=>by have:=HSZ2.out;omega))
 replace HX2:=hid_intro (ChG.Chg.blk hc HX2.out (fun q=>by have:=HLB2.out;have:=HBBB2.out;have:=HSZ2.out;omega))
 clear hc HN HX0
 have hkk:¬((K1:Nat):Int)<0:=by omega
 have HX1z:=hid_intro (HX6.out.below HBW.out)
 have x0:w13.cell? ⟨B1,0,none⟩=some (.slice a1 n1 c1):=HX1z.out.2 0 (by simp)
 have x1:w13.cell? ⟨B1,1,none⟩=some (.int .i64 e1):=HX1z.out.2 1 (by simp)
 have xL:=HX1z.out.1
 have y0:w13.cell? ⟨B2,0,none⟩=some (.slice a2 n2 c2):=HX2.out.2 0 (by simp)
 have y1:w13.cell? ⟨B2,1,none⟩=some (.int .i64 e2):=HX2.out.2 1 (by simp)
 have yL:=HX2.out.1
 go_wp2_with fail
 refine (HE.out _ _ _ (HOR.out _ _ _ (HOK.out _ _ _ _ HO2.out HKP.out)) (HR.out _ _ _ HR6.out HBW.out)).mono ?_
 rintro e w14 ⟨rfl,hb14⟩
 replace HB:=hid_intro (HB.out.trans (hb14.mono HB.out.size))
 replace HBW:=hid_intro (HBW.out.trans (hb14.mono HBW.out.size))
 replace HKP:=hid_intro (HKP.out.below hb14)
 replace HX2:=hid_intro (HX2.out.below hb14)
 clear hb14
 clear x0 x1 xL
 clear HX1z
 clear y0 y1 yL
 have y0:w14.cell? ⟨B2,0,none⟩=some (.slice a2 n2 c2):=HX2.out.2 0 (by simp)
 have y1:w14.cell? ⟨B2,1,none⟩=some (.int .i64 e2):=HX2.out.2 1 (by simp)
 have yL:=HX2.out.1
 have HMKO:=hid_intro (HK.out _ _ _ _ HO2.out HKP.out)
 go_wp2_with fail
 refine HMKO.out.mono ?_
 rintro e w15 ⟨KK,rfl,hc,hh⟩
 have HH:=hid_intro hh
 clear y0 y1 yL
 replace HB:=hid_intro (hc.out HB.out (fun b q=>by have:=HSZ0.out;have:=HSZ1.out;have:=HSZ2.out;omega) (Nat.le_refl _))
 replace HBW:=hid_intro (hc.out HBW.out (fun b q=>by have:=HSZ1.out;have:=HSZ2.out;omega) (Nat.le_refl _))
 replace HX2:=hid_intro (ChG.Chg.blk hc HX2.out (fun q=>by have:=HLB2.out;have:=HBBB2.out;have:=HSZ2.out;omega))
 clear hc hh HMKO HKP HO2
 have hk0:¬((KK:Nat):Int)<0:=by omega
 have HQ:=hid_intro (Below.refl w15.heap.size w15)
 have y0:w15.cell? ⟨B2,0,none⟩=some (.slice a2 n2 c2):=HX2.out.2 0 (by simp)
 have y1:w15.cell? ⟨B2,1,none⟩=some (.int .i64 e2):=HX2.out.2 1 (by simp)
 have yL:=HX2.out.1
 go_wp2_with fail
 refine (HH.out _ HQ.out).mono ?_
 rintro e w16 ⟨rfl,hb16⟩
 replace HB:=hid_intro (HB.out.trans (hb16.mono HB.out.size))
 replace HBW:=hid_intro (HBW.out.trans (hb16.mono HBW.out.size))
 replace HX2:=hid_intro (HX2.out.below hb16)
 replace HQ:=hid_intro (HQ.out.trans (hb16.mono HQ.out.size))
 clear hb16
 clear y0 y1 yL
 have HAz:=hid_intro (HA6.out.below HBW.out)
 have r0:w16.cell? ⟨w.heap.size,0,none⟩=some (.slice ma ml mc):=HAz.out.2 0 (by simp)
 have r1:w16.cell? ⟨w.heap.size,1,none⟩=some (.slice ca cl cc):=HAz.out.2 1 (by simp)
 have r2:w16.cell? ⟨w.heap.size,2,none⟩=some (.slice sa sl sc):=HAz.out.2 2 (by simp)
 have r3:w16.cell? ⟨w.heap.size,3,none⟩=some (.slice ea el ec):=HAz.out.2 3 (by simp)
 have r4:w16.cell? ⟨w.heap.size,4,none⟩=some (.slice ua ul uc):=HAz.out.2 4 (by simp)
 have r5:w16.cell? ⟨w.heap.size,5,none⟩=some (.slice da dl dc):=HAz.out.2 5 (by simp)
 have r6:w16.cell? ⟨w.heap.size,6,none⟩=some (.int .i64 fr):=HAz.out.2 6 (by simp)
 have rL:=HAz.out.1
 go_wp2_with fail
 refine (HT.out _ _ (HKM.out _ _ _ HI.out HB.out)).mono ?_
 rintro e w17 ⟨⟨uma,uca,usa,uea,uua,uda,umc,ucc,usc,uec,uuc,udc,rfl,hM,hN⟩,hb17⟩
 replace HB:=hid_intro (HB.out.trans (hb17.mono HB.out.size))
 replace HBW:=hid_intro (HBW.out.trans (hb17.mono HBW.out.size))
 replace HX2:=hid_intro (HX2.out.below hb17)
 replace HQ:=hid_intro (HQ.out.trans (hb17.mono HQ.out.size))
 have MV:=hid_intro hM
 clear hM hN HAz
 clear hb17
 clear r0 r1 r2 r3 r4 r5 r6 rL
 go_wp2_with fail
 refine (HM.out _ _ (HLK.out _ _ HLD.out HB.out) MV.out).mono ?_
 rintro e w18 ⟨v,rfl,hv,hb18⟩
 replace HB:=hid_intro (HB.out.trans (hb18.mono HB.out.size))
 replace HBW:=hid_intro (HBW.out.trans (hb18.mono HBW.out.size))
 replace HX2:=hid_intro (HX2.out.below hb18)
 replace HQ:=hid_intro (HQ.out.trans (hb18.mono HQ.out.size))
 obtain ⟨a3,n3,c3,e3,rfl⟩:=HF.out _ _ _ hv
 have HR3:=hid_intro (HOR.out _ _ _ hv)
 clear hv MV
 clear hb18
 have HX1z:=hid_intro (HX6.out.below HBW.out)
 obtain ⟨w19,hw19⟩:∃z,z=w18.alloc (.cells #[.slice a3 n3 c3,.int .i64 e3] 35):=⟨_,rfl⟩
 have al:Below w18.heap.size w18 w19:=by rw [hw19];exact (Below.refl _ _).alloc (Nat.le_refl _) _
 have HX3:Hid (Blk w18.heap.size [.slice a3 n3 c3,.int .i64 e3] w19):=hid_intro (by rw [hw19];exact Blk.new w18 [.slice a3 n3 c3,.int .i64 e3] 35)
 replace HB:=hid_intro (HB.out.trans (al.mono HB.out.size))
 replace HBW:=hid_intro (HBW.out.trans (al.mono HBW.out.size))
 replace HX2:=hid_intro (HX2.out.below al)
 replace HQ:=hid_intro (HQ.out.trans (al.mono HQ.out.size))
 replace HR3:=hid_intro (HR.out _ _ _ HR3.out al)
 obtain ⟨B3,hB3⟩:∃z,z=w18.heap.size:=⟨_,rfl⟩
 rw [←hB3] at HX3
 have HW:=hid_intro hw19
 have HBBB3:=hid_intro hB3
 clear al hw19 hB3
 have x0:w18.cell? ⟨B1,0,none⟩=some (.slice a1 n1 c1):=HX1z.out.2 0 (by simp)
 have x1:w18.cell? ⟨B1,1,none⟩=some (.int .i64 e1):=HX1z.out.2 1 (by simp)
 have xL:=HX1z.out.1
 go_wp2_with fail
 rw [←HW.out,←HBBB3.out]
 clear HW HX1z
 clear x0 x1 xL
 refine (HE.out _ _ _ HR3.out (HR.out _ _ _ HR6.out HBW.out)).mono ?_
 rintro e w20 ⟨rfl,hb20⟩
 replace HB:=hid_intro (HB.out.trans (hb20.mono HB.out.size))
 replace HBW:=hid_intro (HBW.out.trans (hb20.mono HBW.out.size))
 replace HX2:=hid_intro (HX2.out.below hb20)
 replace HQ:=hid_intro (HQ.out.trans (hb20.mono HQ.out.size))
 replace HR3:=hid_intro (HR.out _ _ _ HR3.out hb20)
 clear hb20
 have y0:w20.cell? ⟨B2,0,none⟩=some (.slice a2 n2 c2):=HX2.out.2 0 (by simp)
 have y1:w20.cell? ⟨B2,1,none⟩=some (.int .i64 e2):=HX2.out.2 1 (by simp)
 have yL:=HX2.out.1
 go_wp2_with fail
 refine (HH.out _ HQ.out).mono ?_
 rintro e w21 ⟨rfl,hb21⟩
 replace HB:=hid_intro (HB.out.trans (hb21.mono HB.out.size))
 replace HBW:=hid_intro (HBW.out.trans (hb21.mono HBW.out.size))
 replace HX2:=hid_intro (HX2.out.below hb21)
 replace HQ:=hid_intro (HQ.out.trans (hb21.mono HQ.out.size))
 replace HR3:=hid_intro (HR.out _ _ _ HR3.out hb21)
 clear hb21
 clear y0 y1 yL
 go_wp2_with fail
 go_ret
 exact ⟨rfl,HB.out⟩
theorem bnB_len {x:Eng} {v:Int} {a:ByteArray} {m:Int}:(bnB x v a m).1.length≤1048576:=by
 by_cases h:8000<a.size
 ·rw [bn_long h];exact Nat.zero_le _
 ·cases he:engB x v
  ·rw [bn_ill h he];exact Nat.zero_le _
  ·rw [bn_one h he]
   exact BilA.bill_len (Nat.le_trans (engB_ws he (BilR.inW a m)).1 (by omega))
theorem walk (x:Eng) (v:Value) (a:ByteArray) (ha:a.size≤maxLen) (m:Int) (w:World) (hI:IsEng v x w) (hin:x.In) (hd:∀d∈x.ds,(Lit.int .i64 d.mo).wf=true) (hL:LayB.Ok w) :
 Calls Tryz.prog 3 #[v,.string a,.int .i64 m] w fun e w'=>e=.returned (.bool true)∧Below w.heap.size w w':=by
 obtain ⟨n,n1,n2⟩:=start_num x.fr
 have hI':=hI
 obtain ⟨ma,mc,ca,cc,sa,sc,ea,ec,ua,uc,da,dc,rfl,_⟩:=hI'
 exact law_in x.Small (fun v w=>IsEng v x w) (fun b t v w=>MkE b t v x w) LayB.Ok (fun v W=>BilA.BR (bnB x n a m) v W) (fun b v W=>BilA.BW (bnB x n a m) b v W) ma x.c.ms.length mc ca x.c.cs.length cc sa x.ss.length sc ea x.es.length ec ua x.ws.length uc da x.ds.length dc x.fr a m w hI hL
  (fun v w w' h hb=>h.below hb) (fun w w' h hb=>h.below hb) (fun b t v w w' h hk=>h.kq hk) (fun v W W' h hb=>by obtain ⟨u,e,h⟩:=h;exact ⟨u,e,h.below hb⟩) (fun b v W h=>by obtain ⟨u,e,h⟩:=h;exact ⟨u,e,h.reads⟩) (fun b v W W' h hk=>by obtain ⟨u,e,h⟩:=h;exact ⟨u,e,h.kq hk⟩)
  (fun b v W h=>by
   obtain ⟨u,rfl,h⟩:=h
   obtain ⟨x,n,y,rfl⟩:=h.shape
   exact ⟨x,n,y,_,rfl⟩)
  (fun w h=>szEng _ x w hin h)
  (fun hs v w h=>(toEng v x w hs h).mono fun e w' h2=>by
   obtain ⟨v',rfl,hE,hN,hb⟩:=h2
   have hE':=hE
   obtain ⟨ma',mc',ca',cc',sa',sc',ea',ec',ua',uc',da',dc',rfl,_⟩:=hE'
   exact ⟨⟨ma',ca',sa',ea',ua',da',mc',cc',sc',ec',uc',dc',rfl,hE,hN⟩,hb⟩)
  (fun hq hs v w hl h=>(spec_bn v x n a m w hs h (by omega) (fun a b W hW=>n2 a b W)).mono fun e w' h=>BilA.blo_bw h)
  (fun hq hs v w hl h=>(impl_bn v x n a m w hs h hd (by omega) hl.1 hl.2.1 hl.2.2 (fun a b W hW=>n1 a b W (hl.below hW).2.1)).mono fun e w' h=>BilA.blo_bw h)
  (fun hs v v' W h h'=>BilA.eqB bnB_len h h') (fun hs v v' w h h'=>eqEngA v v' x w hs h h') (fun hs base top v w h=>h.marked hs) (fun hs base v Wt W h hk=>BilA.markB bnB_len h hk)
end BillNowL
end Go.Proofs.YtmalfhhkjdkadaaGreatDoor
