/-
  FnExactTick: for every engine and every further argument the law's call returns true (the program's Tick hands back what the model's does, writes into no argument and keeps nothing of one; its answer is its own, behind another call too), and the arguments read as they did.
  The conditions stand in what each theorem says.
-/
import Derived.Deep.RegionHeld3
import Derived.Test.YtnceeaccbcfopaaGreatDoorT39
set_option maxRecDepth 100000
set_option maxHeartbeats 16000000
namespace Go.Proofs.YtnceeaccbcfopaaGreatDoor
open Go.ChangeShapes Go.WideShapes Go.ChangeAt Go.RowKit
open Go.ChangeMaps (open_string shut_string)
set_option linter.unusedVariables false
namespace TickL
open CatR EngR ChG
def BX (w5:World) (B1 B2:Nat) (a0 a1 a2 a3 a4 a5 a6 b0 b1 b2 b3 b4 b5 b6:Value) (W:World):Prop:=Below w5.heap.size w5 W∧B1<W.heap.size∧B2<W.heap.size∧W.cell? ⟨B1,0,none⟩=some a0∧W.cell? ⟨B1,1,none⟩=some a1∧W.cell? ⟨B1,2,none⟩=some a2∧W.cell? ⟨B1,3,none⟩=some a3∧W.cell? ⟨B1,4,none⟩=some a4∧W.cell? ⟨B1,5,none⟩=some a5∧W.cell? ⟨B1,6,none⟩=some a6∧W.cell? ⟨B2,0,none⟩=some b0∧W.cell? ⟨B2,1,none⟩=some b1∧W.cell? ⟨B2,2,none⟩=some b2∧W.cell? ⟨B2,3,none⟩=some b3∧W.cell? ⟨B2,4,none⟩=some b4∧W.cell? ⟨B2,5,none⟩=some b5∧W.cell? ⟨B2,6,none⟩=some b6
theorem BX.below {w5:World} {B1 B2:Nat} {a0 a1 a2 a3 a4 a5 a6 b0 b1 b2 b3 b4 b5 b6:Value} {W W':World} (h:BX w5 B1 B2 a0 a1 a2 a3 a4 a5 a6 b0 b1 b2 b3 b4 b5 b6 W) (hb:Below W.heap.size W W'):BX w5 B1 B2 a0 a1 a2 a3 a4 a5 a6 b0 b1 b2 b3 b4 b5 b6 W':=by
 obtain ⟨h0,l1,l2,p0,p1,p2,p3,p4,p5,p6,p7,p8,p9,p10,p11,p12,p13⟩:=h
 have f:=fun o=>hb.cell (p:=⟨B1,o,none⟩) l1
 have g:=fun o=>hb.cell (p:=⟨B2,o,none⟩) l2
 have hs:=hb.size
 exact ⟨h0.trans (hb.mono h0.size),by omega,by omega,(f 0).trans p0,(f 1).trans p1,(f 2).trans p2,(f 3).trans p3,(f 4).trans p4,(f 5).trans p5,(f 6).trans p6,(g 0).trans p7,(g 1).trans p8,(g 2).trans p9,(g 3).trans p10,(g 4).trans p11,(g 5).trans p12,(g 6).trans p13⟩
theorem BX.drew {w5:World} {B1 B2:Nat} {a0 a1 a2 a3 a4 a5 a6 b0 b1 b2 b3 b4 b5 b6:Value} {W:World} (h:BX w5 B1 B2 a0 a1 a2 a3 a4 a5 a6 b0 b1 b2 b3 b4 b5 b6 W):BX w5 B1 B2 a0 a1 a2 a3 a4 a5 a6 b0 b1 b2 b3 b4 b5 b6 W.drew:=⟨h.1.drew,h.2⟩
theorem law_in (P:Prop) (M:Value→World→Prop) (N:Nat→Nat→Value→World→Prop) (L:World→Prop) (R:Value→World→Prop) (O:Nat→Value→World→Prop) (ma:Option Addr) (ml mc:Nat) (ca:Option Addr) (cl cc:Nat) (sa:Option Addr) (sl sc:Nat) (ea:Option Addr) (el ec:Nat) (ua:Option Addr) (ul uc:Nat) (da:Option Addr) (dl dc:Nat) (fr:Int) (a:ByteArray) (m:Int) (w:World)
 (hI:M (.agg #[.slice ma ml mc,.slice ca cl cc,.slice sa sl sc,.slice ea el ec,.slice ua ul uc,.slice da dl dc,.int .i64 fr]) w)
 (hL:L w)
 (hkm:∀v w w',M v w→Below w.heap.size w w'→M v w')
 (hkl:∀w w',L w→Below w.heap.size w w'→L w')
 (hkn:∀b t v w w',N b t v w→Kq b w w'→N b t v w')
 (hR:∀v W W',R v W→Below W.heap.size W W'→R v W')
 (hOR:∀b v W,O b v W→R v W)
 (hOK:∀b v W W',O b v W→Kq b W W'→O b v W')
 (hF:∀v W,R v W→∃(a0:Option Addr) (an0:Nat) (ac0:Nat) (b0:Option Addr) (bn0:Nat) (bc0:Nat) (c0:Option Addr) (cn0:Nat) (cc0:Nat) (d0:Option Addr) (dn0:Nat) (dc0:Nat) (e0:Option Addr) (en0:Nat) (ec0:Nat) (f0:Option Addr) (fn0:Nat) (fc0:Nat) (g0:Int) (t0_0:Int) (t1_0:Int) (t2_0:Int) (t3_0:Int) (t4_0:Int) (h0:Option Addr) (hn0:Nat) (hc0:Nat) (cd0:Int),v=.agg #[.slice a0 an0 ac0,.slice b0 bn0 bc0,.slice c0 cn0 cc0,.slice d0 dn0 dc0,.slice e0 en0 ec0,.slice f0 fn0 fc0,.int .i64 g0,.int .i64 t0_0,.int .i64 t1_0,.int .i64 t2_0,.int .i64 t3_0,.int .i64 t4_0,.slice h0 hn0 hc0,.int .i64 cd0])
 (hZ:∀w,M (.agg #[.slice ma ml mc,.slice ca cl cc,.slice sa sl sc,.slice ea el ec,.slice ua ul uc,.slice da dl dc,.int .i64 fr]) w→Calls Tryz.prog 4 #[.agg #[.slice ma ml mc,.slice ca cl cc,.slice sa sl sc,.slice ea el ec,.slice ua ul uc,.slice da dl dc,.int .i64 fr],.int .i64 1048576] w fun e w'=>SzOut 1048576 P e∧Below w.heap.size w w')
 (hT:P→∀v w,M v w→Calls Tryz.prog 6 #[v] w fun e w'=>(∃(pma pca psa pea pua pda:Option Addr) (pmc pcc psc pec puc pdc:Nat),e=.returned (.agg #[.slice pma ml pmc,.slice pca cl pcc,.slice psa sl psc,.slice pea el pec,.slice pua ul puc,.slice pda dl pdc,.int .i64 fr])∧M (.agg #[.slice pma ml pmc,.slice pca cl pcc,.slice psa sl psc,.slice pea el pec,.slice pua ul puc,.slice pda dl pdc,.int .i64 fr]) w'∧N w.heap.size w'.heap.size (.agg #[.slice pma ml pmc,.slice pca cl pcc,.slice psa sl psc,.slice pea el pec,.slice pua ul puc,.slice pda dl pdc,.int .i64 fr]) w')∧Below w.heap.size w w')
 (hS:¬(1048576:Int)<(a.size:Int)→P→∀v w,L w→M v w→Calls Tryz.prog 5 #[v,.string a,.int .i64 m] w fun e w'=>∃v',e=.returned v'∧R v' w'∧Below w.heap.size w w')
 (hM:¬(1048576:Int)<(a.size:Int)→P→∀v w,L w→M v w→Calls Tryz.prog 7 #[v,.string a,.int .i64 m] w fun e w'=>∃v',e=.returned v'∧O w.heap.size v' w'∧Below w.heap.size w w')
 (hE:P→∀v v' W,R v W→R v' W→Calls Tryz.prog 8 #[v,v'] W fun e w'=>e=.returned (.bool true)∧Below W.heap.size W w')
 (hEE:P→∀v v' w,M v w→M v' w→Calls Tryz.prog 9 #[v,v'] w fun e w'=>e=.returned (.bool true)∧Below w.heap.size w w')
 (hMk:P→∀base top v w,N base top v w→Calls Tryz.prog 10 #[v,.int .i64 1] w fun e w'=>(∃K:Nat,e=.returned (.int .i64 (K:Nat)))∧Chg (fun b=>base≤b∧b<top) w w')
 (hK:P→∀base v Wt W,O base v Wt→Kq base Wt W→Calls Tryz.prog 11 #[v,.int .i64 1] W fun e w'=>∃KK:Nat,e=.returned (.int .i64 KK)∧Chg (fun b=>base≤b∧b<Wt.heap.size) W w'∧∀w2,Below w'.heap.size w' w2→Calls Tryz.prog 12 #[v,.int .i64 1] w2 fun e w3=>e=.returned (.int .i64 KK)∧Below w2.heap.size w2 w3) :
 Calls Tryz.prog 3 #[.agg #[.slice ma ml mc,.slice ca cl cc,.slice sa sl sc,.slice ea el ec,.slice ua ul uc,.slice da dl dc,.int .i64 fr],.string a,.int .i64 m] w fun e w'=>e=.returned (.bool true)∧Below w.heap.size w w':=by
 have HI:=H_ hI
 have HLD:=H_ hL
 have HKM:=H_ hkm
 have HLK:=H_ hkl
 have HKN:=H_ hkn
 have HR:=H_ hR
 have HOR:=H_ hOR
 have HOK:=H_ hOK
 have HF:=H_ hF
 have HZ:=H_ hZ
 have HT:=H_ hT
 have HS:=H_ hS
 have HM:=H_ hM
 have HE:=H_ hE
 have HEE:=H_ hEE
 have HMK:=H_ hMk
 have HK:=H_ hK
 clear hI hL hkm hkl hkn hR hOR hOK hF hZ hT hS hM hE hEE hMk hK
 by_cases hq:(1048576:Int)<(a.size:Int)
 ·go_enter Tryz.func3,Tryz.ntmps3
  go_wp2_with fail
  go_ret
  exact ⟨rfl,(Below.refl _ _).alloc (Nat.le_refl _) _⟩
 have HA:Hid (Blk w.heap.size [.slice ma ml mc,.slice ca cl cc,.slice sa sl sc,.slice ea el ec,.slice ua ul uc,.slice da dl dc,.int .i64 fr] (w.alloc (.cells #[.slice ma ml mc,.slice ca cl cc,.slice sa sl sc,.slice ea el ec,.slice ua ul uc,.slice da dl dc,.int .i64 fr] 31))):=H_ (Blk.new w _ _)
 have HB:Hid (Below w.heap.size w (w.alloc (.cells #[.slice ma ml mc,.slice ca cl cc,.slice sa sl sc,.slice ea el ec,.slice ua ul uc,.slice da dl dc,.int .i64 fr] 31))):=H_ (al_ _ _)
 go_enter Tryz.func3,Tryz.ntmps3
 go_wp2_with fail
 refine (HZ.out _ (HKM.out _ _ _ HI.out HB.out)).mono ?_
 rintro e w1 ⟨⟨Z1,rfl,hZ1⟩,hb1⟩
 replace HA:=H_ (HA.out.below hb1)
 replace HB:=HT_ HB hb1
 clear hb1
 rcases hZ1 with rfl|⟨hz0,hz1,hP⟩
 ·go_wp2_with fail
  go_ret
  exact ⟨rfl,HB.out⟩
 have hz2:¬Z1<0:=by omega
 replace HT:=H_ (HT.out hP)
 replace HS:=H_ (HS.out hq hP)
 replace HM:=H_ (HM.out hq hP)
 replace HE:=H_ (HE.out hP)
 replace HEE:=H_ (HEE.out hP)
 replace HMK:=H_ (HMK.out hP)
 replace HK:=H_ (HK.out hP)
 clear hP HZ
 have r0:=q_ HA.out.2 0
 have r1:=q_ HA.out.2 1
 have r2:=q_ HA.out.2 2
 have r3:=q_ HA.out.2 3
 have r4:=q_ HA.out.2 4
 have r5:=q_ HA.out.2 5
 have r6:=q_ HA.out.2 6
 have rL:=HA.out.1
 go_wp2_with fail
 refine (HT.out _ _ (HKM.out _ _ _ HI.out HB.out)).mono ?_
 rintro e w2 ⟨⟨yma,yca,ysa,yea,yua,yda,ymc,ycc,ysc,yec,yuc,ydc,rfl,hM,hN⟩,hb2⟩
 replace HA:=H_ (HA.out.below hb2)
 replace HB:=HT_ HB hb2
 have MV:=H_ hM
 clear hM hN
 clear hb2
 clear r0 r1 r2 r3 r4 r5 r6 rL
 go_wp2_with fail
 refine (HS.out _ _ (HLK.out _ _ HLD.out HB.out) MV.out).mono ?_
 rintro e w3 ⟨v,rfl,hv,hb3⟩
 replace HA:=H_ (HA.out.below hb3)
 replace HB:=HT_ HB hb3
 obtain ⟨a1,an1,ac1,b1,bn1,bc1,c1,cn1,cc1,d1,dn1,dc1,e1,en1,ec1,f1,fn1,fc1,g1,t0_1,t1_1,t2_1,t3_1,t4_1,h1,hn1,hc1,cd1,rfl⟩:=HF.out _ _ hv
 have HR1:=H_ hv
 clear hv MV
 clear hb3
 have HAz:=HA
 obtain ⟨w4,hw4⟩:∃z,z=w3.alloc (.cells #[.slice a1 an1 ac1,.slice b1 bn1 bc1,.slice c1 cn1 cc1,.slice d1 dn1 dc1,.slice e1 en1 ec1,.slice f1 fn1 fc1,.int .i64 g1,.int .i64 t0_1,.int .i64 t1_1,.int .i64 t2_1,.int .i64 t3_1,.int .i64 t4_1,.slice h1 hn1 hc1,.int .i64 cd1] 46):=⟨_,rfl⟩
 have al:Below w3.heap.size w3 w4:=by rw [hw4];exact (Below.refl _ _).alloc (Nat.le_refl _) _
 have HX1:Hid (Blk w3.heap.size [.slice a1 an1 ac1,.slice b1 bn1 bc1,.slice c1 cn1 cc1,.slice d1 dn1 dc1,.slice e1 en1 ec1,.slice f1 fn1 fc1,.int .i64 g1,.int .i64 t0_1,.int .i64 t1_1,.int .i64 t2_1,.int .i64 t3_1,.int .i64 t4_1,.slice h1 hn1 hc1,.int .i64 cd1] w4):=H_ (by rw [hw4];exact Blk.new w3 [.slice a1 an1 ac1,.slice b1 bn1 bc1,.slice c1 cn1 cc1,.slice d1 dn1 dc1,.slice e1 en1 ec1,.slice f1 fn1 fc1,.int .i64 g1,.int .i64 t0_1,.int .i64 t1_1,.int .i64 t2_1,.int .i64 t3_1,.int .i64 t4_1,.slice h1 hn1 hc1,.int .i64 cd1] 46)
 replace HA:=H_ (HA.out.below al)
 replace HB:=HT_ HB al
 replace HR1:=H_ (HR.out _ _ _ HR1.out al)
 obtain ⟨B1,hB1⟩:∃z,z=w3.heap.size:=⟨_,rfl⟩
 rw [←hB1] at HX1
 have HW:=H_ hw4
 have HBBB1:=H_ hB1
 clear al hw4 hB1
 have HBW:=H_ (Below.refl w4.heap.size w4)
 have HSZ0:Hid (w.heap.size≤w4.heap.size):=H_ HB.out.size
 have HA6:=HA
 have HR6:=HR1
 clear HR1
 have HX6:=HX1
 clear HX1 HA
 have r0:=q_ HAz.out.2 0
 have r1:=q_ HAz.out.2 1
 have r2:=q_ HAz.out.2 2
 have r3:=q_ HAz.out.2 3
 have r4:=q_ HAz.out.2 4
 have r5:=q_ HAz.out.2 5
 have r6:=q_ HAz.out.2 6
 have rL:=HAz.out.1
 go_wp2_with fail
 rw [←HW.out,←HBBB1.out]
 clear HW HAz
 clear r0 r1 r2 r3 r4 r5 r6 rL
 refine (HT.out _ _ (HKM.out _ _ _ HI.out HB.out)).mono ?_
 rintro e w5 ⟨⟨xma,xca,xsa,xea,xua,xda,xmc,xcc,xsc,xec,xuc,xdc,rfl,hM,hN⟩,hb5⟩
 replace HB:=HT_ HB hb5
 replace HBW:=HT_ HBW hb5
 have MX:=H_ hM
 have HN:=H_ hN
 have HSZ1:Hid (w4.heap.size≤w5.heap.size):=H_ hb5.size
 clear hM hN
 clear hb5
 obtain ⟨w6,hw6⟩:∃z,z=w5.alloc (.cells #[.slice xma ml xmc,.slice xca cl xcc,.slice xsa sl xsc,.slice xea el xec,.slice xua ul xuc,.slice xda dl xdc,.int .i64 fr] 42):=⟨_,rfl⟩
 have al:Below w5.heap.size w5 w6:=by rw [hw6];exact (Below.refl _ _).alloc (Nat.le_refl _) _
 have HX0:Hid (Blk w5.heap.size [.slice xma ml xmc,.slice xca cl xcc,.slice xsa sl xsc,.slice xea el xec,.slice xua ul xuc,.slice xda dl xdc,.int .i64 fr] w6):=H_ (by rw [hw6];exact Blk.new w5 [.slice xma ml xmc,.slice xca cl xcc,.slice xsa sl xsc,.slice xea el xec,.slice xua ul xuc,.slice xda dl xdc,.int .i64 fr] 42)
 replace HB:=HT_ HB al
 replace HBW:=HT_ HBW al
 replace MX:=H_ (HKM.out _ _ _ MX.out al)
 replace HN:=H_ (HKN.out _ _ _ _ _ HN.out (Kq.below (Kq.refl _ _) al))
 obtain ⟨B0,hB0⟩:∃z,z=w5.heap.size:=⟨_,rfl⟩
 rw [←hB0] at HX0
 have HW:=H_ hw6
 have HBBB0:=H_ hB0
 clear al hw6 hB0
 have HSZ2:Hid (w5.heap.size<w6.heap.size):=H_ (by have:=HX0.out.1;have:=HBBB0.out;omega)
 go_wp2_with fail
 rw [←HW.out,←HBBB0.out]
 clear HW
 refine (HM.out _ _ (HLK.out _ _ HLD.out HB.out) MX.out).mono ?_
 rintro e w7 ⟨v,rfl,hv,hb7⟩
 replace HB:=HT_ HB hb7
 replace HBW:=HT_ HBW hb7
 replace MX:=H_ (HKM.out _ _ _ MX.out hb7)
 replace HN:=H_ (HKN.out _ _ _ _ _ HN.out (Kq.below (Kq.refl _ _) hb7))
 replace HX0:=H_ (HX0.out.below hb7)
 have HO2:=H_ hv
 obtain ⟨a2,an2,ac2,b2,bn2,bc2,c2,cn2,cc2,d2,dn2,dc2,e2,en2,ec2,f2,fn2,fc2,g2,t0_2,t1_2,t2_2,t3_2,t4_2,h2,hn2,hc2,cd2,rfl⟩:=HF.out _ _ (HOR.out _ _ _ hv)
 have HKP:=H_ (Kq.refl w6.heap.size w7)
 have HS9:Hid (w6.heap.size≤w7.heap.size):=H_ hb7.size
 clear hv
 clear hb7
 have HX1z:=H_ (HX6.out.below HBW.out)
 obtain ⟨w8,hw8⟩:∃z,z=w7.alloc (.cells #[.slice a2 an2 ac2,.slice b2 bn2 bc2,.slice c2 cn2 cc2,.slice d2 dn2 dc2,.slice e2 en2 ec2,.slice f2 fn2 fc2,.int .i64 g2,.int .i64 t0_2,.int .i64 t1_2,.int .i64 t2_2,.int .i64 t3_2,.int .i64 t4_2,.slice h2 hn2 hc2,.int .i64 cd2] 46):=⟨_,rfl⟩
 have al:Below w7.heap.size w7 w8:=by rw [hw8];exact (Below.refl _ _).alloc (Nat.le_refl _) _
 have HX2:Hid (Blk w7.heap.size [.slice a2 an2 ac2,.slice b2 bn2 bc2,.slice c2 cn2 cc2,.slice d2 dn2 dc2,.slice e2 en2 ec2,.slice f2 fn2 fc2,.int .i64 g2,.int .i64 t0_2,.int .i64 t1_2,.int .i64 t2_2,.int .i64 t3_2,.int .i64 t4_2,.slice h2 hn2 hc2,.int .i64 cd2] w8):=H_ (by rw [hw8];exact Blk.new w7 [.slice a2 an2 ac2,.slice b2 bn2 bc2,.slice c2 cn2 cc2,.slice d2 dn2 dc2,.slice e2 en2 ec2,.slice f2 fn2 fc2,.int .i64 g2,.int .i64 t0_2,.int .i64 t1_2,.int .i64 t2_2,.int .i64 t3_2,.int .i64 t4_2,.slice h2 hn2 hc2,.int .i64 cd2] 46)
 replace HB:=HT_ HB al
 replace HBW:=HT_ HBW al
 replace MX:=H_ (HKM.out _ _ _ MX.out al)
 replace HN:=H_ (HKN.out _ _ _ _ _ HN.out (Kq.below (Kq.refl _ _) al))
 replace HX0:=H_ (HX0.out.below al)
 replace HKP:=H_ (HKP.out.below al)
 obtain ⟨B2,hB2⟩:∃z,z=w7.heap.size:=⟨_,rfl⟩
 rw [←hB2] at HX2
 have HW:=H_ hw8
 have HBBB2:=H_ hB2
 clear al hw8 hB2
 have HLB2:Hid (w6.heap.size≤B2):=H_ (by have:=HS9.out;have:=HBBB2.out;omega)
 have x0:=q_ HX1z.out.2 0
 have x1:=q_ HX1z.out.2 1
 have x2:=q_ HX1z.out.2 2
 have x3:=q_ HX1z.out.2 3
 have x4:=q_ HX1z.out.2 4
 have x5:=q_ HX1z.out.2 5
 have x6:=q_ HX1z.out.2 6
 have x7:=q_ HX1z.out.2 7
 have x8:=q_ HX1z.out.2 8
 have x9:=q_ HX1z.out.2 9
 have x10:=q_ HX1z.out.2 10
 have x11:=q_ HX1z.out.2 11
 have x12:=q_ HX1z.out.2 12
 have x13:=q_ HX1z.out.2 13
 have xL:=HX1z.out.1
 go_wp2_with fail
 rw [←HW.out,←HBBB2.out]
 clear HW HX1z
 clear x0 x1 x2 x3 x4 x5 x6 x7 x8 x9 x10 x11 x12 x13 xL
 refine (HE.out _ _ _ (HOR.out _ _ _ (HOK.out _ _ _ _ HO2.out HKP.out)) (HR.out _ _ _ HR6.out HBW.out)).mono ?_
 rintro e w9 ⟨rfl,hb9⟩
 replace HB:=HT_ HB hb9
 replace HBW:=HT_ HBW hb9
 replace MX:=H_ (HKM.out _ _ _ MX.out hb9)
 replace HN:=H_ (HKN.out _ _ _ _ _ HN.out (Kq.below (Kq.refl _ _) hb9))
 replace HX0:=H_ (HX0.out.below hb9)
 replace HKP:=H_ (HKP.out.below hb9)
 replace HX2:=H_ (HX2.out.below hb9)
 clear hb9
 have HAz:=H_ (HA6.out.below HBW.out)
 have r0:=q_ HAz.out.2 0
 have r1:=q_ HAz.out.2 1
 have r2:=q_ HAz.out.2 2
 have r3:=q_ HAz.out.2 3
 have r4:=q_ HAz.out.2 4
 have r5:=q_ HAz.out.2 5
 have r6:=q_ HAz.out.2 6
 have rL:=HAz.out.1
 have s0:=q_ HX0.out.2 0
 have s1:=q_ HX0.out.2 1
 have s2:=q_ HX0.out.2 2
 have s3:=q_ HX0.out.2 3
 have s4:=q_ HX0.out.2 4
 have s5:=q_ HX0.out.2 5
 have s6:=q_ HX0.out.2 6
 have sL:=HX0.out.1
 have HS0:Hid (BX w9 w.heap.size B0 (.slice ma ml mc) (.slice ca cl cc) (.slice sa sl sc) (.slice ea el ec) (.slice ua ul uc) (.slice da dl dc) (.int .i64 fr) (.slice xma ml xmc) (.slice xca cl xcc) (.slice xsa sl xsc) (.slice xea el xec) (.slice xua ul xuc) (.slice xda dl xdc) (.int .i64 fr) w9):=H_ ⟨Below.refl _ _,rL,sL,r0,r1,r2,r3,r4,r5,r6,s0,s1,s2,s3,s4,s5,s6⟩
 have HS1:=H_ HS0.out.drew
 have HM5:Hid (∀W,Below w9.heap.size w9 W→Calls Tryz.prog 6 #[.agg #[.slice ma ml mc,.slice ca cl cc,.slice sa sl sc,.slice ea el ec,.slice ua ul uc,.slice da dl dc,.int .i64 fr]] W fun e w'=>(∃(pma pca psa pea pua pda:Option Addr) (pmc pcc psc pec puc pdc:Nat),e=.returned (.agg #[.slice pma ml pmc,.slice pca cl pcc,.slice psa sl psc,.slice pea el pec,.slice pua ul puc,.slice pda dl pdc,.int .i64 fr])∧M (.agg #[.slice pma ml pmc,.slice pca cl pcc,.slice psa sl psc,.slice pea el pec,.slice pua ul puc,.slice pda dl pdc,.int .i64 fr]) w'∧M (.agg #[.slice xma ml xmc,.slice xca cl xcc,.slice xsa sl xsc,.slice xea el xec,.slice xua ul xuc,.slice xda dl xdc,.int .i64 fr]) w')∧Below W.heap.size W w'):=H_ (fun W hW=>(HT.out _ W (HKM.out _ _ _ HI.out (HB.out.trans (hW.mono HB.out.size)))).mono fun e w' h=>by
  obtain ⟨⟨pma,pca,psa,pea,pua,pda,pmc,pcc,psc,pec,puc,pdc,he,h1,_⟩,hb⟩:=h
  exact ⟨⟨pma,pca,psa,pea,pua,pda,pmc,pcc,psc,pec,puc,pdc,he,h1,HKM.out _ _ _ MX.out (hW.trans (hb.mono hW.size))⟩,hb⟩)
 go_wp2_with fail
 go_region_held3 (fun W=>Below w9.heap.size w9 W∧w.heap.size<W.heap.size∧B0<W.heap.size∧W.cell? ⟨w.heap.size,0,none⟩=some (.slice ma ml mc)∧W.cell? ⟨w.heap.size,1,none⟩=some (.slice ca cl cc)∧W.cell? ⟨w.heap.size,2,none⟩=some (.slice sa sl sc)∧W.cell? ⟨w.heap.size,3,none⟩=some (.slice ea el ec)∧W.cell? ⟨w.heap.size,4,none⟩=some (.slice ua ul uc)∧W.cell? ⟨w.heap.size,5,none⟩=some (.slice da dl dc)∧W.cell? ⟨w.heap.size,6,none⟩=some (.int .i64 fr)∧W.cell? ⟨B0,0,none⟩=some (.slice xma ml xmc)∧W.cell? ⟨B0,1,none⟩=some (.slice xca cl xcc)∧W.cell? ⟨B0,2,none⟩=some (.slice xsa sl xsc)∧W.cell? ⟨B0,3,none⟩=some (.slice xea el xec)∧W.cell? ⟨B0,4,none⟩=some (.slice xua ul xuc)∧W.cell? ⟨B0,5,none⟩=some (.slice xda dl xdc)∧W.cell? ⟨B0,6,none⟩=some (.int .i64 fr)) (first|assumption|(exact HS0.out)|(exact HS1.out)|(exact @BX.below w9 (w.heap.size) B0 _ _ _ _ _ _ _ _ _ _ _ _ _ _ _ _ (by assumption) hb10)|(exact @BX.below w9 (w.heap.size) B0 _ _ _ _ _ _ _ _ _ _ _ _ _ _ _ _ (by assumption) hb11))
  (first|(go_at_call 6;refine (HM5.out _ (by first|exact (by assumption:BX w9 _ _ _ _ _ _ _ _ _ _ _ _ _ _ _ _ _).1|exact HS0.out.1|exact HS1.out.1)).mono ?_;rintro e w10 ⟨⟨zma,zca,zsa,zea,zua,zda,zmc,zcc,zsc,zec,zuc,zdc,rfl,hN6,hN7⟩,hb10⟩)|(go_at_call 9;refine (HEE.out _ _ _ hN7 hN6).mono ?_;rintro e w11 ⟨rfl,hb11⟩))
 rename_i hS
 have hbS:=hS.1
 replace HB:=HT_ HB hbS
 replace HBW:=HT_ HBW hbS
 replace MX:=H_ (HKM.out _ _ _ MX.out hbS)
 replace HN:=H_ (HKN.out _ _ _ _ _ HN.out (Kq.below (Kq.refl _ _) hbS))
 replace HX0:=H_ (HX0.out.below hbS)
 replace HKP:=H_ (HKP.out.below hbS)
 replace HX2:=H_ (HX2.out.below hbS)
 clear hS hbS HS0 HS1 HM5 HAz hN6 hN7 hb10 hb11
 clear r0 r1 r2 r3 r4 r5 r6 rL
 clear s0 s1 s2 s3 s4 s5 s6 sL
 clear MX
 have s0:=HX0.out.2 0 (by simp)
 have s1:=HX0.out.2 1 (by simp)
 have s2:=HX0.out.2 2 (by simp)
 have s3:=HX0.out.2 3 (by simp)
 have s4:=HX0.out.2 4 (by simp)
 have s5:=HX0.out.2 5 (by simp)
 have s6:=HX0.out.2 6 (by simp)
 have sL:=HX0.out.1
 simp only [List.getElem?_cons_zero,List.getElem?_cons_succ] at s0 s1 s2 s3 s4 s5 s6
 go_wp2_with fail
 refine (HMK.out _ _ _ _ HN.out).mono ?_
 rintro e w13 ⟨⟨K1,rfl⟩,hc⟩
 clear s0 s1 s2 s3 s4 s5 s6 sL
 replace HB:=H_ (hc.out HB.out (fun b q=>by have:=HSZ0.out;have:=HSZ1.out;have:=HSZ2.out;omega) (Nat.le_refl _))
 replace HBW:=H_ (hc.out HBW.out (fun b q=>by have:=HSZ1.out;have:=HSZ2.out;omega) (Nat.le_refl _))
 replace HKP:=H_ (HKP.out.chg hc (fun b q=>by have:=HSZ2.out;omega))
 replace HX2:=H_ (ChG.Chg.blk hc HX2.out (fun q=>by have:=HLB2.out;have:=HBBB2.out;have:=HSZ2.out;omega))
 clear hc HN HX0
 have hkk:¬((K1:Nat):Int)<0:=by omega
 have HX1z:=H_ (HX6.out.below HBW.out)
 have x0:=q_ HX1z.out.2 0
 have x1:=q_ HX1z.out.2 1
 have x2:=q_ HX1z.out.2 2
 have x3:=q_ HX1z.out.2 3
 have x4:=q_ HX1z.out.2 4
 have x5:=q_ HX1z.out.2 5
 have x6:=q_ HX1z.out.2 6
 have x7:=q_ HX1z.out.2 7
 have x8:=q_ HX1z.out.2 8
 have x9:=q_ HX1z.out.2 9
 have x10:=q_ HX1z.out.2 10
 have x11:=q_ HX1z.out.2 11
 have x12:=q_ HX1z.out.2 12
 have x13:=q_ HX1z.out.2 13
 have xL:=HX1z.out.1
 have y0:=q_ HX2.out.2 0
 have y1:=q_ HX2.out.2 1
 have y2:=q_ HX2.out.2 2
 have y3:=q_ HX2.out.2 3
 have y4:=q_ HX2.out.2 4
 have y5:=q_ HX2.out.2 5
 have y6:=q_ HX2.out.2 6
 have y7:=q_ HX2.out.2 7
 have y8:=q_ HX2.out.2 8
 have y9:=q_ HX2.out.2 9
 have y10:=q_ HX2.out.2 10
 have y11:=q_ HX2.out.2 11
 have y12:=q_ HX2.out.2 12
 have y13:=q_ HX2.out.2 13
 have yL:=HX2.out.1
 go_wp2_with fail
 refine (HE.out _ _ _ (HOR.out _ _ _ (HOK.out _ _ _ _ HO2.out HKP.out)) (HR.out _ _ _ HR6.out HBW.out)).mono ?_
 rintro e w14 ⟨rfl,hb14⟩
 replace HB:=HT_ HB hb14
 replace HBW:=HT_ HBW hb14
 replace HKP:=H_ (HKP.out.below hb14)
 replace HX2:=H_ (HX2.out.below hb14)
 clear hb14
 clear x0 x1 x2 x3 x4 x5 x6 x7 x8 x9 x10 x11 x12 x13 xL
 clear HX1z
 clear y0 y1 y2 y3 y4 y5 y6 y7 y8 y9 y10 y11 y12 y13 yL
 have y0:=q_ HX2.out.2 0
 have y1:=q_ HX2.out.2 1
 have y2:=q_ HX2.out.2 2
 have y3:=q_ HX2.out.2 3
 have y4:=q_ HX2.out.2 4
 have y5:=q_ HX2.out.2 5
 have y6:=q_ HX2.out.2 6
 have y7:=q_ HX2.out.2 7
 have y8:=q_ HX2.out.2 8
 have y9:=q_ HX2.out.2 9
 have y10:=q_ HX2.out.2 10
 have y11:=q_ HX2.out.2 11
 have y12:=q_ HX2.out.2 12
 have y13:=q_ HX2.out.2 13
 have yL:=HX2.out.1
 have HMKO:=H_ (HK.out _ _ _ _ HO2.out HKP.out)
 go_wp2_with fail
 refine HMKO.out.mono ?_
 rintro e w15 ⟨KK,rfl,hc,hh⟩
 have HH:=H_ hh
 clear y0 y1 y2 y3 y4 y5 y6 y7 y8 y9 y10 y11 y12 y13 yL
 replace HB:=H_ (hc.out HB.out (fun b q=>by have:=HSZ0.out;have:=HSZ1.out;have:=HSZ2.out;omega) (Nat.le_refl _))
 replace HBW:=H_ (hc.out HBW.out (fun b q=>by have:=HSZ1.out;have:=HSZ2.out;omega) (Nat.le_refl _))
 replace HX2:=H_ (ChG.Chg.blk hc HX2.out (fun q=>by have:=HLB2.out;have:=HBBB2.out;have:=HSZ2.out;omega))
 clear hc hh HMKO HKP HO2
 have hk0:¬((KK:Nat):Int)<0:=by omega
 have HQ:=H_ (Below.refl w15.heap.size w15)
 have y0:=q_ HX2.out.2 0
 have y1:=q_ HX2.out.2 1
 have y2:=q_ HX2.out.2 2
 have y3:=q_ HX2.out.2 3
 have y4:=q_ HX2.out.2 4
 have y5:=q_ HX2.out.2 5
 have y6:=q_ HX2.out.2 6
 have y7:=q_ HX2.out.2 7
 have y8:=q_ HX2.out.2 8
 have y9:=q_ HX2.out.2 9
 have y10:=q_ HX2.out.2 10
 have y11:=q_ HX2.out.2 11
 have y12:=q_ HX2.out.2 12
 have y13:=q_ HX2.out.2 13
 have yL:=HX2.out.1
 go_wp2_with fail
 refine (HH.out _ HQ.out).mono ?_
 rintro e w16 ⟨rfl,hb16⟩
 replace HB:=HT_ HB hb16
 replace HBW:=HT_ HBW hb16
 replace HX2:=H_ (HX2.out.below hb16)
 replace HQ:=HT_ HQ hb16
 clear hb16
 clear y0 y1 y2 y3 y4 y5 y6 y7 y8 y9 y10 y11 y12 y13 yL
 have HAz:=H_ (HA6.out.below HBW.out)
 have r0:=q_ HAz.out.2 0
 have r1:=q_ HAz.out.2 1
 have r2:=q_ HAz.out.2 2
 have r3:=q_ HAz.out.2 3
 have r4:=q_ HAz.out.2 4
 have r5:=q_ HAz.out.2 5
 have r6:=q_ HAz.out.2 6
 have rL:=HAz.out.1
 go_wp2_with fail
 refine (HT.out _ _ (HKM.out _ _ _ HI.out HB.out)).mono ?_
 rintro e w17 ⟨⟨uma,uca,usa,uea,uua,uda,umc,ucc,usc,uec,uuc,udc,rfl,hM,hN⟩,hb17⟩
 replace HB:=HT_ HB hb17
 replace HBW:=HT_ HBW hb17
 replace HX2:=H_ (HX2.out.below hb17)
 replace HQ:=HT_ HQ hb17
 have MV:=H_ hM
 clear hM hN HAz
 clear hb17
 clear r0 r1 r2 r3 r4 r5 r6 rL
 go_wp2_with fail
 refine (HM.out _ _ (HLK.out _ _ HLD.out HB.out) MV.out).mono ?_
 rintro e w18 ⟨v,rfl,hv,hb18⟩
 replace HB:=HT_ HB hb18
 replace HBW:=HT_ HBW hb18
 replace HX2:=H_ (HX2.out.below hb18)
 replace HQ:=HT_ HQ hb18
 obtain ⟨a3,an3,ac3,b3,bn3,bc3,c3,cn3,cc3,d3,dn3,dc3,e3,en3,ec3,f3,fn3,fc3,g3,t0_3,t1_3,t2_3,t3_3,t4_3,h3,hn3,hc3,cd3,rfl⟩:=HF.out _ _ (HOR.out _ _ _ hv)
 have HR3:=H_ (HOR.out _ _ _ hv)
 clear hv MV
 clear hb18
 have HX1z:=H_ (HX6.out.below HBW.out)
 obtain ⟨w19,hw19⟩:∃z,z=w18.alloc (.cells #[.slice a3 an3 ac3,.slice b3 bn3 bc3,.slice c3 cn3 cc3,.slice d3 dn3 dc3,.slice e3 en3 ec3,.slice f3 fn3 fc3,.int .i64 g3,.int .i64 t0_3,.int .i64 t1_3,.int .i64 t2_3,.int .i64 t3_3,.int .i64 t4_3,.slice h3 hn3 hc3,.int .i64 cd3] 46):=⟨_,rfl⟩
 have al:Below w18.heap.size w18 w19:=by rw [hw19];exact (Below.refl _ _).alloc (Nat.le_refl _) _
 have HX3:Hid (Blk w18.heap.size [.slice a3 an3 ac3,.slice b3 bn3 bc3,.slice c3 cn3 cc3,.slice d3 dn3 dc3,.slice e3 en3 ec3,.slice f3 fn3 fc3,.int .i64 g3,.int .i64 t0_3,.int .i64 t1_3,.int .i64 t2_3,.int .i64 t3_3,.int .i64 t4_3,.slice h3 hn3 hc3,.int .i64 cd3] w19):=H_ (by rw [hw19];exact Blk.new w18 [.slice a3 an3 ac3,.slice b3 bn3 bc3,.slice c3 cn3 cc3,.slice d3 dn3 dc3,.slice e3 en3 ec3,.slice f3 fn3 fc3,.int .i64 g3,.int .i64 t0_3,.int .i64 t1_3,.int .i64 t2_3,.int .i64 t3_3,.int .i64 t4_3,.slice h3 hn3 hc3,.int .i64 cd3] 46)
 replace HB:=HT_ HB al
 replace HBW:=HT_ HBW al
 replace HX2:=H_ (HX2.out.below al)
 replace HQ:=HT_ HQ al
 replace HR3:=H_ (HR.out _ _ _ HR3.out al)
 obtain ⟨B3,hB3⟩:∃z,z=w18.heap.size:=⟨_,rfl⟩
 rw [←hB3] at HX3
 have HW:=H_ hw19
 have HBBB3:=H_ hB3
 clear al hw19 hB3
 have x0:=q_ HX1z.out.2 0
 have x1:=q_ HX1z.out.2 1
 have x2:=q_ HX1z.out.2 2
 have x3:=q_ HX1z.out.2 3
 have x4:=q_ HX1z.out.2 4
 have x5:=q_ HX1z.out.2 5
 have x6:=q_ HX1z.out.2 6
 have x7:=q_ HX1z.out.2 7
 have x8:=q_ HX1z.out.2 8
 have x9:=q_ HX1z.out.2 9
 have x10:=q_ HX1z.out.2 10
 have x11:=q_ HX1z.out.2 11
 have x12:=q_ HX1z.out.2 12
 have x13:=q_ HX1z.out.2 13
 have xL:=HX1z.out.1
 go_wp2_with fail
 rw [←HW.out,←HBBB3.out]
 clear HW HX1z
 clear x0 x1 x2 x3 x4 x5 x6 x7 x8 x9 x10 x11 x12 x13 xL
 refine (HE.out _ _ _ HR3.out (HR.out _ _ _ HR6.out HBW.out)).mono ?_
 rintro e w20 ⟨rfl,hb20⟩
 replace HB:=HT_ HB hb20
 replace HBW:=HT_ HBW hb20
 replace HX2:=H_ (HX2.out.below hb20)
 replace HQ:=HT_ HQ hb20
 replace HR3:=H_ (HR.out _ _ _ HR3.out hb20)
 clear hb20
 have y0:=q_ HX2.out.2 0
 have y1:=q_ HX2.out.2 1
 have y2:=q_ HX2.out.2 2
 have y3:=q_ HX2.out.2 3
 have y4:=q_ HX2.out.2 4
 have y5:=q_ HX2.out.2 5
 have y6:=q_ HX2.out.2 6
 have y7:=q_ HX2.out.2 7
 have y8:=q_ HX2.out.2 8
 have y9:=q_ HX2.out.2 9
 have y10:=q_ HX2.out.2 10
 have y11:=q_ HX2.out.2 11
 have y12:=q_ HX2.out.2 12
 have y13:=q_ HX2.out.2 13
 have yL:=HX2.out.1
 go_wp2_with fail
 refine (HH.out _ HQ.out).mono ?_
 rintro e w21 ⟨rfl,hb21⟩
 replace HB:=HT_ HB hb21
 replace HBW:=HT_ HBW hb21
 replace HX2:=H_ (HX2.out.below hb21)
 replace HQ:=HT_ HQ hb21
 replace HR3:=H_ (HR.out _ _ _ HR3.out hb21)
 clear hb21
 clear y0 y1 y2 y3 y4 y5 y6 y7 y8 y9 y10 y11 y12 y13 yL
 go_wp2_with fail
 go_ret
 exact ⟨rfl,HB.out⟩
theorem walk (x:Eng) (v:Value) (a:ByteArray) (ha:a.size≤maxLen) (m:Int) (w:World) (hI:IsEng v x w) (hin:x.In) (hd:∀d∈x.ds,(Lit.int .i64 d.mo).wf=true) (hL:LayE.Ok w) :
 Calls Tryz.prog 3 #[v,.string a,.int .i64 m] w fun e w'=>e=.returned (.bool true)∧Below w.heap.size w w':=by
 obtain ⟨n,n1,n2⟩:=start_num x.fr
 have hI':=hI
 obtain ⟨ma,mc,ca,cc,sa,sc,ea,ec,ua,uc,da,dc,rfl,_⟩:=hI'
 exact law_in x.Small (fun v w=>IsEng v x w) (fun b t v w=>MkE b t v x w) LayE.Ok (fun v W=>EoR (tkD x n a m) v W) (fun b v W=>EoQ (tkD x n a m) b v W) ma x.c.ms.length mc ca x.c.cs.length cc sa x.ss.length sc ea x.es.length ec ua x.ws.length uc da x.ds.length dc x.fr a m w hI hL
  (fun v w w' h hb=>h.below hb) (fun w w' h hb=>h.below hb) (fun b t v w w' h hk=>h.kq hk) (fun v W W' h hb=>h.below hb) (fun b v W h=>h.reads) (fun b v W W' h hk=>h.kq hk) (fun v W h=>h.shape)
  (fun w h=>szEng _ x w hin h)
  (fun hs v w h=>(toEng v x w hs h).mono fun e w' h2=>by
   obtain ⟨v',rfl,hE,hN,hb⟩:=h2
   have hE':=hE
   obtain ⟨ma',mc',ca',cc',sa',sc',ea',ec',ua',uc',da',dc',rfl,_⟩:=hE'
   exact ⟨⟨ma',ca',sa',ea',ua',da',mc',cc',sc',ec',uc',dc',rfl,hE,hN⟩,hb⟩)
  (fun hq hs v w hl h=>spec_tk v x n a m w hs h (fun a b W hW=>n2 a b W))
  (fun hq hs v w hl h=>impl_tk v x n a m w hs h hd (fun W hW=>(hl.below hW).1) (fun W hW=>(hl.below hW).2) (fun a b W hW=>n1 a b W (hl.below hW).2))
  (fun hs v v' W h h'=>eqEo (tk_small hs) h h') (fun hs v v' w h h'=>eqEngA v v' x w hs h h') (fun hs base top v w h=>h.marked hs) (fun hs base v Wt W h hk=>markEo tk_tot h hk)
end TickL
end Go.Proofs.YtnceeaccbcfopaaGreatDoor
