/-
  FnExactIssue: for every list of documents, every text, every number and every list of lines the law's call returns true (the program's Issue hands back what the model's does, writes into no list and keeps nothing of one; its answer is its own, behind another call too), and the arguments read as they did. The condition, told by the card: errors' own variable holds the handle of the type error.
-/
import Derived.Test.YtakeiankhfdjdaaGreatDoorTie
import Derived.Test.YtakeiankhfdjdaaGreatDoorCards
import Derived.Carry
import Derived.OpenVars
import Derived.SevenTiedAt
import Derived.Test.YtakeiankhfdjdaaGreatDoorI4
namespace Go.Proofs.YtakeiankhfdjdaaGreatDoor
open Go.ChangeShapes Go.WideShapes Go.ChangeAt Go.RowKit
open Go.ChangeMaps (open_string shut_string)
set_option linter.unusedVariables false
namespace IssueL
open LedR LinR RowG NetR
open EvtR (Pt)
open CatR (Blk Blk.new)
set_option maxRecDepth 100000 in
set_option maxHeartbeats 16000000 in
theorem law_in (R : Value → World → Prop) (O : Nat → Value → World → Prop) (p : Option Addr) (cap : Nat) (ds : List DocR.D) (a : ByteArray) (m : Int) (p2 : Option Addr) (cap2 : Nat) (bl : List N) (R1 R2 : Int) (KD KL : Nat) (w : World) (hsz : ¬ (1048576 : Int) < (a.size : Int)) (hR1 : ¬ R1 < 0) (hR2 : ¬ R2 < 0) (hI : Dcs p ds w) (hL : Lis p2 bl w)
    (hR : ∀ v W W', R v W → Below W.heap.size W W' → R v W')
    (hOR : ∀ b v W, O b v W → R v W)
    (hOK : ∀ b v W W', O b v W → (∀ k, b ≤ k → k < W.heap.size → W'.heap[k]? = W.heap[k]?) → O b v W')
    (hF : ∀ b v W, O b v W → ∃ (ao : Option Addr) (n c : Nat) (t : ByteArray) (m q : Int) (la : Option Addr) (k d : Nat) (cd : Int), v = .agg #[.slice ao n c, .string t, .int .i64 m, .int .i64 q, .slice la k d, .int .i64 cd])
    (hZ : Calls Tryz.prog 4 #[.slice p ds.length cap, .int .i64 1048576] w fun e w' => e = .returned (.int .i64 R1) ∧ Below w.heap.size w w')
    (hZL : ∀ W, Below w.heap.size w W → Calls Tryz.prog 5 #[.slice p2 bl.length cap2, .int .i64 R1] W fun e w' => e = .returned (.int .i64 R2) ∧ Below W.heap.size W w')
    (hT : ∀ ao cap w, Dcs ao ds w → Calls Tryz.prog 7 #[.slice ao ds.length cap] w fun e w' => e = .returned (.slice (some ⟨w.heap.size, 0, none⟩) ds.length ds.length) ∧ Dcs (some ⟨w.heap.size, 0, none⟩) ds w' ∧ Below w.heap.size w w' ∧ Pt w.heap.size (ds.length * 4) w' ∧ DW w.heap.size ds.length ds w')
    (hTL : ∀ ao cap w, Lis ao bl w → Calls Tryz.prog 8 #[.slice ao bl.length cap] w fun e w' => e = .returned (.slice (some ⟨w.heap.size, 0, none⟩) bl.length bl.length) ∧ Lis (some ⟨w.heap.size, 0, none⟩) bl w' ∧ Pt w.heap.size (bl.length * 2) w' ∧ Below w.heap.size w w')
    (hED : ∀ ao bo cap cap' w, Dcs ao ds w → Dcs bo ds w → Calls Tryz.prog 11 #[.slice ao ds.length cap, .slice bo ds.length cap'] w fun e w' => e = .returned (.bool true) ∧ Below w.heap.size w w')
    (hEL : ∀ ao bo cap cap' w, Lis ao bl w → Lis bo bl w → Calls Tryz.prog 12 #[.slice ao bl.length cap, .slice bo bl.length cap'] w fun e w' => e = .returned (.bool true) ∧ Below w.heap.size w w')
    (hMK : ∀ g top cap w, g < top → Pt g (ds.length * 4) w → DX g top ds.length ds w → Calls Tryz.prog 13 #[.slice (some ⟨g, 0, none⟩) ds.length cap, .int .i64 1] w fun e w' => e = .returned (.int .i64 (KD : Nat)) ∧ Ot g top w w')
    (hML : ∀ g cap w, Pt g (bl.length * 2) w → Calls Tryz.prog 14 #[.slice (some ⟨g, 0, none⟩) bl.length cap, .int .i64 (KD : Nat)] w fun e w' => e = .returned (.int .i64 (KL : Nat)) ∧ Ot g (g + 1) w w')
    (hS : ∀ bd bb cap cap' w, Dcs (some ⟨bd, 0, none⟩) ds w → Lis (some ⟨bb, 0, none⟩) bl w → Calls Tryz.prog 6 #[.slice (some ⟨bd, 0, none⟩) ds.length cap, .string a, .int .i64 m, .slice (some ⟨bb, 0, none⟩) bl.length cap'] w fun e w' => ∃ v, e = .returned v ∧ O w.heap.size v w' ∧ Below w.heap.size w w')
    (hM : ∀ bd bb W, Below w.heap.size w W → Dcs (some ⟨bd, 0, none⟩) ds W → Lis (some ⟨bb, 0, none⟩) bl W → Calls Tryz.prog 9 #[.slice (some ⟨bd, 0, none⟩) ds.length ds.length, .string a, .int .i64 m, .slice (some ⟨bb, 0, none⟩) bl.length bl.length] W fun e w' => ∃ v, e = .returned v ∧ O W.heap.size v w' ∧ Below W.heap.size W w')
    (hE : ∀ v v' W, R v W → R v' W → Calls Tryz.prog 10 #[v, v'] W fun e w' => e = .returned (.bool true) ∧ Below W.heap.size W w')
    (hK : ∀ base v Wt W, O base v Wt → Kp base Wt W → Calls Tryz.prog 15 #[v, .int .i64 1] W fun e w' => ∃ KK : Nat, e = .returned (.int .i64 KK) ∧ Ot base Wt.heap.size W w' ∧ ∀ w2, Below w'.heap.size w' w2 → Calls Tryz.prog 16 #[v, .int .i64 1] w2 fun e w3 => e = .returned (.int .i64 KK) ∧ Below w2.heap.size w2 w3) :
    Calls Tryz.prog 3 #[.slice p ds.length cap, .string a, .int .i64 m, .slice p2 bl.length cap2] w fun e w' => e = .returned (.bool true) ∧ Below w.heap.size w w' := by
  have HI := hid_intro hI
  have HL := hid_intro hL
  have HR := hid_intro hR
  have HOR := hid_intro hOR
  have HOK := hid_intro hOK
  have HF := hid_intro hF
  have HZ := hid_intro hZ
  have HZL := hid_intro hZL
  have HT := hid_intro hT
  have HTL := hid_intro hTL
  have HED := hid_intro hED
  have HEL := hid_intro hEL
  have HMK := hid_intro hMK
  have HML := hid_intro hML
  have HS := hid_intro hS
  have HM := hid_intro hM
  have HE := hid_intro hE
  have HK := hid_intro hK
  have hkl : ¬ ((KL : Nat) : Int) < 0 := by omega
  clear hI hL hR hOR hOK hF hZ hZL hT hTL hED hEL hMK hML hS hM hE hK
  generalize ds.length = len at *
  generalize bl.length = lb at *
  go_enter Tryz.func3, Tryz.ntmps3
  have HB := hid_intro (Below.refl w.heap.size w)
  go_wp2_with fail
  refine (HZ.out).mono ?_
  rintro e w1 ⟨rfl, hb1⟩
  replace HB := hid_intro (HB.out.trans (hb1.mono HB.out.size))
  clear hb1
  go_wp2_with fail
  refine (HZL.out _ HB.out).mono ?_
  rintro e w2 ⟨rfl, hb2⟩
  replace HB := hid_intro (HB.out.trans (hb2.mono HB.out.size))
  clear hb2
  go_wp2_with fail
  refine (HT.out _ _ _ (HI.out.below HB.out)).mono ?_
  rintro e w3 ⟨rfl, hE, hb3, hp, hd⟩
  replace HB := hid_intro (HB.out.trans (hb3.mono HB.out.size))
  have E3 := hid_intro hE
  clear hE hp hd
  clear hb3
  go_wp2_with fail
  refine (HTL.out _ _ _ (HL.out.below HB.out)).mono ?_
  rintro e w4 ⟨rfl, hE, hp, hb4⟩
  replace HB := hid_intro (HB.out.trans (hb4.mono HB.out.size))
  replace E3 := hid_intro (E3.out.below hb4)
  have F4 := hid_intro hE
  clear hE hp
  clear hb4
  go_wp2_with fail
  refine (HS.out _ _ _ _ _ E3.out F4.out).mono ?_
  rintro e w5 ⟨v, rfl, hv, hb5⟩
  replace HB := hid_intro (HB.out.trans (hb5.mono HB.out.size))
  obtain ⟨a1, n1, c1, t1, m1, s1, l1, k1, d1, e1, rfl⟩ := HF.out _ _ _ hv
  have HR1 := hid_intro (HOR.out _ _ _ hv)
  clear E3 F4 hv
  clear hb5
  obtain ⟨w6, hw6⟩ : ∃ z, z = w5.alloc (.cells #[.slice a1 n1 c1, .string t1, .int .i64 m1, .int .i64 s1, .slice l1 k1 d1, .int .i64 e1] 31) := ⟨_, rfl⟩
  have al : Below w5.heap.size w5 w6 := by rw [hw6]; exact (Below.refl _ _).alloc (Nat.le_refl _) _
  have HX1 : Hid (Blk w5.heap.size [.slice a1 n1 c1, .string t1, .int .i64 m1, .int .i64 s1, .slice l1 k1 d1, .int .i64 e1] w6) := hid_intro (by rw [hw6]; exact Blk.new w5 [.slice a1 n1 c1, .string t1, .int .i64 m1, .int .i64 s1, .slice l1 k1 d1, .int .i64 e1] 31)
  replace HB := hid_intro (HB.out.trans (al.mono HB.out.size))
  obtain ⟨B1, hB1⟩ : ∃ z, z = w5.heap.size := ⟨_, rfl⟩
  rw [← hB1] at HX1
  have HW := hid_intro hw6
  have HBBB1 := hid_intro hB1
  replace HR1 := hid_intro (HR.out _ _ _ HR1.out al)
  clear al hw6 hB1
  have HBW := hid_intro (Below.refl w6.heap.size w6)
  have HSZ0 : Hid (w.heap.size ≤ w6.heap.size) := hid_intro HB.out.size
  go_wp2_with fail
  rw [← HW.out, ← HBBB1.out]
  clear HW HBBB1
  refine (HT.out _ _ _ (HI.out.below HB.out)).mono ?_
  rintro e w7 ⟨rfl, hE, hb7, hp, hd⟩
  replace HB := hid_intro (HB.out.trans (hb7.mono HB.out.size))
  replace HBW := hid_intro (HBW.out.trans (hb7.mono HBW.out.size))
  have X0 := hid_intro hE
  have P0 := hid_intro hp
  have D0 : Hid (DX w6.heap.size w7.heap.size len ds w7) := hid_intro hd.dx
  clear hE hp hd
  have HSZ1 : w6.heap.size < w7.heap.size := P0.out.lt
  clear hb7
  go_wp2_with fail
  refine (HTL.out _ _ _ (HL.out.below HB.out)).mono ?_
  rintro e w8 ⟨rfl, hE, hp, hb8⟩
  replace D0 := hid_intro (D0.out.below P0.out.lt hb8)
  replace HB := hid_intro (HB.out.trans (hb8.mono HB.out.size))
  replace HBW := hid_intro (HBW.out.trans (hb8.mono HBW.out.size))
  replace X0 := hid_intro (X0.out.below hb8)
  replace P0 := hid_intro (P0.out.below hb8)
  have XL := hid_intro hE
  have PL := hid_intro hp
  clear hE hp
  have HSZ2 : w7.heap.size < w8.heap.size := PL.out.lt
  clear hb8
  go_wp2_with fail
  refine (HM.out _ _ _ HB.out X0.out XL.out).mono ?_
  rintro e w9 ⟨v, rfl, hv, hb9⟩
  replace D0 := hid_intro (D0.out.below P0.out.lt hb9)
  replace HB := hid_intro (HB.out.trans (hb9.mono HB.out.size))
  replace HBW := hid_intro (HBW.out.trans (hb9.mono HBW.out.size))
  replace X0 := hid_intro (X0.out.below hb9)
  replace P0 := hid_intro (P0.out.below hb9)
  replace XL := hid_intro (XL.out.below hb9)
  replace PL := hid_intro (PL.out.below hb9)
  have HO2 := hid_intro hv
  obtain ⟨a2, n2, c2, t2, m2, s2, l2, k2, d2, e2, rfl⟩ := HF.out _ _ _ hv
  have HKP := hid_intro (Kp.refl w8.heap.size w9)
  have HS89 : Hid (w8.heap.size ≤ w9.heap.size) := hid_intro hb9.size
  clear hv
  clear hb9
  have HX1z := hid_intro (HX1.out.below HBW.out)
  obtain ⟨w10, hw10⟩ : ∃ z, z = w9.alloc (.cells #[.slice a2 n2 c2, .string t2, .int .i64 m2, .int .i64 s2, .slice l2 k2 d2, .int .i64 e2] 31) := ⟨_, rfl⟩
  have al : Below w9.heap.size w9 w10 := by rw [hw10]; exact (Below.refl _ _).alloc (Nat.le_refl _) _
  have HX2 : Hid (Blk w9.heap.size [.slice a2 n2 c2, .string t2, .int .i64 m2, .int .i64 s2, .slice l2 k2 d2, .int .i64 e2] w10) := hid_intro (by rw [hw10]; exact Blk.new w9 [.slice a2 n2 c2, .string t2, .int .i64 m2, .int .i64 s2, .slice l2 k2 d2, .int .i64 e2] 31)
  replace D0 := hid_intro (D0.out.below P0.out.lt al)
  replace HB := hid_intro (HB.out.trans (al.mono HB.out.size))
  replace HBW := hid_intro (HBW.out.trans (al.mono HBW.out.size))
  replace X0 := hid_intro (X0.out.below al)
  replace P0 := hid_intro (P0.out.below al)
  replace XL := hid_intro (XL.out.below al)
  replace PL := hid_intro (PL.out.below al)
  replace HKP := hid_intro (HKP.out.below al)
  obtain ⟨B2, hB2⟩ : ∃ z, z = w9.heap.size := ⟨_, rfl⟩
  rw [← hB2] at HX2
  have HW := hid_intro hw10
  have HLB2 : Hid (w8.heap.size ≤ B2) := hid_intro (by have := HKP.out.size; have := HS89.out; omega)
  have HBBB2 := hid_intro hB2
  clear al hw10 hB2
  have x1_0 : w9.cell? ⟨B1, 0, none⟩ = some (.slice a1 n1 c1) := HX1z.out.2 0 (by simp)
  have x1_1 : w9.cell? ⟨B1, 1, none⟩ = some (.string t1) := HX1z.out.2 1 (by simp)
  have x1_2 : w9.cell? ⟨B1, 2, none⟩ = some (.int .i64 m1) := HX1z.out.2 2 (by simp)
  have x1_3 : w9.cell? ⟨B1, 3, none⟩ = some (.int .i64 s1) := HX1z.out.2 3 (by simp)
  have x1_4 : w9.cell? ⟨B1, 4, none⟩ = some (.slice l1 k1 d1) := HX1z.out.2 4 (by simp)
  have x1_5 : w9.cell? ⟨B1, 5, none⟩ = some (.int .i64 e1) := HX1z.out.2 5 (by simp)
  have xl1 := HX1z.out.1
  go_wp2_with fail
  rw [← HW.out, ← HBBB2.out]
  clear HW
  clear x1_0 x1_1 x1_2 x1_3 x1_4 x1_5 xl1
  clear HX1z
  refine (HE.out _ _ _ (HOR.out _ _ _ (HOK.out _ _ _ _ HO2.out HKP.out.block)) (HR.out _ _ _ HR1.out HBW.out)).mono ?_
  rintro e w11 ⟨rfl, hb11⟩
  replace D0 := hid_intro (D0.out.below P0.out.lt hb11)
  replace HB := hid_intro (HB.out.trans (hb11.mono HB.out.size))
  replace HBW := hid_intro (HBW.out.trans (hb11.mono HBW.out.size))
  replace X0 := hid_intro (X0.out.below hb11)
  replace P0 := hid_intro (P0.out.below hb11)
  replace XL := hid_intro (XL.out.below hb11)
  replace PL := hid_intro (PL.out.below hb11)
  replace HKP := hid_intro (HKP.out.below hb11)
  replace HX2 := hid_intro (HX2.out.below hb11)
  clear hb11
  go_wp2_with fail
  refine (HT.out _ _ _ (HI.out.below HB.out)).mono ?_
  rintro e w12 ⟨rfl, hE, hb12, hp, hd⟩
  replace D0 := hid_intro (D0.out.below P0.out.lt hb12)
  replace HB := hid_intro (HB.out.trans (hb12.mono HB.out.size))
  replace HBW := hid_intro (HBW.out.trans (hb12.mono HBW.out.size))
  replace X0 := hid_intro (X0.out.below hb12)
  replace P0 := hid_intro (P0.out.below hb12)
  replace XL := hid_intro (XL.out.below hb12)
  replace PL := hid_intro (PL.out.below hb12)
  replace HKP := hid_intro (HKP.out.below hb12)
  replace HX2 := hid_intro (HX2.out.below hb12)
  have Y0 := hid_intro hE
  clear hE hp hd
  clear hb12
  go_wp2_with fail
  refine (HED.out _ _ _ _ _ X0.out Y0.out).mono ?_
  rintro e w13 ⟨rfl, hb13⟩
  replace D0 := hid_intro (D0.out.below P0.out.lt hb13)
  replace HB := hid_intro (HB.out.trans (hb13.mono HB.out.size))
  replace HBW := hid_intro (HBW.out.trans (hb13.mono HBW.out.size))
  replace X0 := hid_intro (X0.out.below hb13)
  replace P0 := hid_intro (P0.out.below hb13)
  replace XL := hid_intro (XL.out.below hb13)
  replace PL := hid_intro (PL.out.below hb13)
  replace HKP := hid_intro (HKP.out.below hb13)
  replace HX2 := hid_intro (HX2.out.below hb13)
  replace Y0 := hid_intro (Y0.out.below hb13)
  clear Y0 X0
  clear hb13
  go_wp2_with fail
  refine (HTL.out _ _ _ (HL.out.below HB.out)).mono ?_
  rintro e w14 ⟨rfl, hE, hp, hb14⟩
  replace D0 := hid_intro (D0.out.below P0.out.lt hb14)
  replace HB := hid_intro (HB.out.trans (hb14.mono HB.out.size))
  replace HBW := hid_intro (HBW.out.trans (hb14.mono HBW.out.size))
  replace P0 := hid_intro (P0.out.below hb14)
  replace XL := hid_intro (XL.out.below hb14)
  replace PL := hid_intro (PL.out.below hb14)
  replace HKP := hid_intro (HKP.out.below hb14)
  replace HX2 := hid_intro (HX2.out.below hb14)
  have YL := hid_intro hE
  clear hE hp
  clear hb14
  go_wp2_with fail
  refine (HEL.out _ _ _ _ _ XL.out YL.out).mono ?_
  rintro e w15 ⟨rfl, hb15⟩
  replace D0 := hid_intro (D0.out.below P0.out.lt hb15)
  replace HB := hid_intro (HB.out.trans (hb15.mono HB.out.size))
  replace HBW := hid_intro (HBW.out.trans (hb15.mono HBW.out.size))
  replace P0 := hid_intro (P0.out.below hb15)
  replace XL := hid_intro (XL.out.below hb15)
  replace PL := hid_intro (PL.out.below hb15)
  replace HKP := hid_intro (HKP.out.below hb15)
  replace HX2 := hid_intro (HX2.out.below hb15)
  replace YL := hid_intro (YL.out.below hb15)
  clear YL XL
  clear hb15
  go_wp2_with fail
  refine (HMK.out _ _ _ _ HSZ1 P0.out D0.out).mono ?_
  rintro e w16 ⟨rfl, ho⟩
  replace PL := hid_intro (ot_pt ho PL.out (.inr (Nat.le_refl _)))
  replace HKP := hid_intro (HKP.out.ot ho (Nat.le_of_lt HSZ2))
  replace HX2 := hid_intro (ot_blk ho HX2.out (.inr (by have := HLB2.out; omega)))
  replace HB := hid_intro (ho.out HB.out HSZ0.out (Nat.le_refl _))
  replace HBW := hid_intro (ho.out HBW.out (Nat.le_refl _) (Nat.le_refl _))
  clear ho P0 D0
  go_wp2_with fail
  refine (HML.out _ _ _ PL.out).mono ?_
  rintro e w17 ⟨rfl, ho⟩
  replace HKP := hid_intro (HKP.out.ot ho HSZ2)
  replace HX2 := hid_intro (ot_blk ho HX2.out (.inr (by have := HLB2.out; omega)))
  replace HB := hid_intro (ho.out HB.out (by have := HSZ0.out; omega) (Nat.le_refl _))
  replace HBW := hid_intro (ho.out HBW.out (by omega) (Nat.le_refl _))
  clear ho PL
  have HX1z := hid_intro (HX1.out.below HBW.out)
  have x1_0 : w17.cell? ⟨B1, 0, none⟩ = some (.slice a1 n1 c1) := HX1z.out.2 0 (by simp)
  have x1_1 : w17.cell? ⟨B1, 1, none⟩ = some (.string t1) := HX1z.out.2 1 (by simp)
  have x1_2 : w17.cell? ⟨B1, 2, none⟩ = some (.int .i64 m1) := HX1z.out.2 2 (by simp)
  have x1_3 : w17.cell? ⟨B1, 3, none⟩ = some (.int .i64 s1) := HX1z.out.2 3 (by simp)
  have x1_4 : w17.cell? ⟨B1, 4, none⟩ = some (.slice l1 k1 d1) := HX1z.out.2 4 (by simp)
  have x1_5 : w17.cell? ⟨B1, 5, none⟩ = some (.int .i64 e1) := HX1z.out.2 5 (by simp)
  have xl1 := HX1z.out.1
  have x2_0 : w17.cell? ⟨B2, 0, none⟩ = some (.slice a2 n2 c2) := HX2.out.2 0 (by simp)
  have x2_1 : w17.cell? ⟨B2, 1, none⟩ = some (.string t2) := HX2.out.2 1 (by simp)
  have x2_2 : w17.cell? ⟨B2, 2, none⟩ = some (.int .i64 m2) := HX2.out.2 2 (by simp)
  have x2_3 : w17.cell? ⟨B2, 3, none⟩ = some (.int .i64 s2) := HX2.out.2 3 (by simp)
  have x2_4 : w17.cell? ⟨B2, 4, none⟩ = some (.slice l2 k2 d2) := HX2.out.2 4 (by simp)
  have x2_5 : w17.cell? ⟨B2, 5, none⟩ = some (.int .i64 e2) := HX2.out.2 5 (by simp)
  have xl2 := HX2.out.1
  go_wp2_with fail
  refine (HE.out _ _ _ (HOR.out _ _ _ (HOK.out _ _ _ _ HO2.out HKP.out.block)) (HR.out _ _ _ HR1.out HBW.out)).mono ?_
  rintro e w18 ⟨rfl, hb18⟩
  replace HB := hid_intro (HB.out.trans (hb18.mono HB.out.size))
  replace HBW := hid_intro (HBW.out.trans (hb18.mono HBW.out.size))
  replace HKP := hid_intro (HKP.out.below hb18)
  replace HX2 := hid_intro (HX2.out.below hb18)
  clear hb18 HX1z
  clear x1_0 x1_1 x1_2 x1_3 x1_4 x1_5 xl1
  clear x2_0 x2_1 x2_2 x2_3 x2_4 x2_5 xl2
  have x2_0 : w18.cell? ⟨B2, 0, none⟩ = some (.slice a2 n2 c2) := HX2.out.2 0 (by simp)
  have x2_1 : w18.cell? ⟨B2, 1, none⟩ = some (.string t2) := HX2.out.2 1 (by simp)
  have x2_2 : w18.cell? ⟨B2, 2, none⟩ = some (.int .i64 m2) := HX2.out.2 2 (by simp)
  have x2_3 : w18.cell? ⟨B2, 3, none⟩ = some (.int .i64 s2) := HX2.out.2 3 (by simp)
  have x2_4 : w18.cell? ⟨B2, 4, none⟩ = some (.slice l2 k2 d2) := HX2.out.2 4 (by simp)
  have x2_5 : w18.cell? ⟨B2, 5, none⟩ = some (.int .i64 e2) := HX2.out.2 5 (by simp)
  have xl2 := HX2.out.1
  have HMKO := hid_intro (HK.out _ _ _ _ HO2.out HKP.out)
  go_wp2_with fail
  refine HMKO.out.mono ?_
  rintro e w19 ⟨KK, rfl, ho, hh⟩
  have HH := hid_intro hh
  replace HX2 := hid_intro (ot_blk ho HX2.out (.inr (Nat.le_of_eq HBBB2.out.symm)))
  replace HB := hid_intro (ho.out HB.out (by have := HSZ0.out; omega) (Nat.le_refl _))
  replace HBW := hid_intro (ho.out HBW.out (by omega) (Nat.le_refl _))
  clear ho hh HMKO HKP HO2
  clear x2_0 x2_1 x2_2 x2_3 x2_4 x2_5 xl2
  have hk0 : ¬ ((KK : Nat) : Int) < 0 := by omega
  have HQ := hid_intro (Below.refl w19.heap.size w19)
  have x2_0 : w19.cell? ⟨B2, 0, none⟩ = some (.slice a2 n2 c2) := HX2.out.2 0 (by simp)
  have x2_1 : w19.cell? ⟨B2, 1, none⟩ = some (.string t2) := HX2.out.2 1 (by simp)
  have x2_2 : w19.cell? ⟨B2, 2, none⟩ = some (.int .i64 m2) := HX2.out.2 2 (by simp)
  have x2_3 : w19.cell? ⟨B2, 3, none⟩ = some (.int .i64 s2) := HX2.out.2 3 (by simp)
  have x2_4 : w19.cell? ⟨B2, 4, none⟩ = some (.slice l2 k2 d2) := HX2.out.2 4 (by simp)
  have x2_5 : w19.cell? ⟨B2, 5, none⟩ = some (.int .i64 e2) := HX2.out.2 5 (by simp)
  have xl2 := HX2.out.1
  go_wp2_with fail
  refine (HH.out _ HQ.out).mono ?_
  rintro e w20 ⟨rfl, hb20⟩
  replace HB := hid_intro (HB.out.trans (hb20.mono HB.out.size))
  replace HBW := hid_intro (HBW.out.trans (hb20.mono HBW.out.size))
  replace HX2 := hid_intro (HX2.out.below hb20)
  replace HQ := hid_intro (HQ.out.trans (hb20.mono HQ.out.size))
  clear hb20
  clear x2_0 x2_1 x2_2 x2_3 x2_4 x2_5 xl2
  go_wp2_with fail
  refine (HT.out _ _ _ (HI.out.below HB.out)).mono ?_
  rintro e w21 ⟨rfl, hE, hb21, hp, hd⟩
  replace HB := hid_intro (HB.out.trans (hb21.mono HB.out.size))
  replace HBW := hid_intro (HBW.out.trans (hb21.mono HBW.out.size))
  replace HX2 := hid_intro (HX2.out.below hb21)
  replace HQ := hid_intro (HQ.out.trans (hb21.mono HQ.out.size))
  have X1 := hid_intro hE
  clear hE hp hd
  clear hb21
  go_wp2_with fail
  refine (HTL.out _ _ _ (HL.out.below HB.out)).mono ?_
  rintro e w22 ⟨rfl, hE, hp, hb22⟩
  replace HB := hid_intro (HB.out.trans (hb22.mono HB.out.size))
  replace HBW := hid_intro (HBW.out.trans (hb22.mono HBW.out.size))
  replace HX2 := hid_intro (HX2.out.below hb22)
  replace HQ := hid_intro (HQ.out.trans (hb22.mono HQ.out.size))
  replace X1 := hid_intro (X1.out.below hb22)
  have Z1 := hid_intro hE
  clear hE hp
  clear hb22
  go_wp2_with fail
  refine (HM.out _ _ _ HB.out X1.out Z1.out).mono ?_
  rintro e w23 ⟨v, rfl, hv, hb23⟩
  replace HB := hid_intro (HB.out.trans (hb23.mono HB.out.size))
  replace HBW := hid_intro (HBW.out.trans (hb23.mono HBW.out.size))
  replace HX2 := hid_intro (HX2.out.below hb23)
  replace HQ := hid_intro (HQ.out.trans (hb23.mono HQ.out.size))
  obtain ⟨a3, n3, c3, t3, m3, s3, l3, k3, d3, e3, rfl⟩ := HF.out _ _ _ hv
  have HR3 := hid_intro (HOR.out _ _ _ hv)
  clear hv X1 Z1
  clear hb23
  have HX1z := hid_intro (HX1.out.below HBW.out)
  obtain ⟨w24, hw24⟩ : ∃ z, z = w23.alloc (.cells #[.slice a3 n3 c3, .string t3, .int .i64 m3, .int .i64 s3, .slice l3 k3 d3, .int .i64 e3] 31) := ⟨_, rfl⟩
  have al : Below w23.heap.size w23 w24 := by rw [hw24]; exact (Below.refl _ _).alloc (Nat.le_refl _) _
  have HX3 : Hid (Blk w23.heap.size [.slice a3 n3 c3, .string t3, .int .i64 m3, .int .i64 s3, .slice l3 k3 d3, .int .i64 e3] w24) := hid_intro (by rw [hw24]; exact Blk.new w23 [.slice a3 n3 c3, .string t3, .int .i64 m3, .int .i64 s3, .slice l3 k3 d3, .int .i64 e3] 31)
  replace HB := hid_intro (HB.out.trans (al.mono HB.out.size))
  replace HBW := hid_intro (HBW.out.trans (al.mono HBW.out.size))
  replace HX2 := hid_intro (HX2.out.below al)
  replace HQ := hid_intro (HQ.out.trans (al.mono HQ.out.size))
  obtain ⟨B3, hB3⟩ : ∃ z, z = w23.heap.size := ⟨_, rfl⟩
  rw [← hB3] at HX3
  have HW := hid_intro hw24
  have HBBB3 := hid_intro hB3
  replace HR3 := hid_intro (HR.out _ _ _ HR3.out al)
  clear al hw24 hB3
  have x1_0 : w23.cell? ⟨B1, 0, none⟩ = some (.slice a1 n1 c1) := HX1z.out.2 0 (by simp)
  have x1_1 : w23.cell? ⟨B1, 1, none⟩ = some (.string t1) := HX1z.out.2 1 (by simp)
  have x1_2 : w23.cell? ⟨B1, 2, none⟩ = some (.int .i64 m1) := HX1z.out.2 2 (by simp)
  have x1_3 : w23.cell? ⟨B1, 3, none⟩ = some (.int .i64 s1) := HX1z.out.2 3 (by simp)
  have x1_4 : w23.cell? ⟨B1, 4, none⟩ = some (.slice l1 k1 d1) := HX1z.out.2 4 (by simp)
  have x1_5 : w23.cell? ⟨B1, 5, none⟩ = some (.int .i64 e1) := HX1z.out.2 5 (by simp)
  have xl1 := HX1z.out.1
  go_wp2_with fail
  rw [← HW.out, ← HBBB3.out]
  clear HW
  clear x1_0 x1_1 x1_2 x1_3 x1_4 x1_5 xl1
  clear HX1z
  refine (HE.out _ _ _ HR3.out (HR.out _ _ _ HR1.out HBW.out)).mono ?_
  rintro e w25 ⟨rfl, hb25⟩
  replace HB := hid_intro (HB.out.trans (hb25.mono HB.out.size))
  replace HBW := hid_intro (HBW.out.trans (hb25.mono HBW.out.size))
  replace HX2 := hid_intro (HX2.out.below hb25)
  replace HQ := hid_intro (HQ.out.trans (hb25.mono HQ.out.size))
  clear hb25
  have x2_0 : w25.cell? ⟨B2, 0, none⟩ = some (.slice a2 n2 c2) := HX2.out.2 0 (by simp)
  have x2_1 : w25.cell? ⟨B2, 1, none⟩ = some (.string t2) := HX2.out.2 1 (by simp)
  have x2_2 : w25.cell? ⟨B2, 2, none⟩ = some (.int .i64 m2) := HX2.out.2 2 (by simp)
  have x2_3 : w25.cell? ⟨B2, 3, none⟩ = some (.int .i64 s2) := HX2.out.2 3 (by simp)
  have x2_4 : w25.cell? ⟨B2, 4, none⟩ = some (.slice l2 k2 d2) := HX2.out.2 4 (by simp)
  have x2_5 : w25.cell? ⟨B2, 5, none⟩ = some (.int .i64 e2) := HX2.out.2 5 (by simp)
  have xl2 := HX2.out.1
  go_wp2_with fail
  refine (HH.out _ HQ.out).mono ?_
  rintro e w26 ⟨rfl, hb26⟩
  replace HB := hid_intro (HB.out.trans (hb26.mono HB.out.size))
  replace HBW := hid_intro (HBW.out.trans (hb26.mono HBW.out.size))
  replace HX2 := hid_intro (HX2.out.below hb26)
  replace HQ := hid_intro (HQ.out.trans (hb26.mono HQ.out.size))
  clear hb26
  clear x2_0 x2_1 x2_2 x2_3 x2_4 x2_5 xl2
  go_wp2_with fail
  go_ret
  exact ⟨rfl, HB.out⟩
set_option maxRecDepth 100000 in
set_option maxHeartbeats 4000000 in
theorem walk (p : Option Addr) (cap : Nat) (ds : List DocR.D) (a : ByteArray) (ha : a.size ≤ maxLen) (m : Int) (hm : (Lit.int .i64 m).wf = true) (p2 : Option Addr) (cap2 : Nat) (bl : List N) (w : World) (h : IsDcs w p ds) (h2 : IsLis w p2 bl) (hlay : AsD.Laid w) :
    Calls Tryz.prog 3 #[.slice p ds.length cap, .string a, .int .i64 m, .slice p2 bl.length cap2] w fun e w' => e = .returned (.bool true) ∧ Below w.heap.size w w' := by
  have hZ := szDs p cap ds w h
  obtain ⟨hml, hI, hin⟩ := h
  obtain ⟨hml2, hL, hin2⟩ := h2
  unfold maxLen at ha
  by_cases hq : 1048576 < a.size
  · have hq2 : (1048576 : Int) < (a.size : Int) := by omega
    generalize ds.length = len at *
    generalize bl.length = lb at *
    clear hI hin hml hZ hL hin2 hml2 hlay
    go_enter Tryz.func3, Tryz.ntmps3
    go_wp2_with fail
    go_ret
    exact ⟨rfl, Below.refl _ _⟩
  have hq2 : ¬ (1048576 : Int) < (a.size : Int) := by omega
  by_cases hs : szDR ds < 0
  · have HZ := hid_intro hZ
    generalize szDR ds = R at *
    generalize ds.length = len at *
    generalize bl.length = lb at *
    clear hI hin hml hZ hL hin2 hml2 hlay
    go_enter Tryz.func3, Tryz.ntmps3
    go_wp2_with fail
    refine HZ.out.mono ?_
    rintro e w1 ⟨rfl, hb⟩
    have HB := hid_intro hb
    clear hb
    go_wp2_with fail
    go_ret
    exact ⟨rfl, HB.out⟩
  obtain ⟨hlen, hSm⟩ := szDR_small hs
  have hR1 := szDR_le hs
  have hZL := fun W (hb : Below w.heap.size w W) => szs_left (szDR ds) (by omega) (by omega) p2 cap2 bl W hml2 (hL.below hb) hin2
  by_cases hs2 : szH (szDR ds) bl < 0
  · have HZ := hid_intro hZ
    have HZL := hid_intro hZL
    generalize szH (szDR ds) bl = R2 at *
    generalize szDR ds = R at *
    generalize ds.length = len at *
    generalize bl.length = lb at *
    clear hI hin hml hZ hZL hL hin2 hml2 hlay hSm
    go_enter Tryz.func3, Tryz.ntmps3
    go_wp2_with fail
    refine HZ.out.mono ?_
    rintro e w1 ⟨rfl, hb⟩
    have HB := hid_intro hb
    clear hb
    go_wp2_with fail
    refine (HZL.out _ HB.out).mono ?_
    rintro e w2 ⟨rfl, hb⟩
    replace HB := hid_intro (HB.out.trans (hb.mono HB.out.size))
    clear hb
    go_wp2_with fail
    go_ret
    exact ⟨rfl, HB.out⟩
  obtain ⟨hlb, hsb, h0, h1⟩ := szH_small (by omega) hs2
  obtain ⟨s1, s2, s3, s4⟩ := is_small (a := a) (m := m) (bl := bl) hSm (by omega) hsb
  have hts := tot_small hs
  have ht := tot_1000 _ s3
  exact law_in (fun v W => LoR v (isD ds a m bl) (isX ds a m bl) (isC ds a m bl) W) (fun b v W => LoO b v (isD ds a m bl) (isX ds a m bl) (isC ds a m bl) W) p cap ds a m p2 cap2 bl (szDR ds) (szH (szDR ds) bl) (1 + tot ds) (1 + tot ds + 2 * bl.length) w hq2 hs hs2 hI hL
    (fun v W W' h hb => h.below hb) (fun b v W h => h.reads) (fun b v W W' h hk => h.kp hk)
    (fun b v W h => by
      obtain ⟨ao, cap, la, lc, e, _⟩ := h.reads
      exact ⟨_, _, _, _, _, _, _, _, _, _, e⟩)
    hZ hZL
    (fun ao cap w hI => toDsM ao cap ds w hlen hSm hI)
    (fun ao cap w hI => toLis_any ao cap bl w hlb hI)
    (fun ao bo cap cap' w hI hJ => eqDs ao bo cap cap' ds w hlen hSm hI hJ)
    (fun ao bo cap cap' w hI hJ => eqLis_any ao bo cap cap' bl w hlb hI hJ)
    (fun g top cap w h1 h2 h3 => markDs g top cap ds w hlen hSm hts h1 h2 h3)
    (fun g cap w h => (marksK (1 + tot ds) (by omega) (by omega) g bl.length cap w hlb h).mono fun e w' h => ⟨h.1, ot_of h.2.1⟩)
    (fun bd bb cap cap' w hI hL => sissue (some ⟨bd, 0, none⟩) bb 0 cap cap' ds a m bl w hlen hSm (by omega) hlb hsb hI hL)
    (fun bd bb W hb hI hL => iissue (some ⟨bd, 0, none⟩) (some ⟨bb, 0, none⟩) ds.length bl.length ds a m bl W (hlay.below hb) hlen (Nat.le_refl _) (.inr ⟨bd, 0, rfl⟩) hSm (fun d hd => (hin d hd).2) ⟨by omega, hm⟩ hlb hsb hI hL)
    (fun v v' W h h' => eqO v v' _ _ _ W (by omega) s2 (by omega) h h')
    (fun base v Wt W h hk => markOK base v _ _ _ (by omega) (fun d hd => by have := s3 d hd; omega) (by omega) (by omega) Wt W h hk)
set_option maxRecDepth 100000 in
theorem lifted (os : Os) (started : os.Started) (H : Type) (enc : TypeId × Value → H) :
    ReturnsInHanded {} Tryz.checked os 3 .any (fun w args => (Rows.fnExactIssueSpec.pre enc Tryz.prog Tryz.f3 [] false w args ∧ laidMetH Tryz.prog Hnd.laid w) ∧ sizedMet enc Tryz.prog Tryz.f3 (OpenSpec.ofChange Rows.fnExactIssueSpec) false w args)
      (Rows.fnExactIssueSpec.post enc Tryz.prog Tryz.f3 false true false false) := by
  refine returnsInHanded_of_change_and (C := Tryz.checked) (X := fun w _ => laidMetH Tryz.prog Hnd.laid w) (fun _ _ _ hh h => h.of_heap hh) Hnd.own started (by kernel_rfl) Tryz.func3
    (ChangeSpec.witness_at (enc := enc) (C := Tryz.checked) (os := os) (X := fun w _ => laidMetH Tryz.prog Hnd.laid w) false ({ World.holding Tryz.prog os ⟨#[], #[], []⟩ with heap := (World.holding Tryz.prog os ⟨#[], #[], []⟩).heap.modify 0 fun | .cells _ t frozen => .cells #[.iface 117 (.agg #[.pointer (some ⟨1, 57, none⟩)])] t frozen | o => o } : World) #[.slice none 0 0, .string ByteArray.empty, .int .i64 0, .slice none 0 0] 8 rfl (by kernel_rfl) (by kernel_rfl) (by kernel_rfl) (by kernel_rfl) (by kernel_rfl) (Hnd.world_met os _)) ?_
  intro W base args ds gs before hval0 hW _ _ hL _
  have hval : ∀ (j : Nat) t v, Tryz.f3.params[j]? = some t → args[j]? = some v → Value.okWide Tryz.prog W .any base t v := hval0
  have hW' := hW
  obtain ⟨p, q, hA0, hV0, rfl, hfz, hnd⟩ := hW
  have hA : DataW.TrodAll enc Tryz.prog W 0 (fun _ => true) true Tryz.f3.params.toList args.toList ds p := hA0
  have hV : DataW.TrodVars enc Tryz.prog W (fun _ => true) [] gs q := hV0
  rw [Tryz.params3] at hA hval
  obtain ⟨v0, v1, v2, v3, d0, d1, d2, d3, p0, p1, p2, p3, rfl, rfl, rfl, h0, h1, h2, h3⟩ := trodAll_four hA
  have k0 := h0
  have lt0 : ∀ x ∈ p0, x.block < W.heap.size := fun x hx => hW'.lt x (by simp [hx])
  obtain ⟨a0, len0, cap0, rfl⟩ := okWide_slice Tryz.underlying22 (hval 0 22 v0 rfl rfl)
  obtain ⟨z0, hz0, w0⟩ : ∃ ds, ds.length = len0 ∧ LedR.IsDcs W a0 ds := by
    obtain ⟨fuel, hf⟩ := h0
    exact LedR.docs_open Tryz.underlying22 Tryz.underlying44 (by kernel_rfl) (by kernel_rfl) Tryz.underlying9 Tryz.underlying2 Tryz.underlying2 Tryz.underlying23 Tryz.underlying47 (by kernel_rfl) (by kernel_rfl) Tryz.underlying9 Tryz.underlying2 (by simpa [Value.cells] using hf)
  subst hz0
  have k1 := h1
  have lt1 : ∀ x ∈ p1, x.block < W.heap.size := fun x hx => hW'.lt x (by simp [hx])
  obtain ⟨a1, rfl, rfl, rfl, w1⟩ := open_string Tryz.underlying9 (hval 1 9 v1 rfl rfl) h1
  have k2 := h2
  have lt2 : ∀ x ∈ p2, x.block < W.heap.size := fun x hx => hW'.lt x (by simp [hx])
  obtain ⟨a2, rfl, rfl, rfl, w2⟩ := open_int Tryz.underlying2 (hval 2 2 v2 rfl rfl) h2
  have k3 := h3
  have lt3 : ∀ x ∈ p3, x.block < W.heap.size := fun x hx => hW'.lt x (by simp [hx])
  obtain ⟨a3, len3, cap3, rfl⟩ := okWide_slice Tryz.underlying23 (hval 3 23 v3 rfl rfl)
  obtain ⟨z3, hz3, w3⟩ : ∃ es, es.length = len3 ∧ LinR.IsLis W a3 es := by
    obtain ⟨fuel, hf⟩ := h3
    exact LinR.lis_open Tryz.underlying23 Tryz.underlying47 (by kernel_rfl) (by kernel_rfl) Tryz.underlying9 Tryz.underlying2 (by simpa [Value.cells] using hf)
  subst hz3
  have hl := Hnd.of_laid hL
  obtain ⟨rfl, rfl⟩ := trodVars_none hV
  refine (walk a0 cap0 z0 a1 w1 a2 w2 a3 cap3 z3 W w0 w3 hl).mono fun e W' ⟨he, bel⟩ => ?_
  subst he
  exact ⟨_, rfl, _, _, _, _, _, _, hW', trodAll_mk1 (shut_bool Tryz.underlying4 true), trodAll_mk4 (Below.trod Hnd.laidOut (by kernel_rfl) (of_decide_eq_true (by kernel_rfl)) k0 bel lt0) (Below.trod Hnd.laidOut (by kernel_rfl) (of_decide_eq_true (by kernel_rfl)) k1 bel lt1) (Below.trod Hnd.laidOut (by kernel_rfl) (of_decide_eq_true (by kernel_rfl)) k2 bel lt2) (Below.trod Hnd.laidOut (by kernel_rfl) (of_decide_eq_true (by kernel_rfl)) k3 bel lt3), rfl, bel.frame _, fun h => by cases h⟩
theorem row_holds : Rows.FnExactIssueSaid :=
  OpenClaim.holds_of_wide 3 Tryz.f3 rfl rfl rfl rfl rfl rfl rfl ⟨rfl, rfl, rfl, rfl, rfl⟩ rfl rfl rfl rfl rfl (by kernel_rfl) Tryz.func3 (by kernel_rfl)
    (of_decide_eq_true (by kernel_rfl)) (by unfold Func.isWrapper; rw [if_neg (of_decide_eq_false (by kernel_rfl))]; exact ⟨rfl, rfl⟩)
    (fun os started H enc _ => lifted os started H enc)
theorem card_holds : Rows.FnExactIssueCardSaid :=
  Claim7.holds_tied_plain_at .later [] [.handle] true Rows.fnExactIssueCard.stood.harness true
    row_holds (fun _ h => by cases h) (by kernel_rfl) (fun _ h => by cases h) fnExactIssue_row_tie rfl ⟨rfl, rfl⟩ (by kernel_rfl) rfl
    (fun f fn hf hfn => by
      obtain rfl : f = 3 := Option.some.inj ((show Tryz.prog.funcNamed "loop.example/g00562/laws.FnExactIssue" = some 3 by kernel_rfl).symm.trans hf) |>.symm
      obtain rfl : fn = Tryz.f3 := (Option.some.inj (Tryz.func3.symm.trans hfn)).symm
      exact ⟨by kernel_rfl, fun j t ht => by
        rw [Tryz.params3] at ht
        have hm : t ∈ [22, 9, 2, 23] := by simpa using Array.mem_of_getElem? ht
        have hall : ([22, 9, 2, 23].all fun u => !Tryz.prog.wantsStandIn u) = true := by kernel_rfl
        exact (show Tryz.prog.wantsStandIn t = false by simpa using List.all_eq_true.1 hall t hm)⟩)
    (by kernel_rfl)

end IssueL
/-- THE STATEMENT -/
theorem fnExactIssue_holds : Rows.FnExactIssueCardSaid := IssueL.card_holds
#print axioms fnExactIssue_holds
end Go.Proofs.YtakeiankhfdjdaaGreatDoor
