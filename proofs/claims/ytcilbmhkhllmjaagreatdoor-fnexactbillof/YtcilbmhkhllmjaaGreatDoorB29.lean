/-
  FnExactBillOf walked over contracts. The conditions: the contracts.
  Catalogs and windows that a copy has made are kept by stores at blocks from a base on. No condition.
  From the row's premise on the program's table to the walk's: its variable holds the months' days; and a world that meets the premise. No condition.
  From the row's premise on the program's own error to the walk's: its variable holds an error; and a world that meets the premise. No condition.
  From the row's premise on the program's own error to the walk's: its variable holds an error; and a world that meets the premise. No condition.
  From the row's premise on the program's table and its two own errors to the walk's; and a world that meets the premise. No condition.
-/
import Derived.Deep.RegionHeld3
import Derived.Test.YtcilbmhkhllmjaaGreatDoorTie
import Derived.ChangeSame
import Derived.ChangeVars
import Derived.JoinedOf
import Derived.ProofKit
import Derived.LaidLaws
import Derived.LaidMore
import Derived.LaidHandle
import Derived.MakeChecks
import Derived.Lib.LaidTab
import Derived.Stop.Joined
import Derived.Stop.LaidErr
import Derived.LaidSub
import Derived.OpenShut
import Derived.Test.YtcilbmhkhllmjaaGreatDoorB28
namespace Go.Proofs.YtcilbmhkhllmjaaGreatDoor
open Go.ChangeShapes Go.WideShapes Go.ChangeAt Go.RowKit
set_option linter.unusedVariables false
namespace BillL
open CatR EngR ChG
/-- What is held through the region that draws. -/
def BX (w5 : World) (B1 B2 : Nat) (a0 a1 b0 b1 : Value) (W : World) : Prop := Below w5.heap.size w5 W ∧ B1 < W.heap.size ∧ B2 < W.heap.size ∧ W.cell? ⟨B1, 0, none⟩ = some a0 ∧ W.cell? ⟨B1, 1, none⟩ = some a1 ∧ W.cell? ⟨B2, 0, none⟩ = some b0 ∧ W.cell? ⟨B2, 1, none⟩ = some b1
theorem BX.below {w5 : World} {B1 B2 : Nat} {a0 a1 b0 b1 : Value} {W W' : World} (h : BX w5 B1 B2 a0 a1 b0 b1 W) (hb : Below W.heap.size W W') : BX w5 B1 B2 a0 a1 b0 b1 W' := by
  obtain ⟨h0, l1, l2, p0, p1, p2, p3⟩ := h
  have f := fun o => hb.cell (p := ⟨B1, o, none⟩) l1
  have g := fun o => hb.cell (p := ⟨B2, o, none⟩) l2
  have hs := hb.size
  exact ⟨h0.trans (hb.mono h0.size), by omega, by omega, (f 0).trans p0, (f 1).trans p1, (g 0).trans p2, (g 1).trans p3⟩
theorem BX.drew {w5 : World} {B1 B2 : Nat} {a0 a1 b0 b1 : Value} {W : World} (h : BX w5 B1 B2 a0 a1 b0 b1 W) : BX w5 B1 B2 a0 a1 b0 b1 W.drew := ⟨h.1.drew, h.2⟩
set_option maxRecDepth 100000 in
set_option maxHeartbeats 16000000 in
theorem law_in (P PW : Prop) (M V : Value → World → Prop) (N NW : Nat → Nat → Value → World → Prop) (L : World → Prop) (R : Value → World → Prop) (O : Nat → Value → World → Prop) (ma : Option Addr) (ml mc : Nat) (ca : Option Addr) (cl cc : Nat) (a : ByteArray) (ua : Option Addr) (ul uc : Nat) (w : World)
    (hI : M (.agg #[.slice ma ml mc, .slice ca cl cc]) w)
    (hJ : V (.slice ua ul uc) w)
    (hL : L w)
    (hkm : ∀ v w w', M v w → Below w.heap.size w w' → M v w')
    (hkv : ∀ v w w', V v w → Below w.heap.size w w' → V v w')
    (hkl : ∀ w w', L w → Below w.heap.size w w' → L w')
    (hkn : ∀ b t v w w', N b t v w → Kq b w w' → N b t v w')
    (hkw : ∀ b t v w w', NW b t v w → Kq b w w' → NW b t v w')
    (hR : ∀ v W W', R v W → Below W.heap.size W W' → R v W')
    (hOR : ∀ b v W, O b v W → R v W)
    (hOK : ∀ b v W W', O b v W → Kq b W W' → O b v W')
    (hF : ∀ b v W, O b v W → ∃ (a0 : Option Addr) (n0 : Nat) (c0 : Nat) (e0 : Int), v = .agg #[.slice a0 n0 c0, .int .i64 e0])
    (hZ : ∀ w, M (.agg #[.slice ma ml mc, .slice ca cl cc]) w → Calls Tryz.prog 5 #[.agg #[.slice ma ml mc, .slice ca cl cc], .int .i64 1048576] w fun e w' => SzOut 1048576 P e ∧ Below w.heap.size w w')
    (hZW : ∀ z, 0 ≤ z → z ≤ 1048576 → ∀ w, V (.slice ua ul uc) w → Calls Tryz.prog 6 #[.slice ua ul uc, .int .i64 z] w fun e w' => SzOut z PW e ∧ Below w.heap.size w w')
    (hT : P → ∀ v w, M v w → Calls Tryz.prog 8 #[v] w fun e w' => (∃ (pma pca : Option Addr) (pmc pcc : Nat), e = .returned (.agg #[.slice pma ml pmc, .slice pca cl pcc]) ∧ M (.agg #[.slice pma ml pmc, .slice pca cl pcc]) w' ∧ N w.heap.size w'.heap.size (.agg #[.slice pma ml pmc, .slice pca cl pcc]) w') ∧ Below w.heap.size w w')
    (hTW : PW → ∀ v w, V v w → Calls Tryz.prog 9 #[v] w fun e w' => (∃ (pua : Option Addr) (puc : Nat), e = .returned (.slice pua ul puc) ∧ V (.slice pua ul puc) w' ∧ NW w.heap.size w'.heap.size (.slice pua ul puc) w') ∧ Below w.heap.size w w')
    (hS : ¬ (1048576 : Int) < (a.size : Int) → P → PW → ∀ v u w, L w → M v w → V u w → Calls Tryz.prog 7 #[v, .string a, u] w fun e w' => ∃ v', e = .returned v' ∧ O w.heap.size v' w' ∧ Below w.heap.size w w')
    (hM : ¬ (1048576 : Int) < (a.size : Int) → P → PW → ∀ v u w, L w → M v w → V u w → Calls Tryz.prog 10 #[v, .string a, u] w fun e w' => ∃ v', e = .returned v' ∧ O w.heap.size v' w' ∧ Below w.heap.size w w')
    (hE : PW → ∀ v v' W, R v W → R v' W → Calls Tryz.prog 11 #[v, v'] W fun e w' => e = .returned (.bool true) ∧ Below W.heap.size W w')
    (hEE : P → ∀ v v' w, M v w → M v' w → Calls Tryz.prog 12 #[v, v'] w fun e w' => e = .returned (.bool true) ∧ Below w.heap.size w w')
    (hEW : PW → ∀ v v' w, V v w → V v' w → Calls Tryz.prog 13 #[v, v'] w fun e w' => e = .returned (.bool true) ∧ Below w.heap.size w w')
    (hMk : P → ∀ base top v w, N base top v w → Calls Tryz.prog 14 #[v, .int .i64 1] w fun e w' => (∃ K : Nat, e = .returned (.int .i64 (K : Nat)) ∧ 1 ≤ K ∧ K ≤ 60000000000001) ∧ Chg (fun b => base ≤ b ∧ b < top) w w')
    (hMw : PW → ∀ base top (K : Nat), 1 ≤ K → K ≤ 60000000000001 → ∀ v w, NW base top v w → Calls Tryz.prog 15 #[v, .int .i64 (K : Nat)] w fun e w' => (∃ K : Nat, e = .returned (.int .i64 (K : Nat))) ∧ Chg (fun b => base ≤ b ∧ b < top) w w')
    (hK : PW → ∀ base v Wt W, O base v Wt → Kq base Wt W → Calls Tryz.prog 16 #[v, .int .i64 1] W fun e w' => ∃ KK : Nat, e = .returned (.int .i64 KK) ∧ Chg (fun b => base ≤ b ∧ b < Wt.heap.size) W w' ∧ ∀ w2, Below w'.heap.size w' w2 → Calls Tryz.prog 17 #[v, .int .i64 1] w2 fun e w3 => e = .returned (.int .i64 KK) ∧ Below w2.heap.size w2 w3) :
    Calls Tryz.prog 3 #[.agg #[.slice ma ml mc, .slice ca cl cc], .string a, .slice ua ul uc] w fun e w' => e = .returned (.bool true) ∧ Below w.heap.size w w' := by
  have HI := hid_intro hI
  have HJ := hid_intro hJ
  have HLD := hid_intro hL
  have HKM := hid_intro hkm
  have HKV := hid_intro hkv
  have HLK := hid_intro hkl
  have HKN := hid_intro hkn
  have HKW := hid_intro hkw
  have HR := hid_intro hR
  have HOR := hid_intro hOR
  have HOK := hid_intro hOK
  have HF := hid_intro hF
  have HZ := hid_intro hZ
  have HZW := hid_intro hZW
  have HT := hid_intro hT
  have HTW := hid_intro hTW
  have HS := hid_intro hS
  have HM := hid_intro hM
  have HE := hid_intro hE
  have HEE := hid_intro hEE
  have HEW := hid_intro hEW
  have HMK := hid_intro hMk
  have HMW := hid_intro hMw
  have HK := hid_intro hK
  clear hI hJ hL hkm hkv hkl hkn hkw hR hOR hOK hF hZ hZW hT hTW hS hM hE hEE hEW hMk hMw hK
  by_cases hq : (1048576 : Int) < (a.size : Int)
  · go_enter Tryz.func3, Tryz.ntmps3
    go_wp2_with fail
    go_ret
    exact ⟨rfl, (Below.refl _ _).alloc (Nat.le_refl _) _⟩
  have HA : Hid (Blk w.heap.size [.slice ma ml mc, .slice ca cl cc] (w.alloc (.cells #[.slice ma ml mc, .slice ca cl cc] 25))) := hid_intro (Blk.new w _ _)
  have HB : Hid (Below w.heap.size w (w.alloc (.cells #[.slice ma ml mc, .slice ca cl cc] 25))) := hid_intro ((Below.refl _ _).alloc (Nat.le_refl _) _)
  go_enter Tryz.func3, Tryz.ntmps3
  go_wp2_with fail
  refine (HZ.out _ (HKM.out _ _ _ HI.out HB.out)).mono ?_
  rintro e w1 ⟨⟨Z1, rfl, hZ1⟩, hb1⟩
  replace HA := hid_intro (HA.out.below hb1)
  replace HB := hid_intro (HB.out.trans (hb1.mono HB.out.size))
  clear hb1
  rcases hZ1 with rfl | ⟨hz0, hz1, hP⟩
  · go_wp2_with fail
    go_ret
    exact ⟨rfl, HB.out⟩
  have hz2 : ¬ Z1 < 0 := by omega
  go_wp2_with fail
  refine (HZW.out Z1 hz0 hz1 _ (HKV.out _ _ _ HJ.out HB.out)).mono ?_
  rintro e w2 ⟨⟨Z2, rfl, hZ2⟩, hb2⟩
  replace HA := hid_intro (HA.out.below hb2)
  replace HB := hid_intro (HB.out.trans (hb2.mono HB.out.size))
  clear hb2
  rcases hZ2 with rfl | ⟨hz3, hz4, hPW⟩
  · go_wp2_with fail
    go_ret
    exact ⟨rfl, HB.out⟩
  have hz5 : ¬ Z2 < 0 := by omega
  replace HT := hid_intro (HT.out hP)
  replace HEE := hid_intro (HEE.out hP)
  replace HMK := hid_intro (HMK.out hP)
  replace HTW := hid_intro (HTW.out hPW)
  replace HEW := hid_intro (HEW.out hPW)
  replace HMW := hid_intro (HMW.out hPW)
  replace HS := hid_intro (HS.out hq hP hPW)
  replace HM := hid_intro (HM.out hq hP hPW)
  replace HE := hid_intro (HE.out hPW)
  replace HK := hid_intro (HK.out hPW)
  clear hP hPW HZ HZW hz0 hz1 hz2 hz3 hz4
  have r0 : w2.cell? ⟨w.heap.size, 0, none⟩ = some (.slice ma ml mc) := HA.out.2 0 (by simp)
  have r1 : w2.cell? ⟨w.heap.size, 1, none⟩ = some (.slice ca cl cc) := HA.out.2 1 (by simp)
  have rL := HA.out.1
  go_wp2_with fail
  refine (HT.out _ _ (HKM.out _ _ _ HI.out HB.out)).mono ?_
  rintro e w3 ⟨⟨yma, yca, ymc, ycc, rfl, hM, hN⟩, hb3⟩
  replace HA := hid_intro (HA.out.below hb3)
  replace HB := hid_intro (HB.out.trans (hb3.mono HB.out.size))
  have MV := hid_intro hM
  clear hM hN
  clear hb3
  clear r0 r1 rL
  go_wp2_with fail
  refine (HTW.out _ _ (HKV.out _ _ _ HJ.out HB.out)).mono ?_
  rintro e w4 ⟨⟨yua, yuc, rfl, hV, hNW⟩, hb4⟩
  replace HA := hid_intro (HA.out.below hb4)
  replace HB := hid_intro (HB.out.trans (hb4.mono HB.out.size))
  replace MV := hid_intro (HKM.out _ _ _ MV.out hb4)
  have VV := hid_intro hV
  clear hV hNW
  clear hb4
  go_wp2_with fail
  refine (HS.out _ _ _ (HLK.out _ _ HLD.out HB.out) MV.out VV.out).mono ?_
  rintro e w5 ⟨v, rfl, hv, hb5⟩
  replace HA := hid_intro (HA.out.below hb5)
  replace HB := hid_intro (HB.out.trans (hb5.mono HB.out.size))
  replace MV := hid_intro (HKM.out _ _ _ MV.out hb5)
  obtain ⟨a1, n1, c1, e1, rfl⟩ := HF.out _ _ _ hv
  have HR1 := hid_intro (HOR.out _ _ _ hv)
  clear hv
  clear hb5
  clear MV VV
  have HAz := HA
  obtain ⟨w6, hw6⟩ : ∃ z, z = w5.alloc (.cells #[.slice a1 n1 c1, .int .i64 e1] 31) := ⟨_, rfl⟩
  have al : Below w5.heap.size w5 w6 := by rw [hw6]; exact (Below.refl _ _).alloc (Nat.le_refl _) _
  have HX1 : Hid (Blk w5.heap.size [.slice a1 n1 c1, .int .i64 e1] w6) := hid_intro (by rw [hw6]; exact Blk.new w5 [.slice a1 n1 c1, .int .i64 e1] 31)
  replace HA := hid_intro (HA.out.below al)
  replace HB := hid_intro (HB.out.trans (al.mono HB.out.size))
  replace HR1 := hid_intro (HR.out _ _ _ HR1.out al)
  obtain ⟨B1, hB1⟩ : ∃ z, z = w5.heap.size := ⟨_, rfl⟩
  rw [← hB1] at HX1
  have HW := hid_intro hw6
  have HBBB1 := hid_intro hB1
  clear al hw6 hB1
  have HBW := hid_intro (Below.refl w6.heap.size w6)
  have HSZ0 : Hid (w.heap.size ≤ w6.heap.size) := hid_intro HB.out.size
  have HA6 := HA
  have HR6 := HR1
  have HX6 := HX1
  clear HR1 HX1 HA
  have r0 : w5.cell? ⟨w.heap.size, 0, none⟩ = some (.slice ma ml mc) := HAz.out.2 0 (by simp)
  have r1 : w5.cell? ⟨w.heap.size, 1, none⟩ = some (.slice ca cl cc) := HAz.out.2 1 (by simp)
  have rL := HAz.out.1
  go_wp2_with fail
  rw [← HW.out, ← HBBB1.out]
  clear HW HAz
  clear r0 r1 rL
  have HAz := HA6
  have r0 : w6.cell? ⟨w.heap.size, 0, none⟩ = some (.slice ma ml mc) := HAz.out.2 0 (by simp)
  have r1 : w6.cell? ⟨w.heap.size, 1, none⟩ = some (.slice ca cl cc) := HAz.out.2 1 (by simp)
  have rL := HAz.out.1
  clear HAz
  go_wp2_with fail
  refine (HT.out _ _ (HKM.out _ _ _ HI.out HB.out)).mono ?_
  rintro e w7 ⟨⟨xma, xca, xmc, xcc, rfl, hM, hN⟩, hb7⟩
  replace HB := hid_intro (HB.out.trans (hb7.mono HB.out.size))
  replace HBW := hid_intro (HBW.out.trans (hb7.mono HBW.out.size))
  have MX := hid_intro hM
  have HN := hid_intro hN
  have HSZ1 : Hid (w6.heap.size ≤ w7.heap.size) := hid_intro hb7.size
  clear hM hN
  clear hb7
  clear r0 r1 rL
  obtain ⟨w8, hw8⟩ : ∃ z, z = w7.alloc (.cells #[.slice xma ml xmc, .slice xca cl xcc] 36) := ⟨_, rfl⟩
  have al : Below w7.heap.size w7 w8 := by rw [hw8]; exact (Below.refl _ _).alloc (Nat.le_refl _) _
  have HX0 : Hid (Blk w7.heap.size [.slice xma ml xmc, .slice xca cl xcc] w8) := hid_intro (by rw [hw8]; exact Blk.new w7 [.slice xma ml xmc, .slice xca cl xcc] 36)
  replace HB := hid_intro (HB.out.trans (al.mono HB.out.size))
  replace HBW := hid_intro (HBW.out.trans (al.mono HBW.out.size))
  replace MX := hid_intro (HKM.out _ _ _ MX.out al)
  replace HN := hid_intro (HKN.out _ _ _ _ _ HN.out (Kq.below (Kq.refl _ _) al))
  obtain ⟨B0, hB0⟩ : ∃ z, z = w7.heap.size := ⟨_, rfl⟩
  rw [← hB0] at HX0
  have HW := hid_intro hw8
  have HBBB0 := hid_intro hB0
  clear al hw8 hB0
  have HSZ2 : Hid (w7.heap.size < w8.heap.size) := hid_intro (by have := HX0.out.1; have := HBBB0.out; omega)
  go_wp2_with fail
  rw [← HW.out, ← HBBB0.out]
  clear HW
  refine (HTW.out _ _ (HKV.out _ _ _ HJ.out HB.out)).mono ?_
  rintro e w9 ⟨⟨xua, xuc, rfl, hV, hNW⟩, hb9⟩
  replace HB := hid_intro (HB.out.trans (hb9.mono HB.out.size))
  replace HBW := hid_intro (HBW.out.trans (hb9.mono HBW.out.size))
  replace MX := hid_intro (HKM.out _ _ _ MX.out hb9)
  replace HN := hid_intro (HKN.out _ _ _ _ _ HN.out (Kq.below (Kq.refl _ _) hb9))
  replace HX0 := hid_intro (HX0.out.below hb9)
  have VX := hid_intro hV
  have HNW := hid_intro hNW
  have HSZ3 : Hid (w8.heap.size ≤ w9.heap.size) := hid_intro hb9.size
  clear hV hNW
  clear hb9
  have s0 : w9.cell? ⟨B0, 0, none⟩ = some (.slice xma ml xmc) := HX0.out.2 0 (by simp)
  have s1 : w9.cell? ⟨B0, 1, none⟩ = some (.slice xca cl xcc) := HX0.out.2 1 (by simp)
  have sL := HX0.out.1
  go_wp2_with fail
  refine (HM.out _ _ _ (HLK.out _ _ HLD.out HB.out) MX.out VX.out).mono ?_
  rintro e w10 ⟨v, rfl, hv, hb10⟩
  replace HB := hid_intro (HB.out.trans (hb10.mono HB.out.size))
  replace HBW := hid_intro (HBW.out.trans (hb10.mono HBW.out.size))
  replace MX := hid_intro (HKM.out _ _ _ MX.out hb10)
  replace HN := hid_intro (HKN.out _ _ _ _ _ HN.out (Kq.below (Kq.refl _ _) hb10))
  replace HX0 := hid_intro (HX0.out.below hb10)
  replace VX := hid_intro (HKV.out _ _ _ VX.out hb10)
  replace HNW := hid_intro (HKW.out _ _ _ _ _ HNW.out (Kq.below (Kq.refl _ _) hb10))
  have HO2 := hid_intro hv
  obtain ⟨a2, n2, c2, e2, rfl⟩ := HF.out _ _ _ hv
  have HKP := hid_intro (Kq.refl w9.heap.size w10)
  have HS9 : Hid (w9.heap.size ≤ w10.heap.size) := hid_intro hb10.size
  clear hv
  clear hb10
  clear s0 s1 sL
  have HX1z := hid_intro (HX6.out.below HBW.out)
  have HX0z := HX0
  obtain ⟨w11, hw11⟩ : ∃ z, z = w10.alloc (.cells #[.slice a2 n2 c2, .int .i64 e2] 31) := ⟨_, rfl⟩
  have al : Below w10.heap.size w10 w11 := by rw [hw11]; exact (Below.refl _ _).alloc (Nat.le_refl _) _
  have HX2 : Hid (Blk w10.heap.size [.slice a2 n2 c2, .int .i64 e2] w11) := hid_intro (by rw [hw11]; exact Blk.new w10 [.slice a2 n2 c2, .int .i64 e2] 31)
  replace HB := hid_intro (HB.out.trans (al.mono HB.out.size))
  replace HBW := hid_intro (HBW.out.trans (al.mono HBW.out.size))
  replace MX := hid_intro (HKM.out _ _ _ MX.out al)
  replace HN := hid_intro (HKN.out _ _ _ _ _ HN.out (Kq.below (Kq.refl _ _) al))
  replace HX0 := hid_intro (HX0.out.below al)
  replace VX := hid_intro (HKV.out _ _ _ VX.out al)
  replace HNW := hid_intro (HKW.out _ _ _ _ _ HNW.out (Kq.below (Kq.refl _ _) al))
  replace HKP := hid_intro (HKP.out.below al)
  obtain ⟨B2, hB2⟩ : ∃ z, z = w10.heap.size := ⟨_, rfl⟩
  rw [← hB2] at HX2
  have HW := hid_intro hw11
  have HBBB2 := hid_intro hB2
  clear al hw11 hB2
  have HLB2 : Hid (w9.heap.size ≤ B2) := hid_intro (by have := HS9.out; have := HBBB2.out; omega)
  have x0 : w10.cell? ⟨B1, 0, none⟩ = some (.slice a1 n1 c1) := HX1z.out.2 0 (by simp)
  have x1 : w10.cell? ⟨B1, 1, none⟩ = some (.int .i64 e1) := HX1z.out.2 1 (by simp)
  have xL := HX1z.out.1
  have s0 : w10.cell? ⟨B0, 0, none⟩ = some (.slice xma ml xmc) := HX0z.out.2 0 (by simp)
  have s1 : w10.cell? ⟨B0, 1, none⟩ = some (.slice xca cl xcc) := HX0z.out.2 1 (by simp)
  have sL := HX0z.out.1
  go_wp2_with fail
  rw [← HW.out, ← HBBB2.out]
  clear HW HX1z HX0z
  clear x0 x1 xL
  clear s0 s1 sL
  have HX1z := hid_intro (HX6.out.below HBW.out)
  have x0 : w11.cell? ⟨B1, 0, none⟩ = some (.slice a1 n1 c1) := HX1z.out.2 0 (by simp)
  have x1 : w11.cell? ⟨B1, 1, none⟩ = some (.int .i64 e1) := HX1z.out.2 1 (by simp)
  have xL := HX1z.out.1
  have y0 : w11.cell? ⟨B2, 0, none⟩ = some (.slice a2 n2 c2) := HX2.out.2 0 (by simp)
  have y1 : w11.cell? ⟨B2, 1, none⟩ = some (.int .i64 e2) := HX2.out.2 1 (by simp)
  have yL := HX2.out.1
  go_wp2_with fail
  refine (HE.out _ _ _ (HOR.out _ _ _ (HOK.out _ _ _ _ HO2.out HKP.out)) (HR.out _ _ _ HR6.out HBW.out)).mono ?_
  rintro e w12 ⟨rfl, hb12⟩
  replace HB := hid_intro (HB.out.trans (hb12.mono HB.out.size))
  replace HBW := hid_intro (HBW.out.trans (hb12.mono HBW.out.size))
  replace MX := hid_intro (HKM.out _ _ _ MX.out hb12)
  replace HN := hid_intro (HKN.out _ _ _ _ _ HN.out (Kq.below (Kq.refl _ _) hb12))
  replace HX0 := hid_intro (HX0.out.below hb12)
  replace VX := hid_intro (HKV.out _ _ _ VX.out hb12)
  replace HNW := hid_intro (HKW.out _ _ _ _ _ HNW.out (Kq.below (Kq.refl _ _) hb12))
  replace HKP := hid_intro (HKP.out.below hb12)
  replace HX2 := hid_intro (HX2.out.below hb12)
  clear hb12
  clear x0 x1 xL
  clear HX1z
  clear y0 y1 yL
  have HAz := hid_intro (HA6.out.below HBW.out)
  have r0 : w12.cell? ⟨w.heap.size, 0, none⟩ = some (.slice ma ml mc) := HAz.out.2 0 (by simp)
  have r1 : w12.cell? ⟨w.heap.size, 1, none⟩ = some (.slice ca cl cc) := HAz.out.2 1 (by simp)
  have rL := HAz.out.1
  have s0 : w12.cell? ⟨B0, 0, none⟩ = some (.slice xma ml xmc) := HX0.out.2 0 (by simp)
  have s1 : w12.cell? ⟨B0, 1, none⟩ = some (.slice xca cl xcc) := HX0.out.2 1 (by simp)
  have sL := HX0.out.1
  have HS0 : Hid (BX w12 w.heap.size B0 (.slice ma ml mc) (.slice ca cl cc) (.slice xma ml xmc) (.slice xca cl xcc) w12) := hid_intro ⟨Below.refl _ _, rL, sL, r0, r1, s0, s1⟩
  have HS1 := hid_intro HS0.out.drew
  have HM5 : Hid (∀ W, Below w12.heap.size w12 W → Calls Tryz.prog 8 #[.agg #[.slice ma ml mc, .slice ca cl cc]] W fun e w' => (∃ (pma pca : Option Addr) (pmc pcc : Nat),  e = .returned (.agg #[.slice pma ml pmc, .slice pca cl pcc]) ∧ M (.agg #[.slice pma ml pmc, .slice pca cl pcc]) w' ∧ M (.agg #[.slice xma ml xmc, .slice xca cl xcc]) w') ∧ Below W.heap.size W w') := hid_intro (fun W hW => (HT.out _ W (HKM.out _ _ _ HI.out (HB.out.trans (hW.mono HB.out.size)))).mono fun e w' h => by
    obtain ⟨⟨pma, pca, pmc, pcc, he, h1, _⟩, hb⟩ := h
    exact ⟨⟨pma, pca, pmc, pcc, he, h1, HKM.out _ _ _ MX.out (hW.trans (hb.mono hW.size))⟩, hb⟩)
  go_wp2_with fail
  go_region_held3 (fun W => Below w12.heap.size w12 W ∧ w.heap.size < W.heap.size ∧ B0 < W.heap.size ∧ W.cell? ⟨w.heap.size, 0, none⟩ = some (.slice ma ml mc) ∧ W.cell? ⟨w.heap.size, 1, none⟩ = some (.slice ca cl cc) ∧ W.cell? ⟨B0, 0, none⟩ = some (.slice xma ml xmc) ∧ W.cell? ⟨B0, 1, none⟩ = some (.slice xca cl xcc)) (first | assumption | (exact HS0.out) | (exact HS1.out) | (exact BX.below (w5 := w12) (B1 := w.heap.size) (B2 := B0) (by assumption) hb13) | (exact BX.below (w5 := w12) (B1 := w.heap.size) (B2 := B0) (by assumption) hb14))
    (first | (go_at_call 8; refine (HM5.out _ (by first | exact (by assumption : BX w12 w.heap.size B0 (.slice ma ml mc) (.slice ca cl cc) (.slice xma ml xmc) (.slice xca cl xcc) _).1 | exact HS0.out.1 | exact HS1.out.1)).mono ?_; rintro e w13 ⟨⟨zma, zca, zmc, zcc, rfl, hN6, hN7⟩, hb13⟩) | (go_at_call 12; refine (HEE.out _ _ _ hN7 hN6).mono ?_; rintro e w14 ⟨rfl, hb14⟩))
  rename_i hS
  have hbS := hS.1
  replace HB := hid_intro (HB.out.trans (hbS.mono HB.out.size))
  replace HBW := hid_intro (HBW.out.trans (hbS.mono HBW.out.size))
  replace MX := hid_intro (HKM.out _ _ _ MX.out hbS)
  replace HN := hid_intro (HKN.out _ _ _ _ _ HN.out (Kq.below (Kq.refl _ _) hbS))
  replace HX0 := hid_intro (HX0.out.below hbS)
  replace VX := hid_intro (HKV.out _ _ _ VX.out hbS)
  replace HNW := hid_intro (HKW.out _ _ _ _ _ HNW.out (Kq.below (Kq.refl _ _) hbS))
  replace HKP := hid_intro (HKP.out.below hbS)
  replace HX2 := hid_intro (HX2.out.below hbS)
  clear hS hbS HS0 HS1 HM5 HAz hN6 hN7 hb13 hb14
  clear r0 r1 rL
  clear s0 s1 sL
  clear MX
  go_wp2_with fail
  refine (HTW.out _ _ (HKV.out _ _ _ HJ.out HB.out)).mono ?_
  rintro e w15 ⟨⟨qua, quc, rfl, hV, hNW⟩, hb15⟩
  replace HB := hid_intro (HB.out.trans (hb15.mono HB.out.size))
  replace HBW := hid_intro (HBW.out.trans (hb15.mono HBW.out.size))
  replace HN := hid_intro (HKN.out _ _ _ _ _ HN.out (Kq.below (Kq.refl _ _) hb15))
  replace HX0 := hid_intro (HX0.out.below hb15)
  replace VX := hid_intro (HKV.out _ _ _ VX.out hb15)
  replace HNW := hid_intro (HKW.out _ _ _ _ _ HNW.out (Kq.below (Kq.refl _ _) hb15))
  replace HKP := hid_intro (HKP.out.below hb15)
  replace HX2 := hid_intro (HX2.out.below hb15)
  have VV := hid_intro hV
  clear hV hNW
  clear hb15
  go_wp2_with fail
  refine (HEW.out _ _ _ VX.out VV.out).mono ?_
  rintro e w16 ⟨rfl, hb16⟩
  replace HB := hid_intro (HB.out.trans (hb16.mono HB.out.size))
  replace HBW := hid_intro (HBW.out.trans (hb16.mono HBW.out.size))
  replace HN := hid_intro (HKN.out _ _ _ _ _ HN.out (Kq.below (Kq.refl _ _) hb16))
  replace HX0 := hid_intro (HX0.out.below hb16)
  replace VX := hid_intro (HKV.out _ _ _ VX.out hb16)
  replace HNW := hid_intro (HKW.out _ _ _ _ _ HNW.out (Kq.below (Kq.refl _ _) hb16))
  replace HKP := hid_intro (HKP.out.below hb16)
  replace HX2 := hid_intro (HX2.out.below hb16)
  clear hb16
  clear VV
  clear VX
  have s0 : w16.cell? ⟨B0, 0, none⟩ = some (.slice xma ml xmc) := HX0.out.2 0 (by simp)
  have s1 : w16.cell? ⟨B0, 1, none⟩ = some (.slice xca cl xcc) := HX0.out.2 1 (by simp)
  have sL := HX0.out.1
  go_wp2_with fail
  refine (HMK.out _ _ _ _ HN.out).mono ?_
  rintro e w17 ⟨⟨K1, rfl, hk1, hk2⟩, hc⟩
  clear s0 s1 sL
  replace HB := hid_intro (hc.out HB.out (fun b q => by have := HSZ0.out; have := HSZ1.out; have := HSZ2.out; have := HSZ3.out; omega) (Nat.le_refl _))
  replace HBW := hid_intro (hc.out HBW.out (fun b q => by have := HSZ1.out; have := HSZ2.out; have := HSZ3.out; omega) (Nat.le_refl _))
  replace HNW := hid_intro (HKW.out _ _ _ _ _ HNW.out ((Kq.refl _ _).chg hc (fun b q => by have := HSZ2.out; omega)))
  replace HKP := hid_intro (HKP.out.chg hc (fun b q => by have := HSZ2.out; have := HSZ3.out; omega))
  replace HX2 := hid_intro (ChG.Chg.blk hc HX2.out (fun q => by have := HLB2.out; have := HBBB2.out; have := HSZ2.out; have := HSZ3.out; omega))
  clear hc HN HX0
  go_wp2_with fail
  refine (HMW.out _ _ K1 hk1 hk2 _ _ HNW.out).mono ?_
  rintro e w18 ⟨⟨K2, rfl⟩, hc⟩
  replace HB := hid_intro (hc.out HB.out (fun b q => by have := HSZ0.out; have := HSZ1.out; have := HSZ2.out; have := HSZ3.out; omega) (Nat.le_refl _))
  replace HBW := hid_intro (hc.out HBW.out (fun b q => by have := HSZ1.out; have := HSZ2.out; have := HSZ3.out; omega) (Nat.le_refl _))
  replace HKP := hid_intro (HKP.out.chg hc (fun b q => by have := HSZ2.out; have := HSZ3.out; omega))
  replace HX2 := hid_intro (ChG.Chg.blk hc HX2.out (fun q => by have := HLB2.out; have := HBBB2.out; have := HSZ2.out; have := HSZ3.out; omega))
  clear hc HNW
  have hkk : ¬ ((K2 : Nat) : Int) < 0 := by omega
  have HX1z := hid_intro (HX6.out.below HBW.out)
  have x0 : w18.cell? ⟨B1, 0, none⟩ = some (.slice a1 n1 c1) := HX1z.out.2 0 (by simp)
  have x1 : w18.cell? ⟨B1, 1, none⟩ = some (.int .i64 e1) := HX1z.out.2 1 (by simp)
  have xL := HX1z.out.1
  have y0 : w18.cell? ⟨B2, 0, none⟩ = some (.slice a2 n2 c2) := HX2.out.2 0 (by simp)
  have y1 : w18.cell? ⟨B2, 1, none⟩ = some (.int .i64 e2) := HX2.out.2 1 (by simp)
  have yL := HX2.out.1
  go_wp2_with fail
  refine (HE.out _ _ _ (HOR.out _ _ _ (HOK.out _ _ _ _ HO2.out HKP.out)) (HR.out _ _ _ HR6.out HBW.out)).mono ?_
  rintro e w19 ⟨rfl, hb19⟩
  replace HB := hid_intro (HB.out.trans (hb19.mono HB.out.size))
  replace HBW := hid_intro (HBW.out.trans (hb19.mono HBW.out.size))
  replace HKP := hid_intro (HKP.out.below hb19)
  replace HX2 := hid_intro (HX2.out.below hb19)
  clear hb19
  clear x0 x1 xL
  clear HX1z
  clear y0 y1 yL
  have y0 : w19.cell? ⟨B2, 0, none⟩ = some (.slice a2 n2 c2) := HX2.out.2 0 (by simp)
  have y1 : w19.cell? ⟨B2, 1, none⟩ = some (.int .i64 e2) := HX2.out.2 1 (by simp)
  have yL := HX2.out.1
  have HMKO := hid_intro (HK.out _ _ _ _ HO2.out HKP.out)
  go_wp2_with fail
  refine HMKO.out.mono ?_
  rintro e w20 ⟨KK, rfl, hc, hh⟩
  have HH := hid_intro hh
  clear y0 y1 yL
  replace HB := hid_intro (hc.out HB.out (fun b q => by have := HSZ0.out; have := HSZ1.out; have := HSZ2.out; have := HSZ3.out; omega) (Nat.le_refl _))
  replace HBW := hid_intro (hc.out HBW.out (fun b q => by have := HSZ1.out; have := HSZ2.out; have := HSZ3.out; omega) (Nat.le_refl _))
  replace HX2 := hid_intro (ChG.Chg.blk hc HX2.out (fun q => by have := HLB2.out; have := HBBB2.out; have := HSZ2.out; have := HSZ3.out; omega))
  clear hc hh HMKO HKP HO2
  have hk0 : ¬ ((KK : Nat) : Int) < 0 := by omega
  have HQ := hid_intro (Below.refl w20.heap.size w20)
  have y0 : w20.cell? ⟨B2, 0, none⟩ = some (.slice a2 n2 c2) := HX2.out.2 0 (by simp)
  have y1 : w20.cell? ⟨B2, 1, none⟩ = some (.int .i64 e2) := HX2.out.2 1 (by simp)
  have yL := HX2.out.1
  go_wp2_with fail
  refine (HH.out _ HQ.out).mono ?_
  rintro e w21 ⟨rfl, hb21⟩
  replace HB := hid_intro (HB.out.trans (hb21.mono HB.out.size))
  replace HBW := hid_intro (HBW.out.trans (hb21.mono HBW.out.size))
  replace HX2 := hid_intro (HX2.out.below hb21)
  replace HQ := hid_intro (HQ.out.trans (hb21.mono HQ.out.size))
  clear hb21
  clear y0 y1 yL
  have HAz := hid_intro (HA6.out.below HBW.out)
  have r0 : w21.cell? ⟨w.heap.size, 0, none⟩ = some (.slice ma ml mc) := HAz.out.2 0 (by simp)
  have r1 : w21.cell? ⟨w.heap.size, 1, none⟩ = some (.slice ca cl cc) := HAz.out.2 1 (by simp)
  have rL := HAz.out.1
  clear HAz
  go_wp2_with fail
  refine (HT.out _ _ (HKM.out _ _ _ HI.out HB.out)).mono ?_
  rintro e w22 ⟨⟨uma, uca, umc, ucc, rfl, hM, hN⟩, hb22⟩
  replace HB := hid_intro (HB.out.trans (hb22.mono HB.out.size))
  replace HBW := hid_intro (HBW.out.trans (hb22.mono HBW.out.size))
  replace HX2 := hid_intro (HX2.out.below hb22)
  replace HQ := hid_intro (HQ.out.trans (hb22.mono HQ.out.size))
  have MV := hid_intro hM
  clear hM hN
  clear hb22
  clear r0 r1 rL
  go_wp2_with fail
  refine (HTW.out _ _ (HKV.out _ _ _ HJ.out HB.out)).mono ?_
  rintro e w23 ⟨⟨uua, uuc, rfl, hV, hNW⟩, hb23⟩
  replace HB := hid_intro (HB.out.trans (hb23.mono HB.out.size))
  replace HBW := hid_intro (HBW.out.trans (hb23.mono HBW.out.size))
  replace HX2 := hid_intro (HX2.out.below hb23)
  replace HQ := hid_intro (HQ.out.trans (hb23.mono HQ.out.size))
  replace MV := hid_intro (HKM.out _ _ _ MV.out hb23)
  have VV := hid_intro hV
  clear hV hNW
  clear hb23
  go_wp2_with fail
  refine (HM.out _ _ _ (HLK.out _ _ HLD.out HB.out) MV.out VV.out).mono ?_
  rintro e w24 ⟨v, rfl, hv, hb24⟩
  replace HB := hid_intro (HB.out.trans (hb24.mono HB.out.size))
  replace HBW := hid_intro (HBW.out.trans (hb24.mono HBW.out.size))
  replace HX2 := hid_intro (HX2.out.below hb24)
  replace HQ := hid_intro (HQ.out.trans (hb24.mono HQ.out.size))
  replace MV := hid_intro (HKM.out _ _ _ MV.out hb24)
  obtain ⟨a3, n3, c3, e3, rfl⟩ := HF.out _ _ _ hv
  have HR3 := hid_intro (HOR.out _ _ _ hv)
  clear hv
  clear hb24
  clear MV VV
  have HX1z := hid_intro (HX6.out.below HBW.out)
  obtain ⟨w25, hw25⟩ : ∃ z, z = w24.alloc (.cells #[.slice a3 n3 c3, .int .i64 e3] 31) := ⟨_, rfl⟩
  have al : Below w24.heap.size w24 w25 := by rw [hw25]; exact (Below.refl _ _).alloc (Nat.le_refl _) _
  have HX3 : Hid (Blk w24.heap.size [.slice a3 n3 c3, .int .i64 e3] w25) := hid_intro (by rw [hw25]; exact Blk.new w24 [.slice a3 n3 c3, .int .i64 e3] 31)
  replace HB := hid_intro (HB.out.trans (al.mono HB.out.size))
  replace HBW := hid_intro (HBW.out.trans (al.mono HBW.out.size))
  replace HX2 := hid_intro (HX2.out.below al)
  replace HQ := hid_intro (HQ.out.trans (al.mono HQ.out.size))
  replace HR3 := hid_intro (HR.out _ _ _ HR3.out al)
  obtain ⟨B3, hB3⟩ : ∃ z, z = w24.heap.size := ⟨_, rfl⟩
  rw [← hB3] at HX3
  have HW := hid_intro hw25
  have HBBB3 := hid_intro hB3
  clear al hw25 hB3
  have x0 : w24.cell? ⟨B1, 0, none⟩ = some (.slice a1 n1 c1) := HX1z.out.2 0 (by simp)
  have x1 : w24.cell? ⟨B1, 1, none⟩ = some (.int .i64 e1) := HX1z.out.2 1 (by simp)
  have xL := HX1z.out.1
  go_wp2_with fail
  rw [← HW.out, ← HBBB3.out]
  clear HW HX1z
  clear x0 x1 xL
  have HX1z := hid_intro (HX6.out.below HBW.out)
  have x0 : w25.cell? ⟨B1, 0, none⟩ = some (.slice a1 n1 c1) := HX1z.out.2 0 (by simp)
  have x1 : w25.cell? ⟨B1, 1, none⟩ = some (.int .i64 e1) := HX1z.out.2 1 (by simp)
  have xL := HX1z.out.1
  have z0 : w25.cell? ⟨B3, 0, none⟩ = some (.slice a3 n3 c3) := HX3.out.2 0 (by simp)
  have z1 : w25.cell? ⟨B3, 1, none⟩ = some (.int .i64 e3) := HX3.out.2 1 (by simp)
  have zL := HX3.out.1
  go_wp2_with fail
  refine (HE.out _ _ _ HR3.out (HR.out _ _ _ HR6.out HBW.out)).mono ?_
  rintro e w26 ⟨rfl, hb26⟩
  replace HB := hid_intro (HB.out.trans (hb26.mono HB.out.size))
  replace HBW := hid_intro (HBW.out.trans (hb26.mono HBW.out.size))
  replace HX2 := hid_intro (HX2.out.below hb26)
  replace HQ := hid_intro (HQ.out.trans (hb26.mono HQ.out.size))
  replace HR3 := hid_intro (HR.out _ _ _ HR3.out hb26)
  clear hb26
  clear x0 x1 xL
  clear z0 z1 zL
  clear HX1z HX3
  have y0 : w26.cell? ⟨B2, 0, none⟩ = some (.slice a2 n2 c2) := HX2.out.2 0 (by simp)
  have y1 : w26.cell? ⟨B2, 1, none⟩ = some (.int .i64 e2) := HX2.out.2 1 (by simp)
  have yL := HX2.out.1
  go_wp2_with fail
  refine (HH.out _ HQ.out).mono ?_
  rintro e w27 ⟨rfl, hb27⟩
  replace HB := hid_intro (HB.out.trans (hb27.mono HB.out.size))
  replace HBW := hid_intro (HBW.out.trans (hb27.mono HBW.out.size))
  replace HX2 := hid_intro (HX2.out.below hb27)
  replace HQ := hid_intro (HQ.out.trans (hb27.mono HQ.out.size))
  replace HR3 := hid_intro (HR.out _ _ _ HR3.out hb27)
  clear hb27
  clear y0 y1 yL
  go_wp2_with fail
  go_ret
  exact ⟨rfl, HB.out⟩
end BillL
end Go.Proofs.YtcilbmhkhllmjaaGreatDoor
namespace Go.Proofs.YtcilbmhkhllmjaaGreatDoor
open Go.ChangeShapes Go.WideShapes Go.ChangeAt Go.RowKit
set_option linter.unusedVariables false
namespace EngR
open CatR ChG
open EvtR (Pt)
theorem ti_kq {base b o : Nat} {t : Ti} {w w' : World} (h : TiAt w b o t) (hk : Kq base w w') (hb : base ≤ b) (hl : b < w.heap.size) : TiAt w' b o t := ⟨(hk.cell hb hl _).trans h.1, (hk.cell hb hl _).trans h.2⟩
theorem tis_kq {base b off len : Nat} {ts : List Ti} {w w' : World} (h : Tis (some ⟨b, off, none⟩) len ts w) (hk : Kq base w w') (hb : base ≤ b) : Tis (some ⟨b, off, none⟩) len ts w' := by
  refine ⟨h.1, ?_⟩
  rcases h.2 with h0 | ⟨b', off', e, hl, hc⟩
  · exact .inl h0
  · cases e
    exact .inr ⟨b, off, rfl, Nat.lt_of_lt_of_le hl hk.size, fun j hj => ti_kq (hc j hj) hk hb hl⟩
theorem crs_kq {base b off len : Nat} {ts : List Cr} {w w' : World} (h : Crs (some ⟨b, off, none⟩) len ts w) (hk : Kq base w w') (hb : base ≤ b) : Crs (some ⟨b, off, none⟩) len ts w' := by
  refine ⟨h.1, ?_⟩
  rcases h.2 with h0 | ⟨b', off', e, hl, hc⟩
  · exact .inl h0
  · cases e
    exact .inr ⟨b, off, rfl, Nat.lt_of_lt_of_le hl hk.size, fun j hj => ⟨(hk.cell hb hl _).trans (hc j hj).1, (hk.cell hb hl _).trans (hc j hj).2⟩⟩
theorem newca_kq {base : Nat} {v : Value} {c : Ca} {w w' : World} (h : NewCa base v c w) (hk : Kq base w w') : NewCa base v c w' := by
  obtain ⟨g, bs, h0, h1, h2, h3, h4, h5, h6⟩ := h
  have hg := h2.lo
  refine ⟨g, bs, h0, h1, ⟨h2.lo, hk.pt h2.pt hg, h2.inc, fun i hi => ?_⟩, h3, h4, crs_kq h5 hk (by omega), hk.pt h6 (by omega)⟩
  obtain ⟨⟨c0, c1, c2, c3, c4, c5⟩, c6, c7⟩ := h2.cel i hi
  have hb := (h2.inc i hi).1
  have f := fun o => hk.cell hg h2.pt.lt o
  exact ⟨⟨(f _).trans c0, (f _).trans c1, (f _).trans c2, (f _).trans c3, (f _).trans c4, (f _).trans c5⟩, tis_kq c6 hk (by omega), hk.pt c7 (by omega)⟩
theorem inn_kq {base g t t' : Nat} {a : Option Addr} {n m : Nat} {w w' : World} (h : WinR.Inn g t a n m w) (hk : Kq base w w') (hb : base ≤ g) (ht : t ≤ t') : WinR.Inn g t' a n m w' := h.imp id (fun ⟨g', e1, e2, e3, e4⟩ => ⟨g', e1, e2, by omega, hk.pt e4 (by omega)⟩)
theorem wx_kq {base g t k : Nat} {ws : List WinR.Wd} {w w' : World} (h : WinR.WX g t k ws w) (hg : g < w.heap.size) (hk : Kq base w w') (hb : base ≤ g) : WinR.WX g t k ws w' := fun j hj => by
  obtain ⟨ta, tc, ha, hc, c6, c7, n1, n2⟩ := h j hj
  exact ⟨ta, tc, ha, hc, (hk.cell hb hg _).trans c6, (hk.cell hb hg _).trans c7, inn_kq n1 hk hb (Nat.le_refl _), inn_kq n2 hk hb (Nat.le_refl _)⟩
theorem ww_kq {base g k : Nat} {ws : List WinR.Wd} {w w' : World} (h : WinR.WW g k ws w) (hg : g < w.heap.size) (hk : Kq base w w') (hb : base ≤ g) : WinR.WW g k ws w' := by
  intro j hj
  obtain ⟨ta, tc, ha, hc, c0, c1, c2, c3, c4, c5, c6, c7, hT, hH, n1, n2⟩ := h j hj
  have f := fun o => hk.cell hb hg o
  exact ⟨ta, tc, ha, hc, (f _).trans c0, (f _).trans c1, (f _).trans c2, (f _).trans c3, (f _).trans c4, (f _).trans c5, (f _).trans c6, (f _).trans c7, rws_kq hT hk (n1.imp id (fun ⟨g', e1, e2, _⟩ b off e => by rw [e1] at e; simp at e; omega)), rws_kq hH hk (n2.imp id (fun ⟨g', e1, e2, _⟩ b off e => by rw [e1] at e; simp at e; omega)), inn_kq n1 hk hb hk.size, inn_kq n2 hk hb hk.size⟩
end EngR
end Go.Proofs.YtcilbmhkhllmjaaGreatDoor
namespace Go.Proofs.YtcilbmhkhllmjaaGreatDoor
open Go.ChangeShapes Go.WideShapes Go.RowKit
namespace Lay
theorem own : ownKnob Tryz.prog.godebug = none := by kernel_rfl
theorem laidOut : laidOutB Tryz.prog = true := by kernel_rfl
theorem gv : Tryz.prog.globalNamed "loop.example/g00562/impl.monthLengths" = some 3 := by kernel_rfl
theorem gt : (Tryz.prog.globals[3]?).map (·.type) = some 264 := by kernel_rfl
theorem cellsE : Tryz.prog.cellsOf 2 = 1 := by kernel_rfl
theorem cellsT : Tryz.prog.cellsOf 264 = 12 := by kernel_rfl
def laid {H : Type} : List (String × DataW H) := [("loop.example/g00562/impl.monthLengths", Rows.laid_loop_example_g00562_impl_monthLengths)]
theorem of_tab {W : World} (hT : Lib.TabIs Tryz.prog W "loop.example/g00562/impl.monthLengths" .i64 DateR.tab) : DateR.Laid W := by
  have hc : ∀ k : Nat, k < 12 → W.cell? ⟨3, k, none⟩ = some (.int .i64 (DateR.tab.getD k 0)) := fun k hk => hT.cell gv k hk
  refine ⟨?_, hc⟩
  rcases Nat.lt_or_ge 3 W.heap.size with h | h
  · exact h
  · have h0 : W.heap[3]? = none := Array.getElem?_eq_none h
    have := hc 0 (by omega)
    simp [World.cell?, h0] at this
theorem of_laid {W : World} (h : laidMetH Tryz.prog laid W) : DateR.Laid W := by
  rw [MakeChecks.laidMetH_plain _ _ _ (by kernel_rfl)] at h
  exact of_tab (Lib.tabIs_of_head gv gt Tryz.underlying264 Tryz.underlying2 cellsE cellsT (zs := DateR.tab) (k := .i64) h)
theorem door_met (os : Os) (args : Array Value) : laidMetH Tryz.prog laid ((World.doorLaid Tryz.prog 400 os).forCall (fun _ _ => 0) ⟨#[], args, []⟩).memory :=
  laidMetH_of_parts3 (fuel := 8) (laidMet_of_run' 8 (by kernel_rfl) (by kernel_rfl)) (by kernel_rfl) (by kernel_rfl)
end Lay
end Go.Proofs.YtcilbmhkhllmjaaGreatDoor
namespace Go.Proofs.YtcilbmhkhllmjaaGreatDoor
open Go.ChangeShapes Go.WideShapes Go.RowKit
namespace Snm
theorem laidOut : laidOutB Tryz.prog = true := by kernel_rfl
theorem own : ownKnob Tryz.prog.godebug = none := by kernel_rfl
theorem gv : Tryz.prog.globalNamed "loop.example/g00562/impl.errNoMeter" = some 0 := by kernel_rfl
theorem gt : (Tryz.prog.globals[0]?).map (·.type) = some 169 := by kernel_rfl
theorem star : "*" ++ "errors.errorString" = "*errors.errorString" := by decide
theorem row (u : TypeId) (h : Tryz.prog.typeName? 3 u = some "*errors.errorString") : u = 265 :=
  typeName_ptr_named (nm := "errors.errorString") (by rw [star]; kernel_rfl) (by kernel_rfl) (by decide) u (by rw [star]; exact h)
theorem cellsE : Tryz.prog.cellsOf 289 = 1 := by kernel_rfl
theorem cellsS : Tryz.prog.cellsOf 9 = 1 := by kernel_rfl
def laid {H : Type} : List (String × DataW H) := [("loop.example/g00562/impl.errNoMeter", Rows.laid_loop_example_g00562_impl_errNoMeter)]
theorem of_laid {W : World} (h : laidMetH Tryz.prog laid W) : ∃ a : Addr, W.var? Tryz.prog "loop.example/g00562/impl.errNoMeter" = some #[.iface 265 (.pointer (some a))] := by
  rw [MakeChecks.laidMetH_plain _ _ _ (by kernel_rfl)] at h
  obtain ⟨a, s, hv, _⟩ := laid_sentinel h gv gt Tryz.underlying169 row Tryz.underlying265 Tryz.underlying289 rfl rfl Tryz.underlying9 cellsE cellsS
  exact ⟨a, hv⟩
theorem laid_of {W : World} {a : Addr} (h : W.var? Tryz.prog "loop.example/g00562/impl.errNoMeter" = some #[.iface 265 (.pointer (some a))]) : CatR.Laid W := by
  have hg : W.cell? ⟨0, 0, none⟩ = some (.iface 265 (.pointer (some a))) := by simpa using World.var?_cell gv h 0
  refine ⟨?_, a, hg⟩
  rcases Nat.lt_or_ge 0 W.heap.size with h | h
  · exact h
  · have h0 : W.heap[0]? = none := Array.getElem?_eq_none h
    simp [World.cell?, h0] at hg
theorem var_below {W W' : World} {cs : Array Value} (hL : CatR.Laid W) (h : W.var? Tryz.prog "loop.example/g00562/impl.errNoMeter" = some cs) (hb : Below W.heap.size W W') : W'.var? Tryz.prog "loop.example/g00562/impl.errNoMeter" = some cs := by
  unfold World.var? at h ⊢
  rw [gv] at h ⊢
  simp only [Option.bind_some] at h ⊢
  rw [hb.block 0 hL.1]
  exact h
theorem door_met (os : Os) (args : Array Value) : laidMetH Tryz.prog laid ((World.doorLaid Tryz.prog 400 os).forCall (fun _ _ => 0) ⟨#[], args, []⟩).memory :=
  laidMetH_of_parts3 (fuel := 8) (laidMet_of_run' 8 (by kernel_rfl) (by kernel_rfl)) (by kernel_rfl) (by kernel_rfl)
end Snm
end Go.Proofs.YtcilbmhkhllmjaaGreatDoor
namespace Go.Proofs.YtcilbmhkhllmjaaGreatDoor
open Go.ChangeShapes Go.WideShapes Go.RowKit
namespace Snt
theorem laidOut : laidOutB Tryz.prog = true := by kernel_rfl
theorem own : ownKnob Tryz.prog.godebug = none := by kernel_rfl
theorem gv : Tryz.prog.globalNamed "loop.example/g00562/impl.errRunsOver" = some 2 := by kernel_rfl
theorem gt : (Tryz.prog.globals[2]?).map (·.type) = some 169 := by kernel_rfl
theorem star : "*" ++ "errors.errorString" = "*errors.errorString" := by decide
theorem row (u : TypeId) (h : Tryz.prog.typeName? 3 u = some "*errors.errorString") : u = 265 :=
  typeName_ptr_named (nm := "errors.errorString") (by rw [star]; kernel_rfl) (by kernel_rfl) (by decide) u (by rw [star]; exact h)
theorem cellsE : Tryz.prog.cellsOf 289 = 1 := by kernel_rfl
theorem cellsS : Tryz.prog.cellsOf 9 = 1 := by kernel_rfl
def laid {H : Type} : List (String × DataW H) := [("loop.example/g00562/impl.errRunsOver", Rows.laid_loop_example_g00562_impl_errRunsOver)]
theorem of_laid {W : World} (h : laidMetH Tryz.prog laid W) : ∃ a : Addr, W.var? Tryz.prog "loop.example/g00562/impl.errRunsOver" = some #[.iface 265 (.pointer (some a))] := by
  rw [MakeChecks.laidMetH_plain _ _ _ (by kernel_rfl)] at h
  obtain ⟨a, s, hv, _⟩ := laid_sentinel h gv gt Tryz.underlying169 row Tryz.underlying265 Tryz.underlying289 rfl rfl Tryz.underlying9 cellsE cellsS
  exact ⟨a, hv⟩
theorem laid_of {W : World} {x : Value} {u : TypeId} (h : W.var? Tryz.prog "loop.example/g00562/impl.errRunsOver" = some #[.iface u x]) : FixR.Laid W := by
  have hg : W.cell? ⟨2, 0, none⟩ = some (.iface u x) := by simpa using World.var?_cell gv h 0
  refine ⟨?_, u, x, hg⟩
  rcases Nat.lt_or_ge 2 W.heap.size with h | h
  · exact h
  · have h0 : W.heap[2]? = none := Array.getElem?_eq_none h
    simp [World.cell?, h0] at hg
theorem var_below {W W' : World} {cs : Array Value} (hL : FixR.Laid W) (h : W.var? Tryz.prog "loop.example/g00562/impl.errRunsOver" = some cs) (hb : Below W.heap.size W W') : W'.var? Tryz.prog "loop.example/g00562/impl.errRunsOver" = some cs := by
  unfold World.var? at h ⊢
  rw [gv] at h ⊢
  simp only [Option.bind_some] at h ⊢
  rw [hb.block 2 hL.1]
  exact h
theorem door_met (os : Os) (args : Array Value) : laidMetH Tryz.prog laid ((World.doorLaid Tryz.prog 400 os).forCall (fun _ _ => 0) ⟨#[], args, []⟩).memory :=
  laidMetH_of_parts3 (fuel := 8) (laidMet_of_run' 8 (by kernel_rfl) (by kernel_rfl)) (by kernel_rfl) (by kernel_rfl)
end Snt
end Go.Proofs.YtcilbmhkhllmjaaGreatDoor
namespace Go.Proofs.YtcilbmhkhllmjaaGreatDoor
open Go.ChangeShapes Go.WideShapes Go.RowKit
namespace LayB
theorem own : ownKnob Tryz.prog.godebug = none := by kernel_rfl
theorem laidOut : laidOutB Tryz.prog = true := by kernel_rfl
def Ok (w : World) : Prop := CatR.Laid w ∧ DateR.Laid w ∧ FixR.Laid w
theorem Ok.below {w w' : World} (h : Ok w) (hb : Below w.heap.size w w') : Ok w' := ⟨h.1.below hb, h.2.1.below hb, h.2.2.below hb⟩
def laid {H : Type} : List (String × DataW H) := [("loop.example/g00562/impl.errRunsOver", Rows.laid_loop_example_g00562_impl_errRunsOver), ("loop.example/g00562/impl.monthLengths", Rows.laid_loop_example_g00562_impl_monthLengths), ("loop.example/g00562/impl.errNoMeter", Rows.laid_loop_example_g00562_impl_errNoMeter)]
theorem part1 : (laid (H := Unit)).filter (fun x => x.1 == "loop.example/g00562/impl.monthLengths") = Lay.laid := by rfl
theorem part2 : (laid (H := Unit)).filter (fun x => x.1 == "loop.example/g00562/impl.errNoMeter") = Snm.laid := by rfl
theorem part3 : (laid (H := Unit)).filter (fun x => x.1 == "loop.example/g00562/impl.errRunsOver") = Snt.laid := by rfl
theorem of_laid {W : World} (h : laidMetH Tryz.prog laid W) : Ok W := by
  have h1 := h.filter (fun x => x.1 == "loop.example/g00562/impl.monthLengths")
  have h2 := h.filter (fun x => x.1 == "loop.example/g00562/impl.errNoMeter")
  have h3 := h.filter (fun x => x.1 == "loop.example/g00562/impl.errRunsOver")
  rw [part1] at h1
  rw [part2] at h2
  rw [part3] at h3
  obtain ⟨a, hv⟩ := Snm.of_laid h2
  obtain ⟨b, hu⟩ := Snt.of_laid h3
  exact ⟨Snm.laid_of hv, Lay.of_laid h1, Snt.laid_of hu⟩
theorem door_met (os : Os) (args : Array Value) : laidMetH Tryz.prog laid ((World.doorLaid Tryz.prog 400 os).forCall (fun _ _ => 0) ⟨#[], args, []⟩).memory :=
  laidMetH_of_parts3 (fuel := 8) (laidMet_of_run' 8 (by kernel_rfl) (by kernel_rfl)) (by kernel_rfl) (by kernel_rfl)
section
variable {H : Type} {enc : TypeId × Value → H} {P : Program} {w : World} {spare : Nat → Bool}
/-- Three named variables, opened. -/
theorem trodVars_three {n0 n1 n2 : String} {gs : List (DataW H)} {ps : List MemPlace} (h : DataW.TrodVars enc P w spare [n0, n1, n2] gs ps) : ∃ d0 d1 d2, gs = [d0, d1, d2] := by
  cases gs with
  | nil => simp [DataW.TrodVars] at h
  | cons d ds =>
    obtain ⟨g0, t0, cs0, f0, p0, q0, h1, h2, h3, h4, hs, e⟩ := h
    obtain ⟨_, _, _, _, d0, _, _, _, _, _, d1, _, rfl, _⟩ := Go.trodVars_two hs
    exact ⟨d, _, _, rfl⟩
end
end LayB
end Go.Proofs.YtcilbmhkhllmjaaGreatDoor
