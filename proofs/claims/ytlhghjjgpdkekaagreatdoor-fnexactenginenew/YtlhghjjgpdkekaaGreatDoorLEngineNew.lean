/-
  FnExactEngineNew: for every catalog and every list of texts the law's call returns true (the program's EngineNew hands back what the model's does, writes into no argument and keeps nothing of one; its answer is its own, behind another call too), and the arguments read as they did. The condition, told by the card: the program's own variable holds its error.
-/
import Derived.Test.YtlhghjjgpdkekaaGreatDoorEgK
import Derived.Test.YtlhghjjgpdkekaaGreatDoorCatIn
import Derived.Test.YtlhghjjgpdkekaaGreatDoorStIn
import Derived.Test.YtlhghjjgpdkekaaGreatDoorSentM
import Derived.Test.YtlhghjjgpdkekaaGreatDoorCards
import Derived.Carry
import Derived.OpenVars
import Derived.SevenTiedAt
import Derived.Deep.RegionHeld3
namespace Go.Proofs.YtlhghjjgpdkekaaGreatDoor
open Go.ChangeShapes Go.WideShapes Go.ChangeAt Go.RowKit
open Go.ChangeMaps (open_string shut_string)
set_option linter.unusedVariables false
namespace EngineNewL
open CatR StxR EngR ChG
open EvtR (Pt)
/-- What is held through the region that draws. -/
def BX (w5 : World) (B1 B2 : Nat) (a0 a1 b0 b1 : Value) (W : World) : Prop := Below w5.heap.size w5 W ∧ B1 < W.heap.size ∧ B2 < W.heap.size ∧ W.cell? ⟨B1, 0, none⟩ = some a0 ∧ W.cell? ⟨B1, 1, none⟩ = some a1 ∧ W.cell? ⟨B2, 0, none⟩ = some b0 ∧ W.cell? ⟨B2, 1, none⟩ = some b1
theorem BX.below {w5 : World} {B1 B2 : Nat} {a0 a1 b0 b1 : Value} {W W' : World} (h : BX w5 B1 B2 a0 a1 b0 b1 W) (hb : Below W.heap.size W W') : BX w5 B1 B2 a0 a1 b0 b1 W' := by
  obtain ⟨h0, l1, l2, p0, p1, p2, p3⟩ := h
  have f := fun o => hb.cell (p := ⟨B1, o, none⟩) l1
  have g := fun o => hb.cell (p := ⟨B2, o, none⟩) l2
  have hs := hb.size
  exact ⟨h0.trans (hb.mono h0.size), by omega, by omega, (f 0).trans p0, (f 1).trans p1, (g 0).trans p2, (g 1).trans p3⟩
theorem BX.drew {w5 : World} {B1 B2 : Nat} {a0 a1 b0 b1 : Value} {W : World} (h : BX w5 B1 B2 a0 a1 b0 b1 W) : BX w5 B1 B2 a0 a1 b0 b1 W.drew := ⟨h.1.drew, h.2⟩
set_option maxRecDepth 100000 in
set_option maxHeartbeats 16000000 in
theorem law_in (M : Value → World → Prop) (N : Nat → Value → World → Prop) (L : World → Prop) (TT : Option Addr → World → Prop) (R : Value → World → Prop) (O : Nat → Value → World → Prop) (ma : Option Addr) (ml mc : Nat) (ca : Option Addr) (cl cc : Nat) (pa : Option Addr) (nl pc : Nat) (P Q : Prop) (ZF : Int → Int) (w : World) (hI : M (.agg #[.slice ma ml mc, .slice ca cl cc]) w) (hT0 : TT pa w) (hL : L w)
    (hkm : ∀ v w w', M v w → Below w.heap.size w w' → M v w') (hkl : ∀ w w', L w → Below w.heap.size w w' → L w') (hkn : ∀ b v w w', N b v w → Below w.heap.size w w' → N b v w') (hkt : ∀ ta w w', TT ta w → Below w.heap.size w w' → TT ta w')
    (hNM : ∀ b v w, N b v w → M v w)
    (hR : ∀ v W W', R v W → Below W.heap.size W W' → R v W')
    (hOR : ∀ b v W, O b v W → R v W)
    (hOK : ∀ b v W W', O b v W → Kq b W W' → O b v W')
    (hF : ∀ b v W, O b v W → ∃ (a : Option Addr) (n c : Nat) (l : Option Addr) (k d : Nat) (s : Option Addr) (p q : Nat) (e : Int), v = .agg #[.slice a n c, .slice l k d, .slice s p q, .slice none 0 0, .slice none 0 0, .slice none 0 0, .int .i64 0, .int .i64 0, .int .i64 0, .int .i64 0, .int .i64 0, .int .i64 0, .slice none 0 0, .int .i64 e])
    (hZ : ∀ w, M (.agg #[.slice ma ml mc, .slice ca cl cc]) w → Calls Tryz.prog 4 #[.agg #[.slice ma ml mc, .slice ca cl cc], .int .i64 1048576] w fun e w' => SzOut 1048576 P e ∧ Below w.heap.size w w')
    (hZT : ∀ L, 0 ≤ L → L ≤ 1048576 → ∀ w, TT pa w → Calls Tryz.prog 5 #[.slice pa nl pc, .int .i64 L] w fun e w' => e = .returned (.int .i64 (ZF L)) ∧ Below w.heap.size w w')
    (hQQ : ∀ L, L ≤ 1048576 → ¬ ZF L < 0 → Q)
    (hT : P ∧ Q → ∀ v w, M v w → Calls Tryz.prog 7 #[v] w fun e w' => (∃ a b, e = .returned (.agg #[.slice (some ⟨a, 0, none⟩) ml ml, .slice (some ⟨b, 0, none⟩) cl cl]) ∧ N w.heap.size (.agg #[.slice (some ⟨a, 0, none⟩) ml ml, .slice (some ⟨b, 0, none⟩) cl cl]) w' ∧ b < w'.heap.size) ∧ Below w.heap.size w w')
    (hTT : P ∧ Q → ∀ a c w, TT a w → Calls Tryz.prog 8 #[.slice a nl c] w fun e w' => e = .returned (.slice (some ⟨w.heap.size, 0, none⟩) nl nl) ∧ TT (some ⟨w.heap.size, 0, none⟩) w' ∧ Pt w.heap.size nl w' ∧ Below w.heap.size w w')
    (hS : P ∧ Q → ∀ a b ta c w, M (.agg #[.slice (some ⟨a, 0, none⟩) ml ml, .slice (some ⟨b, 0, none⟩) cl cl]) w → TT ta w → Calls Tryz.prog 6 #[(.agg #[.slice (some ⟨a, 0, none⟩) ml ml, .slice (some ⟨b, 0, none⟩) cl cl]), .slice ta nl c] w fun e w' => ∃ v, e = .returned v ∧ O w.heap.size v w' ∧ Below w.heap.size w w')
    (hM : P ∧ Q → ∀ a b ta c w, L w → M (.agg #[.slice (some ⟨a, 0, none⟩) ml ml, .slice (some ⟨b, 0, none⟩) cl cl]) w → TT ta w → Calls Tryz.prog 9 #[(.agg #[.slice (some ⟨a, 0, none⟩) ml ml, .slice (some ⟨b, 0, none⟩) cl cl]), .slice ta nl c] w fun e w' => ∃ v, e = .returned v ∧ O w.heap.size v w' ∧ Below w.heap.size w w')
    (hE : P ∧ Q → ∀ v v' W, R v W → R v' W → Calls Tryz.prog 10 #[v, v'] W fun e w' => e = .returned (.bool true) ∧ Below W.heap.size W w')
    (hEC : P ∧ Q → ∀ v v' w, M v w → M v' w → Calls Tryz.prog 11 #[v, v'] w fun e w' => e = .returned (.bool true) ∧ Below w.heap.size w w')
    (hET : P ∧ Q → ∀ a a' c c' w, TT a w → TT a' w → Calls Tryz.prog 12 #[.slice a nl c, .slice a' nl c'] w fun e w' => e = .returned (.bool true) ∧ Below w.heap.size w w')
    (hMk : P ∧ Q → ∀ base a b w top, N base (.agg #[.slice (some ⟨a, 0, none⟩) ml ml, .slice (some ⟨b, 0, none⟩) cl cl]) w → b < top → Calls Tryz.prog 13 #[(.agg #[.slice (some ⟨a, 0, none⟩) ml ml, .slice (some ⟨b, 0, none⟩) cl cl]), .int .i64 1] w fun e w' => ∃ K : Nat, e = .returned (.int .i64 K) ∧ 1 ≤ K ∧ K ≤ 20000000000000 ∧ Chg (fun b => base ≤ b ∧ b < top) w w')
    (hMT : P ∧ Q → ∀ g c (K : Nat) w, 1 ≤ K → K ≤ 20000000000000 → Pt g nl w → Calls Tryz.prog 14 #[.slice (some ⟨g, 0, none⟩) nl c, .int .i64 K] w fun e w' => (∃ K : Nat, e = .returned (.int .i64 K)) ∧ Chg (fun b => b = g) w w')
    (hK : P ∧ Q → ∀ base v Wt W, O base v Wt → Kq base Wt W → Calls Tryz.prog 15 #[v, .int .i64 1] W fun e w' => ∃ KK : Nat, e = .returned (.int .i64 KK) ∧ Chg (fun b => base ≤ b ∧ b < Wt.heap.size) W w' ∧ ∀ w2, Below w'.heap.size w' w2 → Calls Tryz.prog 16 #[v, .int .i64 1] w2 fun e w3 => e = .returned (.int .i64 KK) ∧ Below w2.heap.size w2 w3) :
    Calls Tryz.prog 3 #[.agg #[.slice ma ml mc, .slice ca cl cc], .slice pa nl pc] w fun e w' => e = .returned (.bool true) ∧ Below w.heap.size w w' := by
  have HI := hid_intro hI
  have HT0 := hid_intro hT0
  have HLD := hid_intro hL
  have HKM := hid_intro hkm
  have HLK := hid_intro hkl
  have HKN := hid_intro hkn
  have HKT := hid_intro hkt
  have HNM := hid_intro hNM
  have HR := hid_intro hR
  have HOR := hid_intro hOR
  have HOK := hid_intro hOK
  have HF := hid_intro hF
  have HZ := hid_intro hZ
  have HZT := hid_intro hZT
  have HQQ := hid_intro hQQ
  have HT := hid_intro hT
  have HTT := hid_intro hTT
  have HS := hid_intro hS
  have HM := hid_intro hM
  have HE := hid_intro hE
  have HEC := hid_intro hEC
  have HET := hid_intro hET
  have HMK := hid_intro hMk
  have HMT := hid_intro hMT
  have HK := hid_intro hK
  clear hI hT0 hL hkm hkl hkn hkt hNM hR hOR hOK hF hZ hZT hQQ hT hTT hS hM hE hEC hET hMk hMT hK
  have HA : Hid (Blk w.heap.size [.slice ma ml mc, .slice ca cl cc] (w.alloc (.cells #[.slice ma ml mc, .slice ca cl cc] 25))) := hid_intro (Blk.new w _ _)
  have HB : Hid (Below w.heap.size w (w.alloc (.cells #[.slice ma ml mc, .slice ca cl cc] 25))) := hid_intro ((Below.refl _ _).alloc (Nat.le_refl _) _)
  go_enter Tryz.func3, Tryz.ntmps3
  go_wp2_with fail
  refine (HZ.out _ (HKM.out _ _ _ HI.out HB.out)).mono ?_
  rintro e w1 ⟨⟨Z1, rfl, hZ1⟩, hb1⟩
  replace HA := hid_intro (HA.out.below hb1)
  replace HB := hid_intro (HB.out.trans (hb1.mono HB.out.size))
  clear hb1
  rcases hZ1 with rfl | ⟨hz0, hz1, hP⟩
  · go_wp2_with fail
    go_ret
    exact ⟨rfl, HB.out⟩
  have hz2 : ¬ Z1 < 0 := by omega
  go_wp2_with fail
  refine (HZT.out Z1 hz0 hz1 _ (HKT.out _ _ _ HT0.out HB.out)).mono ?_
  rintro e w2 ⟨rfl, hb2⟩
  replace HA := hid_intro (HA.out.below hb2)
  replace HB := hid_intro (HB.out.trans (hb2.mono HB.out.size))
  clear hb2
  have HQ0 := hid_intro (HQQ.out Z1 hz1)
  generalize ZF Z1 = Z2 at *
  by_cases hz3 : Z2 < 0
  · go_wp2_with fail
    go_ret
    exact ⟨rfl, HB.out⟩
  have hPQ : P ∧ Q := ⟨hP, HQ0.out (by omega)⟩
  replace HT := hid_intro (HT.out hPQ)
  replace HTT := hid_intro (HTT.out hPQ)
  replace HS := hid_intro (HS.out hPQ)
  replace HM := hid_intro (HM.out hPQ)
  replace HE := hid_intro (HE.out hPQ)
  replace HEC := hid_intro (HEC.out hPQ)
  replace HET := hid_intro (HET.out hPQ)
  replace HMK := hid_intro (HMK.out hPQ)
  replace HMT := hid_intro (HMT.out hPQ)
  replace HK := hid_intro (HK.out hPQ)
  clear HQ0 HQQ hPQ hP HZ HZT
  have r0 : w2.cell? ⟨w.heap.size, 0, none⟩ = some (.slice ma ml mc) := HA.out.2 0 (by simp)
  have r1 : w2.cell? ⟨w.heap.size, 1, none⟩ = some (.slice ca cl cc) := HA.out.2 1 (by simp)
  have rl := HA.out.1
  go_wp2_with fail
  refine (HT.out _ _ (HKM.out _ _ _ HI.out HB.out)).mono ?_
  rintro e w3 ⟨⟨b3, h3, rfl, hN, _⟩, hb3⟩
  replace HA := hid_intro (HA.out.below hb3)
  replace HB := hid_intro (HB.out.trans (hb3.mono HB.out.size))
  have MV := hid_intro (HNM.out _ _ _ hN)
  clear hN
  clear hb3
  clear r0 r1 rl
  go_wp2_with fail
  refine (HTT.out _ _ _ (HKT.out _ _ _ HT0.out HB.out)).mono ?_
  rintro e w4 ⟨rfl, hT, hP, hb4⟩
  replace HA := hid_intro (HA.out.below hb4)
  replace HB := hid_intro (HB.out.trans (hb4.mono HB.out.size))
  replace MV := hid_intro (HKM.out _ _ _ MV.out hb4)
  have TY := hid_intro hT
  clear hT hP
  clear hb4
  go_wp2_with fail
  refine (HS.out _ _ _ _ _ MV.out TY.out).mono ?_
  rintro e w5 ⟨v, rfl, hv, hb5⟩
  replace HA := hid_intro (HA.out.below hb5)
  replace HB := hid_intro (HB.out.trans (hb5.mono HB.out.size))
  obtain ⟨a1, n1, c1, l1, k1, d1, s1, p1, q1, e1, rfl⟩ := HF.out _ _ _ hv
  have HR1 := hid_intro (HOR.out _ _ _ hv)
  clear hv MV TY
  clear hb5
  have HAz := HA
  obtain ⟨w6, hw6⟩ : ∃ z, z = w5.alloc (.cells #[.slice a1 n1 c1, .slice l1 k1 d1, .slice s1 p1 q1, .slice none 0 0, .slice none 0 0, .slice none 0 0, .int .i64 0, .int .i64 0, .int .i64 0, .int .i64 0, .int .i64 0, .int .i64 0, .slice none 0 0, .int .i64 e1] 42) := ⟨_, rfl⟩
  have al : Below w5.heap.size w5 w6 := by rw [hw6]; exact (Below.refl _ _).alloc (Nat.le_refl _) _
  have HX1 : Hid (Blk w5.heap.size [.slice a1 n1 c1, .slice l1 k1 d1, .slice s1 p1 q1, .slice none 0 0, .slice none 0 0, .slice none 0 0, .int .i64 0, .int .i64 0, .int .i64 0, .int .i64 0, .int .i64 0, .int .i64 0, .slice none 0 0, .int .i64 e1] w6) := hid_intro (by rw [hw6]; exact Blk.new w5 [.slice a1 n1 c1, .slice l1 k1 d1, .slice s1 p1 q1, .slice none 0 0, .slice none 0 0, .slice none 0 0, .int .i64 0, .int .i64 0, .int .i64 0, .int .i64 0, .int .i64 0, .int .i64 0, .slice none 0 0, .int .i64 e1] 42)
  replace HA := hid_intro (HA.out.below al)
  replace HB := hid_intro (HB.out.trans (al.mono HB.out.size))
  replace HR1 := hid_intro (HR.out _ _ _ HR1.out al)
  obtain ⟨B1, hB1⟩ : ∃ z, z = w5.heap.size := ⟨_, rfl⟩
  rw [← hB1] at HX1
  have HW := hid_intro hw6
  have HBBB1 := hid_intro hB1
  clear al hw6 hB1
  have HBW := hid_intro (Below.refl w6.heap.size w6)
  have HSZ0 : Hid (w.heap.size ≤ w6.heap.size) := hid_intro HB.out.size
  have HA6 := HA
  clear HA
  have r0 : w5.cell? ⟨w.heap.size, 0, none⟩ = some (.slice ma ml mc) := HAz.out.2 0 (by simp)
  have r1 : w5.cell? ⟨w.heap.size, 1, none⟩ = some (.slice ca cl cc) := HAz.out.2 1 (by simp)
  have rl := HAz.out.1
  go_wp2_with fail
  rw [← HW.out, ← HBBB1.out]
  clear HW HAz
  clear r0 r1 rl
  refine (HT.out _ _ (HKM.out _ _ _ HI.out HB.out)).mono ?_
  rintro e w7 ⟨⟨a7, b7, rfl, hN, hl⟩, hb7⟩
  replace HB := hid_intro (HB.out.trans (hb7.mono HB.out.size))
  replace HBW := hid_intro (HBW.out.trans (hb7.mono HBW.out.size))
  have HN := hid_intro hN
  have HLB := hid_intro hl
  have HSZ1 : w6.heap.size ≤ w7.heap.size := hb7.size
  clear hN hl
  clear hb7
  obtain ⟨w8, hw8⟩ : ∃ z, z = w7.alloc (.cells #[.slice (some ⟨a7, 0, none⟩) ml ml, .slice (some ⟨b7, 0, none⟩) cl cl] 32) := ⟨_, rfl⟩
  have al : Below w7.heap.size w7 w8 := by rw [hw8]; exact (Below.refl _ _).alloc (Nat.le_refl _) _
  have HX0 : Hid (Blk w7.heap.size [.slice (some ⟨a7, 0, none⟩) ml ml, .slice (some ⟨b7, 0, none⟩) cl cl] w8) := hid_intro (by rw [hw8]; exact Blk.new w7 [.slice (some ⟨a7, 0, none⟩) ml ml, .slice (some ⟨b7, 0, none⟩) cl cl] 32)
  replace HB := hid_intro (HB.out.trans (al.mono HB.out.size))
  replace HBW := hid_intro (HBW.out.trans (al.mono HBW.out.size))
  replace HN := hid_intro (HKN.out _ _ _ _ HN.out al)
  obtain ⟨B0, hB0⟩ : ∃ z, z = w7.heap.size := ⟨_, rfl⟩
  rw [← hB0] at HX0
  have HW := hid_intro hw8
  have HBBB0 := hid_intro hB0
  clear al hw8 hB0
  have HSZ2 : Hid (w7.heap.size < w8.heap.size) := hid_intro (by have := HX0.out.1; have := HBBB0.out; omega)
  go_wp2_with fail
  rw [← HW.out, ← HBBB0.out]
  clear HW
  refine (HTT.out _ _ _ (HKT.out _ _ _ HT0.out HB.out)).mono ?_
  rintro e w9 ⟨rfl, hT, hP, hb9⟩
  replace HB := hid_intro (HB.out.trans (hb9.mono HB.out.size))
  replace HBW := hid_intro (HBW.out.trans (hb9.mono HBW.out.size))
  replace HN := hid_intro (HKN.out _ _ _ _ HN.out hb9)
  replace HX0 := hid_intro (HX0.out.below hb9)
  have TX := hid_intro hT
  have PX := hid_intro hP
  clear hT hP
  clear hb9
  have HSZ3 : Hid (w8.heap.size < w9.heap.size) := hid_intro PX.out.lt
  have s0 : w9.cell? ⟨B0, 0, none⟩ = some (.slice (some ⟨a7, 0, none⟩) ml ml) := HX0.out.2 0 (by simp)
  have s1 : w9.cell? ⟨B0, 1, none⟩ = some (.slice (some ⟨b7, 0, none⟩) cl cl) := HX0.out.2 1 (by simp)
  have sl := HX0.out.1
  go_wp2_with fail
  refine (HM.out _ _ _ _ _ (HLK.out _ _ HLD.out HB.out) (HNM.out _ _ _ HN.out) TX.out).mono ?_
  rintro e w10 ⟨v, rfl, hv, hb10⟩
  replace HB := hid_intro (HB.out.trans (hb10.mono HB.out.size))
  replace HBW := hid_intro (HBW.out.trans (hb10.mono HBW.out.size))
  replace HN := hid_intro (HKN.out _ _ _ _ HN.out hb10)
  replace HX0 := hid_intro (HX0.out.below hb10)
  replace TX := hid_intro (HKT.out _ _ _ TX.out hb10)
  replace PX := hid_intro (PX.out.below hb10)
  have HO2 := hid_intro hv
  obtain ⟨a2, n2, c2, l2, k2, d2, s2, p2, q2, e2, rfl⟩ := HF.out _ _ _ hv
  have HKP := hid_intro (Kq.refl w9.heap.size w10)
  have HS9 : Hid (w9.heap.size ≤ w10.heap.size) := hid_intro hb10.size
  clear hv
  clear hb10
  clear s0 s1 sl
  have HX1z := hid_intro (HX1.out.below HBW.out)
  obtain ⟨w11, hw11⟩ : ∃ z, z = w10.alloc (.cells #[.slice a2 n2 c2, .slice l2 k2 d2, .slice s2 p2 q2, .slice none 0 0, .slice none 0 0, .slice none 0 0, .int .i64 0, .int .i64 0, .int .i64 0, .int .i64 0, .int .i64 0, .int .i64 0, .slice none 0 0, .int .i64 e2] 42) := ⟨_, rfl⟩
  have al : Below w10.heap.size w10 w11 := by rw [hw11]; exact (Below.refl _ _).alloc (Nat.le_refl _) _
  have HX2 : Hid (Blk w10.heap.size [.slice a2 n2 c2, .slice l2 k2 d2, .slice s2 p2 q2, .slice none 0 0, .slice none 0 0, .slice none 0 0, .int .i64 0, .int .i64 0, .int .i64 0, .int .i64 0, .int .i64 0, .int .i64 0, .slice none 0 0, .int .i64 e2] w11) := hid_intro (by rw [hw11]; exact Blk.new w10 [.slice a2 n2 c2, .slice l2 k2 d2, .slice s2 p2 q2, .slice none 0 0, .slice none 0 0, .slice none 0 0, .int .i64 0, .int .i64 0, .int .i64 0, .int .i64 0, .int .i64 0, .int .i64 0, .slice none 0 0, .int .i64 e2] 42)
  replace HB := hid_intro (HB.out.trans (al.mono HB.out.size))
  replace HBW := hid_intro (HBW.out.trans (al.mono HBW.out.size))
  replace HN := hid_intro (HKN.out _ _ _ _ HN.out al)
  replace HX0 := hid_intro (HX0.out.below al)
  replace TX := hid_intro (HKT.out _ _ _ TX.out al)
  replace PX := hid_intro (PX.out.below al)
  replace HKP := hid_intro (HKP.out.below al)
  obtain ⟨B2, hB2⟩ : ∃ z, z = w10.heap.size := ⟨_, rfl⟩
  rw [← hB2] at HX2
  have HW := hid_intro hw11
  have HBBB2 := hid_intro hB2
  clear al hw11 hB2
  have HLB2 : Hid (w9.heap.size ≤ B2) := hid_intro (by have := HS9.out; have := HBBB2.out; omega)
  have x0 : w10.cell? ⟨B1, 0, none⟩ = some (.slice a1 n1 c1) := HX1z.out.2 0 (by simp)
  have x1 : w10.cell? ⟨B1, 1, none⟩ = some (.slice l1 k1 d1) := HX1z.out.2 1 (by simp)
  have x2 : w10.cell? ⟨B1, 2, none⟩ = some (.slice s1 p1 q1) := HX1z.out.2 2 (by simp)
  have x3 : w10.cell? ⟨B1, 3, none⟩ = some (.slice none 0 0) := HX1z.out.2 3 (by simp)
  have x4 : w10.cell? ⟨B1, 4, none⟩ = some (.slice none 0 0) := HX1z.out.2 4 (by simp)
  have x5 : w10.cell? ⟨B1, 5, none⟩ = some (.slice none 0 0) := HX1z.out.2 5 (by simp)
  have x6 : w10.cell? ⟨B1, 6, none⟩ = some (.int .i64 0) := HX1z.out.2 6 (by simp)
  have x7 : w10.cell? ⟨B1, 7, none⟩ = some (.int .i64 0) := HX1z.out.2 7 (by simp)
  have x8 : w10.cell? ⟨B1, 8, none⟩ = some (.int .i64 0) := HX1z.out.2 8 (by simp)
  have x9 : w10.cell? ⟨B1, 9, none⟩ = some (.int .i64 0) := HX1z.out.2 9 (by simp)
  have x10 : w10.cell? ⟨B1, 10, none⟩ = some (.int .i64 0) := HX1z.out.2 10 (by simp)
  have x11 : w10.cell? ⟨B1, 11, none⟩ = some (.int .i64 0) := HX1z.out.2 11 (by simp)
  have x12 : w10.cell? ⟨B1, 12, none⟩ = some (.slice none 0 0) := HX1z.out.2 12 (by simp)
  have x13 : w10.cell? ⟨B1, 13, none⟩ = some (.int .i64 e1) := HX1z.out.2 13 (by simp)
  have xl := HX1z.out.1
  go_wp2_with fail
  rw [← HW.out, ← HBBB2.out]
  clear HW HX1z
  clear x0 x1 x2 x3 x4 x5 x6 x7 x8 x9 x10 x11 x12 x13 xl
  refine (HE.out _ _ _ (HOR.out _ _ _ (HOK.out _ _ _ _ HO2.out HKP.out)) (HR.out _ _ _ HR1.out HBW.out)).mono ?_
  rintro e w12 ⟨rfl, hb12⟩
  replace HB := hid_intro (HB.out.trans (hb12.mono HB.out.size))
  replace HBW := hid_intro (HBW.out.trans (hb12.mono HBW.out.size))
  replace HN := hid_intro (HKN.out _ _ _ _ HN.out hb12)
  replace HX0 := hid_intro (HX0.out.below hb12)
  replace TX := hid_intro (HKT.out _ _ _ TX.out hb12)
  replace PX := hid_intro (PX.out.below hb12)
  replace HKP := hid_intro (HKP.out.below hb12)
  replace HX2 := hid_intro (HX2.out.below hb12)
  clear hb12
  have HAz := hid_intro (HA6.out.below HBW.out)
  have r0 : w12.cell? ⟨w.heap.size, 0, none⟩ = some (.slice ma ml mc) := HAz.out.2 0 (by simp)
  have r1 : w12.cell? ⟨w.heap.size, 1, none⟩ = some (.slice ca cl cc) := HAz.out.2 1 (by simp)
  have rl := HAz.out.1
  have s0 : w12.cell? ⟨B0, 0, none⟩ = some (.slice (some ⟨a7, 0, none⟩) ml ml) := HX0.out.2 0 (by simp)
  have s1 : w12.cell? ⟨B0, 1, none⟩ = some (.slice (some ⟨b7, 0, none⟩) cl cl) := HX0.out.2 1 (by simp)
  have sl := HX0.out.1
  have HS0 : Hid (BX w12 w.heap.size B0 (.slice ma ml mc) (.slice ca cl cc) (.slice (some ⟨a7, 0, none⟩) ml ml) (.slice (some ⟨b7, 0, none⟩) cl cl) w12) := hid_intro ⟨Below.refl _ _, rl, sl, r0, r1, s0, s1⟩
  have HS1 := hid_intro HS0.out.drew
  have HM5 : Hid (∀ W, Below w12.heap.size w12 W → Calls Tryz.prog 7 #[.agg #[.slice ma ml mc, .slice ca cl cc]] W fun e w' => (∃ a b, e = .returned (.agg #[.slice (some ⟨a, 0, none⟩) ml ml, .slice (some ⟨b, 0, none⟩) cl cl]) ∧ M (.agg #[.slice (some ⟨a, 0, none⟩) ml ml, .slice (some ⟨b, 0, none⟩) cl cl]) w' ∧ M (.agg #[.slice (some ⟨a7, 0, none⟩) ml ml, .slice (some ⟨b7, 0, none⟩) cl cl]) w') ∧ Below W.heap.size W w') := hid_intro (fun W hW => (HT.out _ W (HKM.out _ _ _ HI.out (HB.out.trans (hW.mono HB.out.size)))).mono fun e w' h => by
    obtain ⟨⟨a, b, he, h1, _⟩, hb⟩ := h
    exact ⟨⟨a, b, he, HNM.out _ _ _ h1, HNM.out _ _ _ (HKN.out _ _ _ _ HN.out (hW.trans (hb.mono hW.size)))⟩, hb⟩)
  go_wp2_with fail
  go_region_held3 (fun W => Below w12.heap.size w12 W ∧ w.heap.size < W.heap.size ∧ B0 < W.heap.size ∧ W.cell? ⟨w.heap.size, 0, none⟩ = some (.slice ma ml mc) ∧ W.cell? ⟨w.heap.size, 1, none⟩ = some (.slice ca cl cc) ∧ W.cell? ⟨B0, 0, none⟩ = some (.slice (some ⟨a7, 0, none⟩) ml ml) ∧ W.cell? ⟨B0, 1, none⟩ = some (.slice (some ⟨b7, 0, none⟩) cl cl)) (first | assumption | (exact HS0.out) | (exact HS1.out) | (exact BX.below (w5 := w12) (B1 := w.heap.size) (B2 := B0) (by assumption) hb6) | (exact BX.below (w5 := w12) (B1 := w.heap.size) (B2 := B0) (by assumption) hb7))
    (first | (go_at_call 7; refine (HM5.out _ (by first | exact (by assumption : BX w12 _ _ _ _ _ _ _).1 | exact HS0.out.1 | exact HS1.out.1)).mono ?_; rintro e w13 ⟨⟨b6, c6, rfl, hN6, hN7⟩, hb6⟩) | (go_at_call 11; refine (HEC.out _ _ _ hN7 hN6).mono ?_; rintro e w14 ⟨rfl, hb7⟩))
  rename_i hS
  have hbS := hS.1
  replace HB := hid_intro (HB.out.trans (hbS.mono HB.out.size))
  replace HBW := hid_intro (HBW.out.trans (hbS.mono HBW.out.size))
  replace HN := hid_intro (HKN.out _ _ _ _ HN.out hbS)
  replace HX0 := hid_intro (HX0.out.below hbS)
  replace TX := hid_intro (HKT.out _ _ _ TX.out hbS)
  replace PX := hid_intro (PX.out.below hbS)
  replace HKP := hid_intro (HKP.out.below hbS)
  replace HX2 := hid_intro (HX2.out.below hbS)
  clear hS hbS HS0 HS1 HM5 HAz hN6 hN7 hb6 hb7
  clear r0 r1 rl
  clear s0 s1 sl
  go_wp2_with fail
  refine (HTT.out _ _ _ (HKT.out _ _ _ HT0.out HB.out)).mono ?_
  rintro e w15 ⟨rfl, hT, hP, hb15⟩
  replace HB := hid_intro (HB.out.trans (hb15.mono HB.out.size))
  replace HBW := hid_intro (HBW.out.trans (hb15.mono HBW.out.size))
  replace HN := hid_intro (HKN.out _ _ _ _ HN.out hb15)
  replace HX0 := hid_intro (HX0.out.below hb15)
  replace TX := hid_intro (HKT.out _ _ _ TX.out hb15)
  replace PX := hid_intro (PX.out.below hb15)
  replace HKP := hid_intro (HKP.out.below hb15)
  replace HX2 := hid_intro (HX2.out.below hb15)
  have TY := hid_intro hT
  clear hT hP
  clear hb15
  go_wp2_with fail
  refine (HET.out _ _ _ _ _ TX.out TY.out).mono ?_
  rintro e w16 ⟨rfl, hb16⟩
  replace HB := hid_intro (HB.out.trans (hb16.mono HB.out.size))
  replace HBW := hid_intro (HBW.out.trans (hb16.mono HBW.out.size))
  replace HN := hid_intro (HKN.out _ _ _ _ HN.out hb16)
  replace HX0 := hid_intro (HX0.out.below hb16)
  replace TX := hid_intro (HKT.out _ _ _ TX.out hb16)
  replace PX := hid_intro (PX.out.below hb16)
  replace HKP := hid_intro (HKP.out.below hb16)
  replace HX2 := hid_intro (HX2.out.below hb16)
  replace TY := hid_intro (HKT.out _ _ _ TY.out hb16)
  clear TY TX
  clear hb16
  have s0 : w16.cell? ⟨B0, 0, none⟩ = some (.slice (some ⟨a7, 0, none⟩) ml ml) := HX0.out.2 0 (by simp)
  have s1 : w16.cell? ⟨B0, 1, none⟩ = some (.slice (some ⟨b7, 0, none⟩) cl cl) := HX0.out.2 1 (by simp)
  have sl := HX0.out.1
  go_wp2_with fail
  refine (HMK.out _ a7 b7 w16 w7.heap.size HN.out HLB.out).mono ?_
  rintro e w17 ⟨K, rfl, hk1, hk2, hc⟩
  clear s0 s1 sl
  replace HB := hid_intro (hc.out HB.out (fun b q => by have := HSZ0.out; omega) (Nat.le_refl _))
  replace HBW := hid_intro (hc.out HBW.out (fun b q => by omega) (Nat.le_refl _))
  replace PX := hid_intro (hc.pt PX.out (fun q => by have := HSZ2.out; omega))
  replace HKP := hid_intro (HKP.out.chg hc (fun b q => by have := HSZ2.out; have := HSZ3.out; omega))
  replace HX2 := hid_intro (hc.blk HX2.out (fun q => by have := HLB2.out; have := HSZ2.out; have := HSZ3.out; omega))
  clear hc HN HX0
  go_wp2_with fail
  refine (HMT.out _ _ K _ hk1 hk2 PX.out).mono ?_
  rintro e w18 ⟨⟨K2, rfl⟩, hc⟩
  replace HB := hid_intro (hc.out HB.out (fun b q => by have := HSZ0.out; have := HSZ2.out; omega) (Nat.le_refl _))
  replace HBW := hid_intro (hc.out HBW.out (fun b q => by have := HSZ2.out; omega) (Nat.le_refl _))
  replace HKP := hid_intro (HKP.out.chg hc (fun b q => by have := HSZ2.out; have := HSZ3.out; have := HSZ2.out; omega))
  replace HX2 := hid_intro (hc.blk HX2.out (fun q => by have := HLB2.out; have := HSZ2.out; have := HSZ3.out; have := HSZ2.out; omega))
  clear hc PX
  have hkk : ¬ ((K2 : Nat) : Int) < 0 := by omega
  have HX1z := hid_intro (HX1.out.below HBW.out)
  have x0 : w18.cell? ⟨B1, 0, none⟩ = some (.slice a1 n1 c1) := HX1z.out.2 0 (by simp)
  have x1 : w18.cell? ⟨B1, 1, none⟩ = some (.slice l1 k1 d1) := HX1z.out.2 1 (by simp)
  have x2 : w18.cell? ⟨B1, 2, none⟩ = some (.slice s1 p1 q1) := HX1z.out.2 2 (by simp)
  have x3 : w18.cell? ⟨B1, 3, none⟩ = some (.slice none 0 0) := HX1z.out.2 3 (by simp)
  have x4 : w18.cell? ⟨B1, 4, none⟩ = some (.slice none 0 0) := HX1z.out.2 4 (by simp)
  have x5 : w18.cell? ⟨B1, 5, none⟩ = some (.slice none 0 0) := HX1z.out.2 5 (by simp)
  have x6 : w18.cell? ⟨B1, 6, none⟩ = some (.int .i64 0) := HX1z.out.2 6 (by simp)
  have x7 : w18.cell? ⟨B1, 7, none⟩ = some (.int .i64 0) := HX1z.out.2 7 (by simp)
  have x8 : w18.cell? ⟨B1, 8, none⟩ = some (.int .i64 0) := HX1z.out.2 8 (by simp)
  have x9 : w18.cell? ⟨B1, 9, none⟩ = some (.int .i64 0) := HX1z.out.2 9 (by simp)
  have x10 : w18.cell? ⟨B1, 10, none⟩ = some (.int .i64 0) := HX1z.out.2 10 (by simp)
  have x11 : w18.cell? ⟨B1, 11, none⟩ = some (.int .i64 0) := HX1z.out.2 11 (by simp)
  have x12 : w18.cell? ⟨B1, 12, none⟩ = some (.slice none 0 0) := HX1z.out.2 12 (by simp)
  have x13 : w18.cell? ⟨B1, 13, none⟩ = some (.int .i64 e1) := HX1z.out.2 13 (by simp)
  have xl := HX1z.out.1
  have y0 : w18.cell? ⟨B2, 0, none⟩ = some (.slice a2 n2 c2) := HX2.out.2 0 (by simp)
  have y1 : w18.cell? ⟨B2, 1, none⟩ = some (.slice l2 k2 d2) := HX2.out.2 1 (by simp)
  have y2 : w18.cell? ⟨B2, 2, none⟩ = some (.slice s2 p2 q2) := HX2.out.2 2 (by simp)
  have y3 : w18.cell? ⟨B2, 3, none⟩ = some (.slice none 0 0) := HX2.out.2 3 (by simp)
  have y4 : w18.cell? ⟨B2, 4, none⟩ = some (.slice none 0 0) := HX2.out.2 4 (by simp)
  have y5 : w18.cell? ⟨B2, 5, none⟩ = some (.slice none 0 0) := HX2.out.2 5 (by simp)
  have y6 : w18.cell? ⟨B2, 6, none⟩ = some (.int .i64 0) := HX2.out.2 6 (by simp)
  have y7 : w18.cell? ⟨B2, 7, none⟩ = some (.int .i64 0) := HX2.out.2 7 (by simp)
  have y8 : w18.cell? ⟨B2, 8, none⟩ = some (.int .i64 0) := HX2.out.2 8 (by simp)
  have y9 : w18.cell? ⟨B2, 9, none⟩ = some (.int .i64 0) := HX2.out.2 9 (by simp)
  have y10 : w18.cell? ⟨B2, 10, none⟩ = some (.int .i64 0) := HX2.out.2 10 (by simp)
  have y11 : w18.cell? ⟨B2, 11, none⟩ = some (.int .i64 0) := HX2.out.2 11 (by simp)
  have y12 : w18.cell? ⟨B2, 12, none⟩ = some (.slice none 0 0) := HX2.out.2 12 (by simp)
  have y13 : w18.cell? ⟨B2, 13, none⟩ = some (.int .i64 e2) := HX2.out.2 13 (by simp)
  have yl := HX2.out.1
  go_wp2_with fail
  refine (HE.out _ _ _ (HOR.out _ _ _ (HOK.out _ _ _ _ HO2.out HKP.out)) (HR.out _ _ _ HR1.out HBW.out)).mono ?_
  rintro e w19 ⟨rfl, hb19⟩
  replace HB := hid_intro (HB.out.trans (hb19.mono HB.out.size))
  replace HBW := hid_intro (HBW.out.trans (hb19.mono HBW.out.size))
  replace HKP := hid_intro (HKP.out.below hb19)
  replace HX2 := hid_intro (HX2.out.below hb19)
  clear hb19
  clear x0 x1 x2 x3 x4 x5 x6 x7 x8 x9 x10 x11 x12 x13 xl
  clear y0 y1 y2 y3 y4 y5 y6 y7 y8 y9 y10 y11 y12 y13 yl
  clear HX1z
  have y0 : w19.cell? ⟨B2, 0, none⟩ = some (.slice a2 n2 c2) := HX2.out.2 0 (by simp)
  have y1 : w19.cell? ⟨B2, 1, none⟩ = some (.slice l2 k2 d2) := HX2.out.2 1 (by simp)
  have y2 : w19.cell? ⟨B2, 2, none⟩ = some (.slice s2 p2 q2) := HX2.out.2 2 (by simp)
  have y3 : w19.cell? ⟨B2, 3, none⟩ = some (.slice none 0 0) := HX2.out.2 3 (by simp)
  have y4 : w19.cell? ⟨B2, 4, none⟩ = some (.slice none 0 0) := HX2.out.2 4 (by simp)
  have y5 : w19.cell? ⟨B2, 5, none⟩ = some (.slice none 0 0) := HX2.out.2 5 (by simp)
  have y6 : w19.cell? ⟨B2, 6, none⟩ = some (.int .i64 0) := HX2.out.2 6 (by simp)
  have y7 : w19.cell? ⟨B2, 7, none⟩ = some (.int .i64 0) := HX2.out.2 7 (by simp)
  have y8 : w19.cell? ⟨B2, 8, none⟩ = some (.int .i64 0) := HX2.out.2 8 (by simp)
  have y9 : w19.cell? ⟨B2, 9, none⟩ = some (.int .i64 0) := HX2.out.2 9 (by simp)
  have y10 : w19.cell? ⟨B2, 10, none⟩ = some (.int .i64 0) := HX2.out.2 10 (by simp)
  have y11 : w19.cell? ⟨B2, 11, none⟩ = some (.int .i64 0) := HX2.out.2 11 (by simp)
  have y12 : w19.cell? ⟨B2, 12, none⟩ = some (.slice none 0 0) := HX2.out.2 12 (by simp)
  have y13 : w19.cell? ⟨B2, 13, none⟩ = some (.int .i64 e2) := HX2.out.2 13 (by simp)
  have yl := HX2.out.1
  have HMKO := hid_intro (HK.out _ _ _ _ HO2.out HKP.out)
  go_wp2_with fail
  refine HMKO.out.mono ?_
  rintro e w20 ⟨KK, rfl, hc, hh⟩
  have HH := hid_intro hh
  clear y0 y1 y2 y3 y4 y5 y6 y7 y8 y9 y10 y11 y12 y13 yl
  replace HX2 := hid_intro (hc.blk HX2.out (fun q => by have := HBBB2.out; omega))
  replace HB := hid_intro (hc.out HB.out (fun b q => by have := HSZ0.out; have := HSZ2.out; have := HSZ3.out; omega) (Nat.le_refl _))
  replace HBW := hid_intro (hc.out HBW.out (fun b q => by have := HSZ2.out; have := HSZ3.out; omega) (Nat.le_refl _))
  clear hc hh HMKO HKP HO2
  have hk0 : ¬ ((KK : Nat) : Int) < 0 := by omega
  have HQ := hid_intro (Below.refl w20.heap.size w20)
  have y0 : w20.cell? ⟨B2, 0, none⟩ = some (.slice a2 n2 c2) := HX2.out.2 0 (by simp)
  have y1 : w20.cell? ⟨B2, 1, none⟩ = some (.slice l2 k2 d2) := HX2.out.2 1 (by simp)
  have y2 : w20.cell? ⟨B2, 2, none⟩ = some (.slice s2 p2 q2) := HX2.out.2 2 (by simp)
  have y3 : w20.cell? ⟨B2, 3, none⟩ = some (.slice none 0 0) := HX2.out.2 3 (by simp)
  have y4 : w20.cell? ⟨B2, 4, none⟩ = some (.slice none 0 0) := HX2.out.2 4 (by simp)
  have y5 : w20.cell? ⟨B2, 5, none⟩ = some (.slice none 0 0) := HX2.out.2 5 (by simp)
  have y6 : w20.cell? ⟨B2, 6, none⟩ = some (.int .i64 0) := HX2.out.2 6 (by simp)
  have y7 : w20.cell? ⟨B2, 7, none⟩ = some (.int .i64 0) := HX2.out.2 7 (by simp)
  have y8 : w20.cell? ⟨B2, 8, none⟩ = some (.int .i64 0) := HX2.out.2 8 (by simp)
  have y9 : w20.cell? ⟨B2, 9, none⟩ = some (.int .i64 0) := HX2.out.2 9 (by simp)
  have y10 : w20.cell? ⟨B2, 10, none⟩ = some (.int .i64 0) := HX2.out.2 10 (by simp)
  have y11 : w20.cell? ⟨B2, 11, none⟩ = some (.int .i64 0) := HX2.out.2 11 (by simp)
  have y12 : w20.cell? ⟨B2, 12, none⟩ = some (.slice none 0 0) := HX2.out.2 12 (by simp)
  have y13 : w20.cell? ⟨B2, 13, none⟩ = some (.int .i64 e2) := HX2.out.2 13 (by simp)
  have yl := HX2.out.1
  go_wp2_with fail
  refine (HH.out _ HQ.out).mono ?_
  rintro e w21 ⟨rfl, hb21⟩
  replace HB := hid_intro (HB.out.trans (hb21.mono HB.out.size))
  replace HBW := hid_intro (HBW.out.trans (hb21.mono HBW.out.size))
  replace HX2 := hid_intro (HX2.out.below hb21)
  replace HQ := hid_intro (HQ.out.trans (hb21.mono HQ.out.size))
  clear hb21
  clear y0 y1 y2 y3 y4 y5 y6 y7 y8 y9 y10 y11 y12 y13 yl
  have HAz := hid_intro (HA6.out.below HBW.out)
  have r0 : w21.cell? ⟨w.heap.size, 0, none⟩ = some (.slice ma ml mc) := HAz.out.2 0 (by simp)
  have r1 : w21.cell? ⟨w.heap.size, 1, none⟩ = some (.slice ca cl cc) := HAz.out.2 1 (by simp)
  have rl := HAz.out.1
  go_wp2_with fail
  refine (HT.out _ _ (HKM.out _ _ _ HI.out HB.out)).mono ?_
  rintro e w22 ⟨⟨b22, h22, rfl, hN, _⟩, hb22⟩
  replace HB := hid_intro (HB.out.trans (hb22.mono HB.out.size))
  replace HBW := hid_intro (HBW.out.trans (hb22.mono HBW.out.size))
  replace HX2 := hid_intro (HX2.out.below hb22)
  replace HQ := hid_intro (HQ.out.trans (hb22.mono HQ.out.size))
  have MV := hid_intro (HNM.out _ _ _ hN)
  clear hN HAz
  clear hb22
  clear r0 r1 rl
  go_wp2_with fail
  refine (HTT.out _ _ _ (HKT.out _ _ _ HT0.out HB.out)).mono ?_
  rintro e w23 ⟨rfl, hT, hP, hb23⟩
  replace HB := hid_intro (HB.out.trans (hb23.mono HB.out.size))
  replace HBW := hid_intro (HBW.out.trans (hb23.mono HBW.out.size))
  replace HX2 := hid_intro (HX2.out.below hb23)
  replace HQ := hid_intro (HQ.out.trans (hb23.mono HQ.out.size))
  replace MV := hid_intro (HKM.out _ _ _ MV.out hb23)
  have TY := hid_intro hT
  clear hT hP
  clear hb23
  go_wp2_with fail
  refine (HM.out _ _ _ _ _ (HLK.out _ _ HLD.out HB.out) MV.out TY.out).mono ?_
  rintro e w24 ⟨v, rfl, hv, hb24⟩
  replace HB := hid_intro (HB.out.trans (hb24.mono HB.out.size))
  replace HBW := hid_intro (HBW.out.trans (hb24.mono HBW.out.size))
  replace HX2 := hid_intro (HX2.out.below hb24)
  replace HQ := hid_intro (HQ.out.trans (hb24.mono HQ.out.size))
  obtain ⟨a3, n3, c3, l3, k3, d3, s3, p3, q3, e3, rfl⟩ := HF.out _ _ _ hv
  have HR3 := hid_intro (HOR.out _ _ _ hv)
  clear hv MV TY
  clear hb24
  have HX1z := hid_intro (HX1.out.below HBW.out)
  obtain ⟨w25, hw25⟩ : ∃ z, z = w24.alloc (.cells #[.slice a3 n3 c3, .slice l3 k3 d3, .slice s3 p3 q3, .slice none 0 0, .slice none 0 0, .slice none 0 0, .int .i64 0, .int .i64 0, .int .i64 0, .int .i64 0, .int .i64 0, .int .i64 0, .slice none 0 0, .int .i64 e3] 42) := ⟨_, rfl⟩
  have al : Below w24.heap.size w24 w25 := by rw [hw25]; exact (Below.refl _ _).alloc (Nat.le_refl _) _
  have HX3 : Hid (Blk w24.heap.size [.slice a3 n3 c3, .slice l3 k3 d3, .slice s3 p3 q3, .slice none 0 0, .slice none 0 0, .slice none 0 0, .int .i64 0, .int .i64 0, .int .i64 0, .int .i64 0, .int .i64 0, .int .i64 0, .slice none 0 0, .int .i64 e3] w25) := hid_intro (by rw [hw25]; exact Blk.new w24 [.slice a3 n3 c3, .slice l3 k3 d3, .slice s3 p3 q3, .slice none 0 0, .slice none 0 0, .slice none 0 0, .int .i64 0, .int .i64 0, .int .i64 0, .int .i64 0, .int .i64 0, .int .i64 0, .slice none 0 0, .int .i64 e3] 42)
  replace HB := hid_intro (HB.out.trans (al.mono HB.out.size))
  replace HBW := hid_intro (HBW.out.trans (al.mono HBW.out.size))
  replace HX2 := hid_intro (HX2.out.below al)
  replace HQ := hid_intro (HQ.out.trans (al.mono HQ.out.size))
  replace HR3 := hid_intro (HR.out _ _ _ HR3.out al)
  obtain ⟨B3, hB3⟩ : ∃ z, z = w24.heap.size := ⟨_, rfl⟩
  rw [← hB3] at HX3
  have HW := hid_intro hw25
  have HBBB3 := hid_intro hB3
  clear al hw25 hB3
  have x0 : w24.cell? ⟨B1, 0, none⟩ = some (.slice a1 n1 c1) := HX1z.out.2 0 (by simp)
  have x1 : w24.cell? ⟨B1, 1, none⟩ = some (.slice l1 k1 d1) := HX1z.out.2 1 (by simp)
  have x2 : w24.cell? ⟨B1, 2, none⟩ = some (.slice s1 p1 q1) := HX1z.out.2 2 (by simp)
  have x3 : w24.cell? ⟨B1, 3, none⟩ = some (.slice none 0 0) := HX1z.out.2 3 (by simp)
  have x4 : w24.cell? ⟨B1, 4, none⟩ = some (.slice none 0 0) := HX1z.out.2 4 (by simp)
  have x5 : w24.cell? ⟨B1, 5, none⟩ = some (.slice none 0 0) := HX1z.out.2 5 (by simp)
  have x6 : w24.cell? ⟨B1, 6, none⟩ = some (.int .i64 0) := HX1z.out.2 6 (by simp)
  have x7 : w24.cell? ⟨B1, 7, none⟩ = some (.int .i64 0) := HX1z.out.2 7 (by simp)
  have x8 : w24.cell? ⟨B1, 8, none⟩ = some (.int .i64 0) := HX1z.out.2 8 (by simp)
  have x9 : w24.cell? ⟨B1, 9, none⟩ = some (.int .i64 0) := HX1z.out.2 9 (by simp)
  have x10 : w24.cell? ⟨B1, 10, none⟩ = some (.int .i64 0) := HX1z.out.2 10 (by simp)
  have x11 : w24.cell? ⟨B1, 11, none⟩ = some (.int .i64 0) := HX1z.out.2 11 (by simp)
  have x12 : w24.cell? ⟨B1, 12, none⟩ = some (.slice none 0 0) := HX1z.out.2 12 (by simp)
  have x13 : w24.cell? ⟨B1, 13, none⟩ = some (.int .i64 e1) := HX1z.out.2 13 (by simp)
  have xl := HX1z.out.1
  go_wp2_with fail
  rw [← HW.out, ← HBBB3.out]
  clear HW HX1z
  clear x0 x1 x2 x3 x4 x5 x6 x7 x8 x9 x10 x11 x12 x13 xl
  refine (HE.out _ _ _ HR3.out (HR.out _ _ _ HR1.out HBW.out)).mono ?_
  rintro e w26 ⟨rfl, hb26⟩
  replace HB := hid_intro (HB.out.trans (hb26.mono HB.out.size))
  replace HBW := hid_intro (HBW.out.trans (hb26.mono HBW.out.size))
  replace HX2 := hid_intro (HX2.out.below hb26)
  replace HQ := hid_intro (HQ.out.trans (hb26.mono HQ.out.size))
  clear hb26
  have y0 : w26.cell? ⟨B2, 0, none⟩ = some (.slice a2 n2 c2) := HX2.out.2 0 (by simp)
  have y1 : w26.cell? ⟨B2, 1, none⟩ = some (.slice l2 k2 d2) := HX2.out.2 1 (by simp)
  have y2 : w26.cell? ⟨B2, 2, none⟩ = some (.slice s2 p2 q2) := HX2.out.2 2 (by simp)
  have y3 : w26.cell? ⟨B2, 3, none⟩ = some (.slice none 0 0) := HX2.out.2 3 (by simp)
  have y4 : w26.cell? ⟨B2, 4, none⟩ = some (.slice none 0 0) := HX2.out.2 4 (by simp)
  have y5 : w26.cell? ⟨B2, 5, none⟩ = some (.slice none 0 0) := HX2.out.2 5 (by simp)
  have y6 : w26.cell? ⟨B2, 6, none⟩ = some (.int .i64 0) := HX2.out.2 6 (by simp)
  have y7 : w26.cell? ⟨B2, 7, none⟩ = some (.int .i64 0) := HX2.out.2 7 (by simp)
  have y8 : w26.cell? ⟨B2, 8, none⟩ = some (.int .i64 0) := HX2.out.2 8 (by simp)
  have y9 : w26.cell? ⟨B2, 9, none⟩ = some (.int .i64 0) := HX2.out.2 9 (by simp)
  have y10 : w26.cell? ⟨B2, 10, none⟩ = some (.int .i64 0) := HX2.out.2 10 (by simp)
  have y11 : w26.cell? ⟨B2, 11, none⟩ = some (.int .i64 0) := HX2.out.2 11 (by simp)
  have y12 : w26.cell? ⟨B2, 12, none⟩ = some (.slice none 0 0) := HX2.out.2 12 (by simp)
  have y13 : w26.cell? ⟨B2, 13, none⟩ = some (.int .i64 e2) := HX2.out.2 13 (by simp)
  have yl := HX2.out.1
  go_wp2_with fail
  refine (HH.out _ HQ.out).mono ?_
  rintro e w27 ⟨rfl, hb27⟩
  replace HB := hid_intro (HB.out.trans (hb27.mono HB.out.size))
  replace HBW := hid_intro (HBW.out.trans (hb27.mono HBW.out.size))
  replace HX2 := hid_intro (HX2.out.below hb27)
  replace HQ := hid_intro (HQ.out.trans (hb27.mono HQ.out.size))
  clear hb27
  clear y0 y1 y2 y3 y4 y5 y6 y7 y8 y9 y10 y11 y12 y13 yl
  go_wp2_with fail
  go_ret
  exact ⟨rfl, HB.out⟩
theorem walk (c : Ca) (v : Value) (pa : Option Addr) (pc : Nat) (ns : List ByteArray) (w : World) (hI : IsCa v c w) (hin : c.In) (hT : IsTgs w pa ns) (hL : Laid w) :
    Calls Tryz.prog 3 #[v, .slice pa ns.length pc] w fun e w' => e = .returned (.bool true) ∧ Below w.heap.size w w' := by
  obtain ⟨ma, mc, ca, cc, rfl, hM, hR⟩ := hI
  obtain ⟨hml, hTg, hts⟩ := hT
  exact law_in (fun v w => IsCa v c w) (fun b v w => NewCa b v c w) Laid (fun ta w => Tgs ta ns w) (fun v W => EgR v (enA c ns) (enS c ns) (enC c ns) W) (fun b v W => EgO b v (enA c ns) (enS c ns) (enC c ns) W) ma c.ms.length mc ca c.cs.length cc pa ns.length pc c.Small (ns.length ≤ 1048576 ∧ ∀ t ∈ ns, t.size ≤ 1048576) (fun L => tszR ns L) w ⟨ma, mc, ca, cc, rfl, hM, hR⟩ hTg hL
    (fun v w w' h hb => h.below hb) (fun w w' h hb => h.below hb) (fun b v w w' h hb => h.below hb) (fun ta w w' h hb => h.below hb) (fun b v w h => h.is) (fun v W W' h hb => h.below hb) (fun b v W h => h.reads) (fun b v W W' h hk => h.kq hk)
    (fun b v W h => by
      obtain ⟨ma, mc, ca, cc, sa, sc, e, _⟩ := h.reads
      exact ⟨_, _, _, _, _, _, _, _, _, _, e⟩)
    (fun w h => szCa_any _ c w hin h) (fun L h0 h1 w h => szT_any pa pc ns L w hml h0 h1 h hts) (fun L hl h => tszR_small hl h)
    (fun hs v w h => (toCa_any v c w hs.1 h).mono fun e w' h2 => by
      obtain ⟨⟨v', he, hN⟩, hb⟩ := h2
      have hN2 := hN
      obtain ⟨g, bs, h, rfl, _, _, _, _, hp⟩ := hN
      exact ⟨⟨g, h, he, hN2, hp.lt⟩, hb⟩)
    (fun hs a c w h => toTs_any a c ns w hs.2.1 h)
    (fun hs a b ta k w h ht => by
      obtain ⟨ma, mc, ca, cc, e, h1, h2⟩ := h
      simp only [Value.agg.injEq, Array.mk.injEq, List.cons.injEq, Value.slice.injEq, and_true, true_and] at e
      obtain ⟨⟨rfl, rfl⟩, rfl, rfl⟩ := e
      exact (sengine _ ta _ b 0 _ k c ns w hs.1 h1 h2 hs.2.1 hs.2.2 ht).mono fun e w' h => h.eg)
    (fun hs a b ta k w hl h ht => by
      obtain ⟨ma, mc, ca, cc, e, h1, h2⟩ := h
      simp only [Value.agg.injEq, Array.mk.injEq, List.cons.injEq, Value.slice.injEq, and_true, true_and] at e
      obtain ⟨⟨rfl, rfl⟩, rfl, rfl⟩ := e
      exact (iengine _ _ ta _ _ k c ns w hs.1 h1 h2 hs.2.1 hs.2.2 ht hl).mono fun e w' h => h.eg)
    (fun hs v v' W h h' => eqEgo v v' _ _ _ W (en_small hs.1).1 (by have := (en_small (ns := ns) hs.1).2.2.2.2; omega) h h') (fun hs v v' w h h' => eqCa_any v v' c w hs.1 h h') (fun hs a a' k k' w h h' => eqTs_any a a' k k' ns w hs.2.1 h h')
    (fun hs base a b w top hN hb => (markCa base _ c w top hs.1 hN (fun hh x e => by
      simp only [Value.agg.injEq, Array.mk.injEq, List.cons.injEq, Value.slice.injEq, Option.some.injEq, Addr.mk.injEq, and_true] at e
      omega)).mono fun e w' h => ⟨h.choose, h.choose_spec.1, h.choose_spec.2.1, h.choose_spec.2.2.1, outs_chg h.choose_spec.2.2.2⟩)
    (fun hs g k K w h1 h2 hp => markTz g ns.length k K w hs.2.1 h1 h2 hp)
    (fun hs base v Wt W h hk => markEgo base v _ _ _ (en_small hs.1).2.1 (en_small hs.1).2.2.1 (en_small hs.1).2.2.2.1 (en_small (ns := ns) hs.1).2.2.2.2 Wt W h hk)
set_option maxRecDepth 100000 in
theorem lifted (os : Os) (started : os.Started) (H : Type) (enc : TypeId × Value → H) :
    ReturnsInHanded {} Tryz.checked os 3 .any (fun w args => (Rows.fnExactEngineNewSpec.pre enc Tryz.prog Tryz.f3 [] false w args ∧ laidMetH Tryz.prog Snm.laid w) ∧ sizedMet enc Tryz.prog Tryz.f3 (OpenSpec.ofChange Rows.fnExactEngineNewSpec) false w args)
      (Rows.fnExactEngineNewSpec.post enc Tryz.prog Tryz.f3 false true false false) := by
  refine returnsInHanded_of_change_and (C := Tryz.checked) (X := fun w _ => laidMetH Tryz.prog Snm.laid w) (fun _ _ _ hh h => h.of_heap hh) Snm.own started (by kernel_rfl) Tryz.func3
    (ChangeSpec.witness_shaped (enc := enc) (C := Tryz.checked) (os := os) (X := fun w _ => laidMetH Tryz.prog Snm.laid w) false (World.doorLaid Tryz.prog 400 os) #[.agg #[.slice none 0 0, .slice none 0 0], .slice none 0 0] 8 rfl (World.shaped_of_RefB (by kernel_rfl) (by kernel_rfl)) (by kernel_rfl) (by kernel_rfl) (by kernel_rfl) (Snm.door_met os _)) ?_
  intro W base args ds gs before hval0 hW _ _ hL _
  have hval : ∀ (j : Nat) t v, Tryz.f3.params[j]? = some t → args[j]? = some v → Value.okWide Tryz.prog W .any base t v := hval0
  have hW' := hW
  obtain ⟨p, q, hA0, hV0, rfl, hfz, hnd⟩ := hW
  have hA : DataW.TrodAll enc Tryz.prog W 0 (fun _ => true) true Tryz.f3.params.toList args.toList ds p := hA0
  have hV : DataW.TrodVars enc Tryz.prog W (fun _ => true) ["loop.example/g00562/impl.errNoMeter"] gs q := hV0
  rw [Tryz.params3] at hA hval
  obtain ⟨v0, v1, d0, d1, p0, p1, rfl, rfl, rfl, h0, h1⟩ := trodAll_two hA
  have k0 := h0
  have lt0 : ∀ x ∈ p0, x.block < W.heap.size := fun x hx => hW'.lt x (by simp [hx])
  obtain ⟨cs0, rfl, _⟩ := okWide_struct Tryz.underlying25 (hval 0 25 v0 rfl rfl)
  obtain ⟨fuel0, hf0⟩ := h0
  obtain ⟨ma0, ml0, mc0, ca0, cl0, cc0, hcs0, ⟨n0, y0, t0⟩, ⟨n0', y0', t0'⟩⟩ := CatR.ca_cells Tryz.underlying25 (by kernel_rfl) (by kernel_rfl) Tryz.underlying22 Tryz.underlying23 hf0
  obtain ⟨wl0, ms0, hml0, wi0, hM0⟩ := CatR.mes_open (tt := 0) Tryz.underlying22 Tryz.underlying77 (by kernel_rfl) (by kernel_rfl) Tryz.underlying9 Tryz.underlying2 Tryz.underlying4 Tryz.underlying2 Tryz.underlying2 Tryz.underlying75 Tryz.underlying138 (by kernel_rfl) (by kernel_rfl) Tryz.underlying2 Tryz.underlying2 t0
  obtain ⟨wl0', rs0, hcl0, wi0', hR0⟩ := CatR.crs_open Tryz.underlying23 Tryz.underlying80 (by kernel_rfl) (by kernel_rfl) Tryz.underlying9 Tryz.underlying2 t0'
  subst hml0 hcl0
  obtain rfl : cs0 = #[.slice ma0 ms0.length mc0, .slice ca0 rs0.length cc0] := by
    obtain ⟨l⟩ := cs0
    simp [Value.cells] at hcs0
    rw [hcs0]
  have k1 := h1
  have lt1 : ∀ x ∈ p1, x.block < W.heap.size := fun x hx => hW'.lt x (by simp [hx])
  obtain ⟨a1, len1, cap1, rfl⟩ := okWide_slice Tryz.underlying26 (hval 1 26 v1 rfl rfl)
  obtain ⟨z1, hz1, w1⟩ : ∃ es, es.length = len1 ∧ StxR.IsTgs W a1 es := by
    obtain ⟨fuel, hf⟩ := h1
    exact StxR.texts_open Tryz.underlying26 Tryz.underlying9 (by kernel_rfl) (by simpa [Value.cells] using hf)
  subst hz1
  obtain ⟨av, hv⟩ := Snm.of_laid hL
  have hl := Snm.laid_of hv
  obtain ⟨rfl, rfl⟩ := hV.unique (vars_read1 enc Snm.gv Snm.gt Tryz.underlying116 hv trivial _)
  refine (walk ⟨ms0, rs0⟩ _ a1 cap1 z1 W ⟨ma0, mc0, ca0, cc0, rfl, hM0, hR0⟩ ⟨wl0, wi0, wl0', wi0'⟩ w1 hl).mono fun e W' ⟨he, bel⟩ => ?_
  subst he
  exact ⟨_, rfl, _, _, _, _, _, _, hW', trodAll_mk1 (shut_bool Tryz.underlying4 true), trodAll_mk2 (Below.trod Snm.laidOut (by kernel_rfl) (of_decide_eq_true (by kernel_rfl)) k0 bel lt0) (Below.trod Snm.laidOut (by kernel_rfl) (of_decide_eq_true (by kernel_rfl)) k1 bel lt1), vars_read1 enc Snm.gv Snm.gt Tryz.underlying116 (Snm.var_below hl hv bel) trivial _, bel.frame _, fun h => by cases h⟩
theorem row_holds : Rows.FnExactEngineNewSaid :=
  OpenClaim.holds_of_wide 3 Tryz.f3 rfl rfl rfl rfl rfl rfl rfl ⟨rfl, rfl, rfl, rfl, rfl⟩ rfl rfl rfl rfl rfl (by kernel_rfl) Tryz.func3 (by kernel_rfl)
    (of_decide_eq_true (by kernel_rfl)) (by unfold Func.isWrapper; rw [if_neg (of_decide_eq_false (by kernel_rfl))]; exact ⟨rfl, rfl⟩)
    (fun os started H enc _ => lifted os started H enc)
theorem card_holds : Rows.FnExactEngineNewCardSaid :=
  Claim7.holds_tied_plain_at .later [] [.sentinel] true Rows.fnExactEngineNewCard.stood.harness true
    row_holds (fun _ h => by cases h) (by kernel_rfl) (fun _ h => by cases h) fnExactEngineNew_row_tie rfl ⟨rfl, rfl⟩ (by kernel_rfl) rfl
    (fun f fn hf hfn => by
      obtain rfl : f = 3 := Option.some.inj ((show Tryz.prog.funcNamed "loop.example/g00562/laws.FnExactEngineNew" = some 3 by kernel_rfl).symm.trans hf) |>.symm
      obtain rfl : fn = Tryz.f3 := (Option.some.inj (Tryz.func3.symm.trans hfn)).symm
      exact ⟨by kernel_rfl, fun j t ht => by
        rw [Tryz.params3] at ht
        have hm : t ∈ [25, 26] := by simpa using Array.mem_of_getElem? ht
        have hall : ([25, 26].all fun u => !Tryz.prog.wantsStandIn u) = true := by kernel_rfl
        exact (show Tryz.prog.wantsStandIn t = false by simpa using List.all_eq_true.1 hall t hm)⟩)
    (by kernel_rfl)

end EngineNewL
/-- THE STATEMENT: THE CARD -/
theorem fnExactEngineNew_holds : Rows.FnExactEngineNewCardSaid := EngineNewL.card_holds
#print axioms fnExactEngineNew_holds
end Go.Proofs.YtlhghjjgpdkekaaGreatDoor
