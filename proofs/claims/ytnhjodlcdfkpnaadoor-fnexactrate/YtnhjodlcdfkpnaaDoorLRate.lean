/-
  FnExactRate: for every meter and number the law's call returns true (the program's Rate hands back what the model's does, and writes into no meter), and the meter reads as it did. No condition.
-/
import Derived.Test.YtnhjodlcdfkpnaaDoorRtT
import Derived.Test.YtnhjodlcdfkpnaaDoorMeL2
import Derived.Test.YtnhjodlcdfkpnaaDoorCatIn
import Derived.Test.YtnhjodlcdfkpnaaDoorEq
import Derived.Test.YtnhjodlcdfkpnaaDoorSent
import Derived.Test.YtnhjodlcdfkpnaaDoorCards
import Derived.Deep.RegionHeld3
namespace Go.Proofs.YtnhjodlcdfkpnaaDoor
open Go.ChangeShapes Go.WideShapes Go.ChangeAt Go.RowKit
set_option linter.unusedVariables false
namespace RateL
open CatR
open FixR (Laid out eq_any)
/-- What is held through the last region. -/
def BX (w5 : World) (B1 B2 : Nat) (a0 a1 a2 a3 a4 a5 b0 b1 b2 b3 b4 b5 : Value) (W : World) : Prop := Below w5.heap.size w5 W ∧ B1 < W.heap.size ∧ B2 < W.heap.size ∧ W.cell? ⟨B1, 0, none⟩ = some (a0) ∧ W.cell? ⟨B1, 1, none⟩ = some (a1) ∧ W.cell? ⟨B1, 2, none⟩ = some (a2) ∧ W.cell? ⟨B1, 3, none⟩ = some (a3) ∧ W.cell? ⟨B1, 4, none⟩ = some (a4) ∧ W.cell? ⟨B1, 5, none⟩ = some (a5) ∧ W.cell? ⟨B2, 0, none⟩ = some (b0) ∧ W.cell? ⟨B2, 1, none⟩ = some (b1) ∧ W.cell? ⟨B2, 2, none⟩ = some (b2) ∧ W.cell? ⟨B2, 3, none⟩ = some (b3) ∧ W.cell? ⟨B2, 4, none⟩ = some (b4) ∧ W.cell? ⟨B2, 5, none⟩ = some (b5)
theorem BX.below {w5 : World} {B1 B2 : Nat} {a0 a1 a2 a3 a4 a5 b0 b1 b2 b3 b4 b5 : Value} {W W' : World} (h : BX w5 B1 B2 a0 a1 a2 a3 a4 a5 b0 b1 b2 b3 b4 b5 W) (hb : Below W.heap.size W W') : BX w5 B1 B2 a0 a1 a2 a3 a4 a5 b0 b1 b2 b3 b4 b5 W' := by
  obtain ⟨h0, l1, l2, p0, p1, p2, p3, p4, p5, p6, p7, p8, p9, p10, p11⟩ := h
  have f := fun o => hb.cell (p := ⟨B1, o, none⟩) l1
  have g := fun o => hb.cell (p := ⟨B2, o, none⟩) l2
  have hs := hb.size
  exact ⟨h0.trans (hb.mono h0.size), by omega, by omega, (f 0).trans p0, (f 1).trans p1, (f 2).trans p2, (f 3).trans p3, (f 4).trans p4, (f 5).trans p5, (g 0).trans p6, (g 1).trans p7, (g 2).trans p8, (g 3).trans p9, (g 4).trans p10, (g 5).trans p11⟩
theorem BX.drew {w5 : World} {B1 B2 : Nat} {a0 a1 a2 a3 a4 a5 b0 b1 b2 b3 b4 b5 : Value} {W : World} (h : BX w5 B1 B2 a0 a1 a2 a3 a4 a5 b0 b1 b2 b3 b4 b5 W) : BX w5 B1 B2 a0 a1 a2 a3 a4 a5 b0 b1 b2 b3 b4 b5 W.drew := ⟨h.1.drew, h.2⟩
set_option maxRecDepth 100000 in
set_option maxHeartbeats 4000000 in
theorem law_in (M : Value → World → Prop) (n : ByteArray) (g : Int) (wh : Bool) (f l : Int) (ta : Option Addr) (tl tc : Nat) (a0 sz A Cd : Int) (h0 : ¬ sz < 0) (w : World) (hL : Laid w) (hI : M (.agg #[.string n, .int .i64 g, .bool wh, .int .i64 f, .int .i64 l, .slice ta tl tc]) w)
    (hk : ∀ v w w', M v w → Below w.heap.size w w' → M v w')
    (hZ : ∀ w, Calls Tryd.prog 6 #[.agg #[.string n, .int .i64 g, .bool wh, .int .i64 f, .int .i64 l, .slice ta tl tc], .int .i64 1048576] w fun e w' => e = .returned (.int .i64 sz) ∧ Below w.heap.size w w')
    (hT : ∀ v w, M v w → Calls Tryd.prog 8 #[v] w fun e w' => (∃ b, e = .returned (.agg #[.string n, .int .i64 g, .bool wh, .int .i64 f, .int .i64 l, .slice (some ⟨b, 0, none⟩) tl tl]) ∧ M (.agg #[.string n, .int .i64 g, .bool wh, .int .i64 f, .int .i64 l, .slice (some ⟨b, 0, none⟩) tl tl]) w') ∧ Below w.heap.size w w')
    (hS : ∀ v w, M v w → Calls Tryd.prog 7 #[v, .int .i64 a0] w fun e w' => e = .returned (out A Cd) ∧ Below w.heap.size w w')
    (hM : ∀ v w, Laid w → M v w → Calls Tryd.prog 9 #[v, .int .i64 a0] w fun e w' => e = .returned (out A Cd) ∧ Below w.heap.size w w')
    (hE : ∀ v v' w, M v w → M v' w → Calls Tryd.prog 11 #[v, v'] w fun e w' => e = .returned (.bool true) ∧ Below w.heap.size w w') :
    Calls Tryd.prog 3 #[.agg #[.string n, .int .i64 g, .bool wh, .int .i64 f, .int .i64 l, .slice ta tl tc], .int .i64 a0] w fun e w' => e = .returned (.bool true) ∧ Below w.heap.size w w' := by
  have HI := hid_intro hI
  have HL := hid_intro hL
  have HK := hid_intro hk
  have HZ := hid_intro hZ
  have HT := hid_intro hT
  have HS := hid_intro hS
  have HM := hid_intro hM
  have HE := hid_intro hE
  have HQ := hid_intro (fun w => eq_any A Cd w)
  clear hI hk hZ hT hS hM hE hL
  unfold out at *
  have HA0 : Hid (Blk w.heap.size [.string n, .int .i64 g, .bool wh, .int .i64 f, .int .i64 l, .slice ta tl tc] (w.alloc (.cells #[.string n, .int .i64 g, .bool wh, .int .i64 f, .int .i64 l, .slice ta tl tc] 24))) := hid_intro (Blk.new w _ _)
  have HB0 : Hid (Below w.heap.size w (w.alloc (.cells #[.string n, .int .i64 g, .bool wh, .int .i64 f, .int .i64 l, .slice ta tl tc] 24))) := hid_intro ((Below.refl _ _).alloc (Nat.le_refl _) _)
  go_enter Tryd.func3, Tryd.ntmps3
  go_wp2_with fail
  refine (HZ.out _).mono ?_
  rintro e w1 ⟨rfl, hb1⟩
  have HA1 := hid_intro (HA0.out.below hb1)
  have HB1 := hid_intro (HB0.out.trans (hb1.mono HB0.out.size))
  have hl1 := HA1.out.1
  clear hb1
  have p0 : w1.cell? ⟨w.heap.size, 0, none⟩ = some (.string n) := HA1.out.2 0 (by simp)
  have p1 : w1.cell? ⟨w.heap.size, 1, none⟩ = some (.int .i64 g) := HA1.out.2 1 (by simp)
  have p2 : w1.cell? ⟨w.heap.size, 2, none⟩ = some (.bool wh) := HA1.out.2 2 (by simp)
  have p3 : w1.cell? ⟨w.heap.size, 3, none⟩ = some (.int .i64 f) := HA1.out.2 3 (by simp)
  have p4 : w1.cell? ⟨w.heap.size, 4, none⟩ = some (.int .i64 l) := HA1.out.2 4 (by simp)
  have p5 : w1.cell? ⟨w.heap.size, 5, none⟩ = some (.slice ta tl tc) := HA1.out.2 5 (by simp)
  go_wp2_with fail
  refine (HT.out _ _ (HK.out _ _ _ HI.out HB1.out)).mono ?_
  rintro e w2 ⟨⟨b2, rfl, hN⟩, hb2⟩
  have HA2 := hid_intro (HA1.out.below hb2)
  have HB2 := hid_intro (HB1.out.trans (hb2.mono HB1.out.size))
  have HN2 := hid_intro hN
  clear hb2 hN HA1 HB1 hl1
  clear p0 p1 p2 p3 p4 p5
  go_wp2_with fail
  refine (HS.out _ _ HN2.out).mono ?_
  rintro e w3 ⟨rfl, hb3⟩
  have HA3 := hid_intro ((HA2.out.below hb3).alloc (.cells #[.int .i64 A, .int .i64 0, .int .i64 Cd] 27))
  have HB3' := hid_intro (HB2.out.trans (hb3.mono HB2.out.size))
  have HB3 := hid_intro (HB3'.out.alloc HB3'.out.size (.cells #[.int .i64 A, .int .i64 0, .int .i64 Cd] 27))
  have HW3 : Hid (Blk w3.heap.size [.int .i64 A, .int .i64 0, .int .i64 Cd] (w3.alloc (.cells #[.int .i64 A, .int .i64 0, .int .i64 Cd] 27))) := hid_intro (Blk.new w3 _ _)
  have hl3 := HA3.out.1
  clear hb3 HA2 HB2 HN2 HB3'
  have q0 : (w3.alloc (.cells #[.int .i64 A, .int .i64 0, .int .i64 Cd] 27)).cell? ⟨w.heap.size, 0, none⟩ = some (.string n) := HA3.out.2 0 (by simp)
  have q1 : (w3.alloc (.cells #[.int .i64 A, .int .i64 0, .int .i64 Cd] 27)).cell? ⟨w.heap.size, 1, none⟩ = some (.int .i64 g) := HA3.out.2 1 (by simp)
  have q2 : (w3.alloc (.cells #[.int .i64 A, .int .i64 0, .int .i64 Cd] 27)).cell? ⟨w.heap.size, 2, none⟩ = some (.bool wh) := HA3.out.2 2 (by simp)
  have q3 : (w3.alloc (.cells #[.int .i64 A, .int .i64 0, .int .i64 Cd] 27)).cell? ⟨w.heap.size, 3, none⟩ = some (.int .i64 f) := HA3.out.2 3 (by simp)
  have q4 : (w3.alloc (.cells #[.int .i64 A, .int .i64 0, .int .i64 Cd] 27)).cell? ⟨w.heap.size, 4, none⟩ = some (.int .i64 l) := HA3.out.2 4 (by simp)
  have q5 : (w3.alloc (.cells #[.int .i64 A, .int .i64 0, .int .i64 Cd] 27)).cell? ⟨w.heap.size, 5, none⟩ = some (.slice ta tl tc) := HA3.out.2 5 (by simp)
  go_wp2_with fail
  refine (HT.out _ _ (HK.out _ _ _ HI.out HB3.out)).mono ?_
  rintro e w4 ⟨⟨bb, rfl, hN⟩, hb4⟩
  have HA4 := hid_intro ((HA3.out.below hb4).alloc (.cells #[.string n, .int .i64 g, .bool wh, .int .i64 f, .int .i64 l, .slice (some ⟨bb, 0, none⟩) tl tl] 31))
  have HW4 := hid_intro ((HW3.out.below hb4).alloc (.cells #[.string n, .int .i64 g, .bool wh, .int .i64 f, .int .i64 l, .slice (some ⟨bb, 0, none⟩) tl tl] 31))
  have HB4' := hid_intro (HB3.out.trans (hb4.mono HB3.out.size))
  have HB4 := hid_intro (HB4'.out.alloc HB4'.out.size (.cells #[.string n, .int .i64 g, .bool wh, .int .i64 f, .int .i64 l, .slice (some ⟨bb, 0, none⟩) tl tl] 31))
  have HX4 : Hid (Blk w4.heap.size [.string n, .int .i64 g, .bool wh, .int .i64 f, .int .i64 l, .slice (some ⟨bb, 0, none⟩) tl tl] (w4.alloc (.cells #[.string n, .int .i64 g, .bool wh, .int .i64 f, .int .i64 l, .slice (some ⟨bb, 0, none⟩) tl tl] 31))) := hid_intro (Blk.new w4 _ _)
  have HN4 := hid_intro (HK.out _ _ _ hN ((Below.refl w4.heap.size w4).alloc (Nat.le_refl _) (.cells #[.string n, .int .i64 g, .bool wh, .int .i64 f, .int .i64 l, .slice (some ⟨bb, 0, none⟩) tl tl] 31)))
  clear hb4 hN HA3 HB3 hl3 HB4' HW3
  clear q0 q1 q2 q3 q4 q5
  go_wp2_with fail
  refine (HM.out _ _ (HL.out.below HB4.out) HN4.out).mono ?_
  rintro e w5 ⟨rfl, hb5⟩
  have HA5 := hid_intro ((HA4.out.below hb5).alloc (.cells #[.int .i64 A, .int .i64 0, .int .i64 Cd] 27))
  have HW5 := hid_intro ((HW4.out.below hb5).alloc (.cells #[.int .i64 A, .int .i64 0, .int .i64 Cd] 27))
  have HX5 := hid_intro ((HX4.out.below hb5).alloc (.cells #[.int .i64 A, .int .i64 0, .int .i64 Cd] 27))
  have HN5 := hid_intro (HK.out _ _ _ (HK.out _ _ _ HN4.out hb5) ((Below.refl w5.heap.size w5).alloc (Nat.le_refl _) (.cells #[.int .i64 A, .int .i64 0, .int .i64 Cd] 27)))
  have HB5' := hid_intro (HB4.out.trans (hb5.mono HB4.out.size))
  have HB5 := hid_intro (HB5'.out.alloc HB5'.out.size (.cells #[.int .i64 A, .int .i64 0, .int .i64 Cd] 27))
  have v0 := HW5.out.2 0 (by simp)
  have v1 := HW5.out.2 1 (by simp)
  have v2 := HW5.out.2 2 (by simp)
  have hlw := HW5.out.1
  simp only [List.getElem?_cons_zero, List.getElem?_cons_succ] at v0 v1 v2
  clear hb5 HA4 HX4 HN4 HB4 HB5' HW4
  go_wp2_with fail
  refine (HQ.out _).mono ?_
  rintro e w6 ⟨rfl, hb6⟩
  have HA6 := hid_intro (HA5.out.below hb6)
  have HX6 := hid_intro (HX5.out.below hb6)
  have HN6 := hid_intro (HK.out _ _ _ HN5.out hb6)
  have HB6 := hid_intro (HB5.out.trans (hb6.mono HB5.out.size))
  have hl6 := HA6.out.1
  have hm6 := HX6.out.1
  clear hb6 HA5 HX5 HN5 HB5 HW5 v0 v1 v2 hlw
  have r0 : w6.cell? ⟨w.heap.size, 0, none⟩ = some (.string n) := HA6.out.2 0 (by simp)
  have r1 : w6.cell? ⟨w.heap.size, 1, none⟩ = some (.int .i64 g) := HA6.out.2 1 (by simp)
  have r2 : w6.cell? ⟨w.heap.size, 2, none⟩ = some (.bool wh) := HA6.out.2 2 (by simp)
  have r3 : w6.cell? ⟨w.heap.size, 3, none⟩ = some (.int .i64 f) := HA6.out.2 3 (by simp)
  have r4 : w6.cell? ⟨w.heap.size, 4, none⟩ = some (.int .i64 l) := HA6.out.2 4 (by simp)
  have r5 : w6.cell? ⟨w.heap.size, 5, none⟩ = some (.slice ta tl tc) := HA6.out.2 5 (by simp)
  have s0 : w6.cell? ⟨w4.heap.size, 0, none⟩ = some (.string n) := HX6.out.2 0 (by simp)
  have s1 : w6.cell? ⟨w4.heap.size, 1, none⟩ = some (.int .i64 g) := HX6.out.2 1 (by simp)
  have s2 : w6.cell? ⟨w4.heap.size, 2, none⟩ = some (.bool wh) := HX6.out.2 2 (by simp)
  have s3 : w6.cell? ⟨w4.heap.size, 3, none⟩ = some (.int .i64 f) := HX6.out.2 3 (by simp)
  have s4 : w6.cell? ⟨w4.heap.size, 4, none⟩ = some (.int .i64 l) := HX6.out.2 4 (by simp)
  have s5 : w6.cell? ⟨w4.heap.size, 5, none⟩ = some (.slice (some ⟨bb, 0, none⟩) tl tl) := HX6.out.2 5 (by simp)
  have HS0 : Hid (BX w6 w.heap.size w4.heap.size (.string n) (.int .i64 g) (.bool wh) (.int .i64 f) (.int .i64 l) (.slice ta tl tc) (.string n) (.int .i64 g) (.bool wh) (.int .i64 f) (.int .i64 l) (.slice (some ⟨bb, 0, none⟩) tl tl) w6) := hid_intro ⟨Below.refl _ _, hl6, hm6, r0, r1, r2, r3, r4, r5, s0, s1, s2, s3, s4, s5⟩
  have HS1 := hid_intro HS0.out.drew
  have HM6 : Hid (∀ W, Below w6.heap.size w6 W → Calls Tryd.prog 8 #[.agg #[.string n, .int .i64 g, .bool wh, .int .i64 f, .int .i64 l, .slice ta tl tc]] W fun e w' => (∃ b, e = .returned (.agg #[.string n, .int .i64 g, .bool wh, .int .i64 f, .int .i64 l, .slice (some ⟨b, 0, none⟩) tl tl]) ∧ M (.agg #[.string n, .int .i64 g, .bool wh, .int .i64 f, .int .i64 l, .slice (some ⟨b, 0, none⟩) tl tl]) w' ∧ M (.agg #[.string n, .int .i64 g, .bool wh, .int .i64 f, .int .i64 l, .slice (some ⟨bb, 0, none⟩) tl tl]) w') ∧ Below W.heap.size W w') := hid_intro (fun W hW => (HT.out _ _ (HK.out _ _ _ HI.out (HB6.out.trans (hW.mono HB6.out.size)))).mono fun e w' h => by
    obtain ⟨⟨b, he, h1⟩, hb⟩ := h
    exact ⟨⟨b, he, h1, HK.out _ _ _ HN6.out (hW.trans (hb.mono hW.size))⟩, hb⟩)
  clear HA6 HX6
  go_wp2_with fail
  go_region_held3 (fun W => Below w6.heap.size w6 W ∧ w.heap.size < W.heap.size ∧ w4.heap.size < W.heap.size ∧ W.cell? ⟨w.heap.size, 0, none⟩ = some (.string n) ∧ W.cell? ⟨w.heap.size, 1, none⟩ = some (.int .i64 g) ∧ W.cell? ⟨w.heap.size, 2, none⟩ = some (.bool wh) ∧ W.cell? ⟨w.heap.size, 3, none⟩ = some (.int .i64 f) ∧ W.cell? ⟨w.heap.size, 4, none⟩ = some (.int .i64 l) ∧ W.cell? ⟨w.heap.size, 5, none⟩ = some (.slice ta tl tc) ∧ W.cell? ⟨w4.heap.size, 0, none⟩ = some (.string n) ∧ W.cell? ⟨w4.heap.size, 1, none⟩ = some (.int .i64 g) ∧ W.cell? ⟨w4.heap.size, 2, none⟩ = some (.bool wh) ∧ W.cell? ⟨w4.heap.size, 3, none⟩ = some (.int .i64 f) ∧ W.cell? ⟨w4.heap.size, 4, none⟩ = some (.int .i64 l) ∧ W.cell? ⟨w4.heap.size, 5, none⟩ = some (.slice (some ⟨bb, 0, none⟩) tl tl)) (first | assumption | (exact HS0.out) | (exact HS1.out) | (exact BX.below (w5 := w6) (B1 := w.heap.size) (B2 := w4.heap.size) (by assumption) hb6) | (exact BX.below (w5 := w6) (B1 := w.heap.size) (B2 := w4.heap.size) (by assumption) hb7))
    (first | (go_at_call 8; refine (HM6.out _ (by first | exact (by assumption : BX w6 _ _ _ _ _ _ _ _ _ _ _ _ _ _ _).1 | exact HS0.out.1 | exact HS1.out.1)).mono ?_; rintro e w7 ⟨⟨b6, rfl, hN6, hN7⟩, hb6⟩) | (go_at_call 11; refine (HE.out _ _ _ hN7 hN6).mono ?_; rintro e w8 ⟨rfl, hb7⟩))
  rename_i hS
  have HBF := hid_intro (HB6.out.trans (hS.1.mono HB6.out.size))
  clear hS
  go_wp2_with fail
  go_ret
  exact ⟨rfl, HBF.out⟩
theorem big (n : ByteArray) (g : Int) (wh : Bool) (f l : Int) (ta : Option Addr) (tl tc : Nat) (a0 : Int) (w : World)
    (hZ : ∀ w, Calls Tryd.prog 6 #[.agg #[.string n, .int .i64 g, .bool wh, .int .i64 f, .int .i64 l, .slice ta tl tc], .int .i64 1048576] w fun e w' => e = .returned (.int .i64 (-1)) ∧ Below w.heap.size w w') :
    Calls Tryd.prog 3 #[.agg #[.string n, .int .i64 g, .bool wh, .int .i64 f, .int .i64 l, .slice ta tl tc], .int .i64 a0] w fun e w' => e = .returned (.bool true) ∧ Below w.heap.size w w' := by
  have HZ := hid_intro hZ
  clear hZ
  go_enter Tryd.func3, Tryd.ntmps3
  go_wp2_with fail
  refine (HZ.out _).mono ?_
  rintro e w1 ⟨rfl, hb1⟩
  have HB1 := hid_intro (bel_alloc hb1)
  clear hb1
  go_wp2_with fail
  go_ret
  exact ⟨rfl, HB1.out⟩
theorem walk (m : Me) (v : Value) (a0 : Int) (w : World) (hI : IsMe v m w) (hin : m.n.size ≤ maxLen ∧ m.ts.length ≤ maxLen) (hL : Laid w) :
    Calls Tryd.prog 3 #[v, .int .i64 a0] w fun e w' => e = .returned (.bool true) ∧ Below w.heap.size w w' := by
  obtain ⟨ta, tc, rfl, hT⟩ := hI
  have hz := fun w => szMe_any _ m 1048576 w hin.1 hin.2 (by omega) (by omega) ⟨ta, tc, rfl⟩
  by_cases hs : szM m ≤ 1048576
  · have e : szM m = m.n.size + m.ts.length := rfl
    simp only [if_pos hs] at hz
    have hl : m.ts.length ≤ 1048576 := by omega
    have hn : m.n.size ≤ 1048576 := by omega
    exact law_in (fun v w => IsMe v m w) m.n m.g m.wh m.f m.l ta m.ts.length tc a0 _ (rateO m a0).1 (rateO m a0).2 (by omega) w hL ⟨ta, tc, rfl, hT⟩ (fun v w w' h hb => h.below hb) hz
      (fun v w h => (toMe_any v m w hl h).mono fun e w' h2 => by
        obtain ⟨⟨v', he, hN⟩, hb⟩ := h2
        have hN2 := hN.is
        obtain ⟨b, _, rfl, _, _⟩ := hN
        exact ⟨⟨b, he, hN2⟩, hb⟩)
      (fun v w h => spec_Rate v m a0 w hn hl h) (fun v w hL h => impl_Rate v m a0 w hL hn hl h) (fun v v' w h h' => eqMe_any v v' m w hl h h')
  · simp only [if_neg hs] at hz
    exact big m.n m.g m.wh m.f m.l ta m.ts.length tc a0 w hz
set_option maxRecDepth 100000 in
theorem lifted (os : Os) (started : os.Started) (H : Type) (enc : TypeId × Value → H) :
    ReturnsInHanded {} Tryd.checked os 3 .any (fun w args => (Rows.fnExactRateSpec.pre enc Tryd.prog Tryd.f3 [] false w args ∧ laidMetH Tryd.prog Snt.laid w) ∧ sizedMet enc Tryd.prog Tryd.f3 (OpenSpec.ofChange Rows.fnExactRateSpec) false w args)
      (Rows.fnExactRateSpec.post enc Tryd.prog Tryd.f3 false true false false) := by
  refine returnsInHanded_of_change_and (C := Tryd.checked) (X := fun w _ => laidMetH Tryd.prog Snt.laid w) (fun _ _ _ hh h => h.of_heap hh) Snt.own started (by kernel_rfl) Tryd.func3
    (ChangeSpec.witness_shaped (enc := enc) (C := Tryd.checked) (os := os) (X := fun w _ => laidMetH Tryd.prog Snt.laid w) false (World.doorLaid Tryd.prog 400 os) #[.agg #[.string ByteArray.empty, .int .i64 0, .bool false, .int .i64 0, .int .i64 0, .slice none 0 0], .int .i64 0] 8 rfl (World.shaped_of_RefB (by kernel_rfl) (by kernel_rfl)) (by kernel_rfl) (by kernel_rfl) (by kernel_rfl) (Snt.door_met os _)) ?_
  intro W base args ds gs before hval0 hW _ _ hL _
  have hval : ∀ (j : Nat) t v, Tryd.f3.params[j]? = some t → args[j]? = some v → Value.okWide Tryd.prog W .any base t v := hval0
  have hW' := hW
  obtain ⟨p, q, hA0, hV0, rfl, hfz, hnd⟩ := hW
  have hA : DataW.TrodAll enc Tryd.prog W 0 (fun _ => true) true Tryd.f3.params.toList args.toList ds p := hA0
  have hV : DataW.TrodVars enc Tryd.prog W (fun _ => true) ["loop.example/g00562/impl.errRunsOver"] gs q := hV0
  rw [Tryd.params3] at hA hval
  obtain ⟨v0, v1, d0, d1, p0, p1, rfl, rfl, rfl, h0, h1⟩ := trodAll_two hA
  have k0 := h0
  have lt0 : ∀ x ∈ p0, x.block < W.heap.size := fun x hx => hW'.lt x (by simp [hx])
  obtain ⟨cs0, rfl, _⟩ := okWide_struct Tryd.underlying24 (hval 0 24 v0 rfl rfl)
  obtain ⟨fuel0, hf0⟩ := h0
  obtain ⟨m0, ta0, tc0, hcs0, wn0, wl0, hT0⟩ := CatR.me_open (tt := 0) Tryd.underlying24 (by kernel_rfl) (by kernel_rfl) Tryd.underlying9 Tryd.underlying2 Tryd.underlying4 Tryd.underlying2 Tryd.underlying2 Tryd.underlying22 Tryd.underlying64 (by kernel_rfl) (by kernel_rfl) Tryd.underlying2 Tryd.underlying2 hf0
  obtain rfl : cs0 = #[.string m0.n, .int .i64 m0.g, .bool m0.wh, .int .i64 m0.f, .int .i64 m0.l, .slice ta0 m0.ts.length tc0] := by
    obtain ⟨l⟩ := cs0
    simp [Value.cells] at hcs0
    rw [hcs0]
  have k1 := h1
  have lt1 : ∀ x ∈ p1, x.block < W.heap.size := fun x hx => hW'.lt x (by simp [hx])
  obtain ⟨a1, rfl, rfl, rfl, w1⟩ := open_int Tryd.underlying2 (hval 1 2 v1 rfl rfl) h1
  obtain ⟨av, hv⟩ := Snt.of_laid hL
  have hl := Snt.laid_of hv
  obtain ⟨rfl, rfl⟩ := hV.unique (vars_read1 enc Snt.gv Snt.gt Tryd.underlying82 hv trivial _)
  refine (walk m0 _ a1 W ⟨ta0, tc0, rfl, hT0⟩ ⟨wn0, wl0⟩ hl).mono fun e W' ⟨he, bel⟩ => ?_
  subst he
  exact ⟨_, rfl, _, _, _, _, _, _, hW', trodAll_mk1 (shut_bool Tryd.underlying4 true), trodAll_mk2 (Below.trod Snt.laidOut (by kernel_rfl) (of_decide_eq_true (by kernel_rfl)) k0 bel lt0) (Below.trod Snt.laidOut (by kernel_rfl) (of_decide_eq_true (by kernel_rfl)) k1 bel lt1), vars_read1 enc Snt.gv Snt.gt Tryd.underlying82 (Snt.var_below hl hv bel) trivial _, bel.frame _, fun h => by cases h⟩
theorem row_holds : Rows.FnExactRateSaid :=
  OpenClaim.holds_of_wide 3 Tryd.f3 rfl rfl rfl rfl rfl rfl rfl ⟨rfl, rfl, rfl, rfl, rfl⟩ rfl rfl rfl rfl rfl (by kernel_rfl) Tryd.func3 (by kernel_rfl)
    (of_decide_eq_true (by kernel_rfl)) (by unfold Func.isWrapper; rw [if_neg (of_decide_eq_false (by kernel_rfl))]; exact ⟨rfl, rfl⟩)
    (fun os started H enc _ => lifted os started H enc)
theorem card_holds : Rows.FnExactRateCardSaid :=
  Claim7.holds_tied_plain_at .later [] [.sentinel] true Rows.fnExactRateCard.stood.harness false
    row_holds (fun _ h => by cases h) (by kernel_rfl) (fun _ h => by cases h) fnExactRate_row_tie rfl ⟨rfl, rfl⟩ (by kernel_rfl) rfl
    (fun f fn hf hfn => by
      obtain rfl : f = 3 := Option.some.inj ((show Tryd.prog.funcNamed "loop.example/g00562/laws.FnExactRate" = some 3 by kernel_rfl).symm.trans hf) |>.symm
      obtain rfl : fn = Tryd.f3 := (Option.some.inj (Tryd.func3.symm.trans hfn)).symm
      exact ⟨by kernel_rfl, fun j t ht => by
        rw [Tryd.params3] at ht
        have hm : t ∈ [24, 2] := by simpa using Array.mem_of_getElem? ht
        have hall : ([24, 2].all fun u => !Tryd.prog.wantsStandIn u) = true := by kernel_rfl
        exact (show Tryd.prog.wantsStandIn t = false by simpa using List.all_eq_true.1 hall t hm)⟩)
    (by kernel_rfl)

end RateL
/-- THE STATEMENT -/
theorem fnExactRate_holds : Rows.FnExactRateCardSaid := RateL.card_holds
#print axioms fnExactRate_holds
end Go.Proofs.YtnhjodlcdfkpnaaDoor
