/-
  FnExactMeterRight: for every meter the law's call returns true (the program's MeterRight tells what the model's does, and writes into no meter), and the meter reads as it did. No condition.
-/
import Derived.Test.YtalapnklmngoeaaMeR
import Derived.Test.YtalapnklmngoeaaMeL2
import Derived.Test.YtalapnklmngoeaaCatIn
import Derived.Test.YtalapnklmngoeaaBlk
import Derived.Deep.RegionHeld3
namespace Go.Proofs.Ytalapnklmngoeaa
open Go.ChangeShapes Go.WideShapes Go.ChangeAt Go.RowKit
set_option linter.unusedVariables false
namespace MeterRightL
open CatR
/-- What is held through the last region. -/
def BX (w5 : World) (B1 B2 : Nat) (a0 a1 a2 a3 a4 a5 b0 b1 b2 b3 b4 b5 : Value) (W : World) : Prop := Below w5.heap.size w5 W ∧ B1 < W.heap.size ∧ B2 < W.heap.size ∧ W.cell? ⟨B1, 0, none⟩ = some (a0) ∧ W.cell? ⟨B1, 1, none⟩ = some (a1) ∧ W.cell? ⟨B1, 2, none⟩ = some (a2) ∧ W.cell? ⟨B1, 3, none⟩ = some (a3) ∧ W.cell? ⟨B1, 4, none⟩ = some (a4) ∧ W.cell? ⟨B1, 5, none⟩ = some (a5) ∧ W.cell? ⟨B2, 0, none⟩ = some (b0) ∧ W.cell? ⟨B2, 1, none⟩ = some (b1) ∧ W.cell? ⟨B2, 2, none⟩ = some (b2) ∧ W.cell? ⟨B2, 3, none⟩ = some (b3) ∧ W.cell? ⟨B2, 4, none⟩ = some (b4) ∧ W.cell? ⟨B2, 5, none⟩ = some (b5)
theorem BX.below {w5 : World} {B1 B2 : Nat} {a0 a1 a2 a3 a4 a5 b0 b1 b2 b3 b4 b5 : Value} {W W' : World} (h : BX w5 B1 B2 a0 a1 a2 a3 a4 a5 b0 b1 b2 b3 b4 b5 W) (hb : Below W.heap.size W W') : BX w5 B1 B2 a0 a1 a2 a3 a4 a5 b0 b1 b2 b3 b4 b5 W' := by
  obtain ⟨h0, l1, l2, p0, p1, p2, p3, p4, p5, p6, p7, p8, p9, p10, p11⟩ := h
  have f := fun o => hb.cell (p := ⟨B1, o, none⟩) l1
  have g := fun o => hb.cell (p := ⟨B2, o, none⟩) l2
  have hs := hb.size
  exact ⟨h0.trans (hb.mono h0.size), by omega, by omega, (f 0).trans p0, (f 1).trans p1, (f 2).trans p2, (f 3).trans p3, (f 4).trans p4, (f 5).trans p5, (g 0).trans p6, (g 1).trans p7, (g 2).trans p8, (g 3).trans p9, (g 4).trans p10, (g 5).trans p11⟩
theorem BX.drew {w5 : World} {B1 B2 : Nat} {a0 a1 a2 a3 a4 a5 b0 b1 b2 b3 b4 b5 : Value} {W : World} (h : BX w5 B1 B2 a0 a1 a2 a3 a4 a5 b0 b1 b2 b3 b4 b5 W) : BX w5 B1 B2 a0 a1 a2 a3 a4 a5 b0 b1 b2 b3 b4 b5 W.drew := ⟨h.1.drew, h.2⟩
set_option maxRecDepth 100000 in
set_option maxHeartbeats 4000000 in
theorem law_in (M : Value → World → Prop) (n : ByteArray) (g : Int) (wh : Bool) (f l : Int) (ta : Option Addr) (tl tc : Nat) (sz : Int) (r : Bool) (h0 : ¬ sz < 0) (w : World) (hI : M (.agg #[.string n, .int .i64 g, .bool wh, .int .i64 f, .int .i64 l, .slice ta tl tc]) w)
    (hk : ∀ v w w', M v w → Below w.heap.size w w' → M v w')
    (hZ : ∀ w, Calls Try.prog 4 #[.agg #[.string n, .int .i64 g, .bool wh, .int .i64 f, .int .i64 l, .slice ta tl tc], .int .i64 1048576] w fun e w' => e = .returned (.int .i64 sz) ∧ Below w.heap.size w w')
    (hT : ∀ v w, M v w → Calls Try.prog 6 #[v] w fun e w' => (∃ b, e = .returned (.agg #[.string n, .int .i64 g, .bool wh, .int .i64 f, .int .i64 l, .slice (some ⟨b, 0, none⟩) tl tl]) ∧ M (.agg #[.string n, .int .i64 g, .bool wh, .int .i64 f, .int .i64 l, .slice (some ⟨b, 0, none⟩) tl tl]) w') ∧ Below w.heap.size w w')
    (hS : ∀ v w, M v w → Calls Try.prog 5 #[v] w fun e w' => e = .returned (.bool r) ∧ Below w.heap.size w w')
    (hM : ∀ v w, M v w → Calls Try.prog 7 #[v] w fun e w' => e = .returned (.bool r) ∧ Below w.heap.size w w')
    (hE : ∀ v v' w, M v w → M v' w → Calls Try.prog 8 #[v, v'] w fun e w' => e = .returned (.bool true) ∧ Below w.heap.size w w') :
    Calls Try.prog 3 #[.agg #[.string n, .int .i64 g, .bool wh, .int .i64 f, .int .i64 l, .slice ta tl tc]] w fun e w' => e = .returned (.bool true) ∧ Below w.heap.size w w' := by
  have HI := hid_intro hI
  have HK := hid_intro hk
  have HZ := hid_intro hZ
  have HT := hid_intro hT
  have HS := hid_intro hS
  have HM := hid_intro hM
  have HE := hid_intro hE
  clear hI hk hZ hT hS hM hE
  have HA0 : Hid (Blk w.heap.size [.string n, .int .i64 g, .bool wh, .int .i64 f, .int .i64 l, .slice ta tl tc] (w.alloc (.cells #[.string n, .int .i64 g, .bool wh, .int .i64 f, .int .i64 l, .slice ta tl tc] 24))) := hid_intro (Blk.new w _ _)
  have HB0 : Hid (Below w.heap.size w (w.alloc (.cells #[.string n, .int .i64 g, .bool wh, .int .i64 f, .int .i64 l, .slice ta tl tc] 24))) := hid_intro ((Below.refl _ _).alloc (Nat.le_refl _) _)
  go_enter Try.func3, Try.ntmps3
  go_wp2_with fail
  refine (HZ.out _).mono ?_
  rintro e w1 ⟨rfl, hb1⟩
  have HA1 := hid_intro (HA0.out.below hb1)
  have HB1 := hid_intro (HB0.out.trans (hb1.mono HB0.out.size))
  have hl1 := HA1.out.1
  clear hb1
  have p0 : w1.cell? ⟨w.heap.size, 0, none⟩ = some (.string n) := HA1.out.2 0 (by simp)
  have p1 : w1.cell? ⟨w.heap.size, 1, none⟩ = some (.int .i64 g) := HA1.out.2 1 (by simp)
  have p2 : w1.cell? ⟨w.heap.size, 2, none⟩ = some (.bool wh) := HA1.out.2 2 (by simp)
  have p3 : w1.cell? ⟨w.heap.size, 3, none⟩ = some (.int .i64 f) := HA1.out.2 3 (by simp)
  have p4 : w1.cell? ⟨w.heap.size, 4, none⟩ = some (.int .i64 l) := HA1.out.2 4 (by simp)
  have p5 : w1.cell? ⟨w.heap.size, 5, none⟩ = some (.slice ta tl tc) := HA1.out.2 5 (by simp)
  go_wp2_with fail
  refine (HT.out _ _ (HK.out _ _ _ HI.out HB1.out)).mono ?_
  rintro e w2 ⟨⟨b2, rfl, hN⟩, hb2⟩
  have HA2 := hid_intro (HA1.out.below hb2)
  have HB2 := hid_intro (HB1.out.trans (hb2.mono HB1.out.size))
  have HN2 := hid_intro hN
  clear hb2 hN HA1 HB1 hl1
  clear p0 p1 p2 p3 p4 p5
  go_wp2_with fail
  refine (HS.out _ _ HN2.out).mono ?_
  rintro e w3 ⟨rfl, hb3⟩
  have HA3 := hid_intro (HA2.out.below hb3)
  have HB3 := hid_intro (HB2.out.trans (hb3.mono HB2.out.size))
  have hl3 := HA3.out.1
  clear hb3 HA2 HB2 HN2
  have q0 : w3.cell? ⟨w.heap.size, 0, none⟩ = some (.string n) := HA3.out.2 0 (by simp)
  have q1 : w3.cell? ⟨w.heap.size, 1, none⟩ = some (.int .i64 g) := HA3.out.2 1 (by simp)
  have q2 : w3.cell? ⟨w.heap.size, 2, none⟩ = some (.bool wh) := HA3.out.2 2 (by simp)
  have q3 : w3.cell? ⟨w.heap.size, 3, none⟩ = some (.int .i64 f) := HA3.out.2 3 (by simp)
  have q4 : w3.cell? ⟨w.heap.size, 4, none⟩ = some (.int .i64 l) := HA3.out.2 4 (by simp)
  have q5 : w3.cell? ⟨w.heap.size, 5, none⟩ = some (.slice ta tl tc) := HA3.out.2 5 (by simp)
  go_wp2_with fail
  refine (HT.out _ _ (HK.out _ _ _ HI.out HB3.out)).mono ?_
  rintro e w4 ⟨⟨bb, rfl, hN⟩, hb4⟩
  have HA4 := hid_intro ((HA3.out.below hb4).alloc (.cells #[.string n, .int .i64 g, .bool wh, .int .i64 f, .int .i64 l, .slice (some ⟨bb, 0, none⟩) tl tl] 29))
  have HB4' := hid_intro (HB3.out.trans (hb4.mono HB3.out.size))
  have HB4 := hid_intro (HB4'.out.alloc HB4'.out.size (.cells #[.string n, .int .i64 g, .bool wh, .int .i64 f, .int .i64 l, .slice (some ⟨bb, 0, none⟩) tl tl] 29))
  have HX4 : Hid (Blk w4.heap.size [.string n, .int .i64 g, .bool wh, .int .i64 f, .int .i64 l, .slice (some ⟨bb, 0, none⟩) tl tl] (w4.alloc (.cells #[.string n, .int .i64 g, .bool wh, .int .i64 f, .int .i64 l, .slice (some ⟨bb, 0, none⟩) tl tl] 29))) := hid_intro (Blk.new w4 _ _)
  have HN4 := hid_intro (HK.out _ _ _ hN ((Below.refl w4.heap.size w4).alloc (Nat.le_refl _) (.cells #[.string n, .int .i64 g, .bool wh, .int .i64 f, .int .i64 l, .slice (some ⟨bb, 0, none⟩) tl tl] 29)))
  clear hb4 hN HA3 HB3 hl3 HB4'
  clear q0 q1 q2 q3 q4 q5
  go_wp2_with fail
  refine (HM.out _ _ HN4.out).mono ?_
  rintro e w5 ⟨rfl, hb5⟩
  have HA5 := hid_intro (HA4.out.below hb5)
  have HX5 := hid_intro (HX4.out.below hb5)
  have HN5 := hid_intro (HK.out _ _ _ HN4.out hb5)
  have HB5 := hid_intro (HB4.out.trans (hb5.mono HB4.out.size))
  have hl5 := HA5.out.1
  have hm5 := HX5.out.1
  clear hb5 HA4 HX4 HN4 HB4
  have r0 : w5.cell? ⟨w.heap.size, 0, none⟩ = some (.string n) := HA5.out.2 0 (by simp)
  have r1 : w5.cell? ⟨w.heap.size, 1, none⟩ = some (.int .i64 g) := HA5.out.2 1 (by simp)
  have r2 : w5.cell? ⟨w.heap.size, 2, none⟩ = some (.bool wh) := HA5.out.2 2 (by simp)
  have r3 : w5.cell? ⟨w.heap.size, 3, none⟩ = some (.int .i64 f) := HA5.out.2 3 (by simp)
  have r4 : w5.cell? ⟨w.heap.size, 4, none⟩ = some (.int .i64 l) := HA5.out.2 4 (by simp)
  have r5 : w5.cell? ⟨w.heap.size, 5, none⟩ = some (.slice ta tl tc) := HA5.out.2 5 (by simp)
  have s0 : w5.cell? ⟨w4.heap.size, 0, none⟩ = some (.string n) := HX5.out.2 0 (by simp)
  have s1 : w5.cell? ⟨w4.heap.size, 1, none⟩ = some (.int .i64 g) := HX5.out.2 1 (by simp)
  have s2 : w5.cell? ⟨w4.heap.size, 2, none⟩ = some (.bool wh) := HX5.out.2 2 (by simp)
  have s3 : w5.cell? ⟨w4.heap.size, 3, none⟩ = some (.int .i64 f) := HX5.out.2 3 (by simp)
  have s4 : w5.cell? ⟨w4.heap.size, 4, none⟩ = some (.int .i64 l) := HX5.out.2 4 (by simp)
  have s5 : w5.cell? ⟨w4.heap.size, 5, none⟩ = some (.slice (some ⟨bb, 0, none⟩) tl tl) := HX5.out.2 5 (by simp)
  have HS0 : Hid (BX w5 w.heap.size w4.heap.size (.string n) (.int .i64 g) (.bool wh) (.int .i64 f) (.int .i64 l) (.slice ta tl tc) (.string n) (.int .i64 g) (.bool wh) (.int .i64 f) (.int .i64 l) (.slice (some ⟨bb, 0, none⟩) tl tl) w5) := hid_intro ⟨Below.refl _ _, hl5, hm5, r0, r1, r2, r3, r4, r5, s0, s1, s2, s3, s4, s5⟩
  have HS1 := hid_intro HS0.out.drew
  have HM5 : Hid (∀ W, Below w5.heap.size w5 W → Calls Try.prog 6 #[.agg #[.string n, .int .i64 g, .bool wh, .int .i64 f, .int .i64 l, .slice ta tl tc]] W fun e w' => (∃ b, e = .returned (.agg #[.string n, .int .i64 g, .bool wh, .int .i64 f, .int .i64 l, .slice (some ⟨b, 0, none⟩) tl tl]) ∧ M (.agg #[.string n, .int .i64 g, .bool wh, .int .i64 f, .int .i64 l, .slice (some ⟨b, 0, none⟩) tl tl]) w' ∧ M (.agg #[.string n, .int .i64 g, .bool wh, .int .i64 f, .int .i64 l, .slice (some ⟨bb, 0, none⟩) tl tl]) w') ∧ Below W.heap.size W w') := hid_intro (fun W hW => (HT.out _ _ (HK.out _ _ _ HI.out (HB5.out.trans (hW.mono HB5.out.size)))).mono fun e w' h => by
    obtain ⟨⟨b, he, h1⟩, hb⟩ := h
    exact ⟨⟨b, he, h1, HK.out _ _ _ HN5.out (hW.trans (hb.mono hW.size))⟩, hb⟩)
  clear HA5 HX5
  cases r
  all_goals (
    go_wp2_with fail
    go_region_held3 (fun W => Below w5.heap.size w5 W ∧ w.heap.size < W.heap.size ∧ w4.heap.size < W.heap.size ∧ W.cell? ⟨w.heap.size, 0, none⟩ = some (.string n) ∧ W.cell? ⟨w.heap.size, 1, none⟩ = some (.int .i64 g) ∧ W.cell? ⟨w.heap.size, 2, none⟩ = some (.bool wh) ∧ W.cell? ⟨w.heap.size, 3, none⟩ = some (.int .i64 f) ∧ W.cell? ⟨w.heap.size, 4, none⟩ = some (.int .i64 l) ∧ W.cell? ⟨w.heap.size, 5, none⟩ = some (.slice ta tl tc) ∧ W.cell? ⟨w4.heap.size, 0, none⟩ = some (.string n) ∧ W.cell? ⟨w4.heap.size, 1, none⟩ = some (.int .i64 g) ∧ W.cell? ⟨w4.heap.size, 2, none⟩ = some (.bool wh) ∧ W.cell? ⟨w4.heap.size, 3, none⟩ = some (.int .i64 f) ∧ W.cell? ⟨w4.heap.size, 4, none⟩ = some (.int .i64 l) ∧ W.cell? ⟨w4.heap.size, 5, none⟩ = some (.slice (some ⟨bb, 0, none⟩) tl tl)) (first | assumption | (exact HS0.out) | (exact HS1.out) | (exact BX.below (w5 := w5) (B1 := w.heap.size) (B2 := w4.heap.size) (by assumption) hb6) | (exact BX.below (w5 := w5) (B1 := w.heap.size) (B2 := w4.heap.size) (by assumption) hb7))
      (first | (go_at_call 6; refine (HM5.out _ (by first | exact (by assumption : BX w5 _ _ _ _ _ _ _ _ _ _ _ _ _ _ _).1 | exact HS0.out.1 | exact HS1.out.1)).mono ?_; rintro e w6 ⟨⟨b6, rfl, hN6, hN7⟩, hb6⟩) | (go_at_call 8; refine (HE.out _ _ _ hN7 hN6).mono ?_; rintro e w7 ⟨rfl, hb7⟩))
    rename_i hS
    have HBF := hid_intro (HB5.out.trans (hS.1.mono HB5.out.size))
    clear hS
    go_wp2_with fail
    go_ret
    exact ⟨rfl, HBF.out⟩)
theorem big (n : ByteArray) (g : Int) (wh : Bool) (f l : Int) (ta : Option Addr) (tl tc : Nat) (w : World)
    (hZ : ∀ w, Calls Try.prog 4 #[.agg #[.string n, .int .i64 g, .bool wh, .int .i64 f, .int .i64 l, .slice ta tl tc], .int .i64 1048576] w fun e w' => e = .returned (.int .i64 (-1)) ∧ Below w.heap.size w w') :
    Calls Try.prog 3 #[.agg #[.string n, .int .i64 g, .bool wh, .int .i64 f, .int .i64 l, .slice ta tl tc]] w fun e w' => e = .returned (.bool true) ∧ Below w.heap.size w w' := by
  have HZ := hid_intro hZ
  clear hZ
  go_enter Try.func3, Try.ntmps3
  go_wp2_with fail
  refine (HZ.out _).mono ?_
  rintro e w1 ⟨rfl, hb1⟩
  have HB1 := hid_intro (bel_alloc hb1)
  clear hb1
  go_wp2_with fail
  go_ret
  exact ⟨rfl, HB1.out⟩
theorem walk (m : Me) (v : Value) (w : World) (hI : IsMe v m w) (hin : m.n.size ≤ maxLen ∧ m.ts.length ≤ maxLen) :
    Calls Try.prog 3 #[v] w fun e w' => e = .returned (.bool true) ∧ Below w.heap.size w w' := by
  obtain ⟨ta, tc, rfl, hT⟩ := hI
  have hz := fun w => szMe_any _ m 1048576 w hin.1 hin.2 (by omega) (by omega) ⟨ta, tc, rfl⟩
  by_cases hs : szM m ≤ 1048576
  · have e : szM m = m.n.size + m.ts.length := rfl
    simp only [if_pos hs] at hz
    have hl : m.ts.length ≤ 1048576 := by omega
    have hn : m.n.size ≤ 1048576 := by omega
    exact law_in (fun v w => IsMe v m w) m.n m.g m.wh m.f m.l ta m.ts.length tc _ (mB m) (by omega) w ⟨ta, tc, rfl, hT⟩ (fun v w w' h hb => h.below hb) hz
      (fun v w h => (toMe_any v m w hl h).mono fun e w' h2 => by
        obtain ⟨⟨v', he, hN⟩, hb⟩ := h2
        have hN2 := hN.is
        obtain ⟨b, _, rfl, _, _⟩ := hN
        exact ⟨⟨b, he, hN2⟩, hb⟩)
      (fun v w h => spec_meter v m w hn hl h) (fun v w h => impl_meter v m w hn hl h) (fun v v' w h h' => eqMe_any v v' m w hl h h')
  · simp only [if_neg hs] at hz
    exact big m.n m.g m.wh m.f m.l ta m.ts.length tc w hz
theorem own : ownKnob Try.prog.godebug = none := by kernel_rfl
theorem laidOut : laidOutB Try.prog = true := by kernel_rfl
set_option maxRecDepth 100000 in
theorem lifted (os : Os) (started : os.Started) (H : Type) (enc : TypeId × Value → H) :
    ReturnsInHanded {} Try.checked os 3 .any (Rows.fnExactMeterRightSpec.pre6 enc Try.prog Try.f3 Rows.fnExactMeterRightRow.domain false) (Rows.fnExactMeterRightSpec.post enc Try.prog Try.f3 false true false false) := by
  refine returnsInHanded_of_change (C := Try.checked) own started (by kernel_rfl) Try.func3
    (ChangeSpec.witness6 (enc := enc) (C := Try.checked) false ⟨#[], #[.agg #[.string ByteArray.empty, .int .i64 0, .bool false, .int .i64 0, .int .i64 0, .slice none 0 0]], []⟩ 8 (by kernel_rfl) (by kernel_rfl) (by kernel_rfl) (by kernel_rfl)) ?_
  intro W base args ds gs before hval0 hW hcnd _
  have hval : ∀ (j : Nat) t v, Try.f3.params[j]? = some t → args[j]? = some v → Value.okWide Try.prog W .any base t v := hval0
  obtain ⟨p, q, hA0, hV, hb0, hfz, hnd⟩ := id hW
  have hA : DataW.TrodAll enc Try.prog W 0 (fun _ => true) true Try.f3.params.toList args.toList ds p := hA0
  rw [Try.params3] at hA hval
  obtain ⟨v0, d0, rfl, rfl, h0⟩ := trodAll_one hA
  obtain ⟨rfl, rfl⟩ := trodVars_none hV
  obtain rfl := hb0
  have hW' := hW
  simp only [List.append_nil] at hW'
  have k0 := h0
  have lt0 : ∀ x ∈ p, x.block < W.heap.size := fun x hx => hW'.lt x (by simp [hx])
  obtain ⟨cs0, rfl, _⟩ := okWide_struct Try.underlying24 (hval 0 24 v0 rfl rfl)
  obtain ⟨fuel0, hf0⟩ := h0
  obtain ⟨m0, ta0, tc0, hcs0, wn0, wl0, hT0⟩ := CatR.me_open (tt := 0) Try.underlying24 (by kernel_rfl) (by kernel_rfl) Try.underlying9 Try.underlying2 Try.underlying4 Try.underlying2 Try.underlying2 Try.underlying22 Try.underlying42 (by kernel_rfl) (by kernel_rfl) Try.underlying2 Try.underlying2 hf0
  obtain rfl : cs0 = #[.string m0.n, .int .i64 m0.g, .bool m0.wh, .int .i64 m0.f, .int .i64 m0.l, .slice ta0 m0.ts.length tc0] := by
    obtain ⟨l⟩ := cs0
    simp [Value.cells] at hcs0
    rw [hcs0]
  refine (walk m0 _ W ⟨ta0, tc0, rfl, hT0⟩ ⟨wn0, wl0⟩).mono fun e W' ⟨he, bel⟩ => ?_
  subst he
  exact ⟨_, rfl, _, _, _, _, _, _, hW', trodAll_mk1 (shut_bool Try.underlying4 true), trodAll_mk1 (Below.trod laidOut (by kernel_rfl) (of_decide_eq_true (by kernel_rfl)) k0 bel lt0), rfl, bel.frame _, fun h => by cases h⟩
theorem over : Rows.FnExactMeterRightSaid :=
  OpenClaim.holds_of_wide 3 Try.f3 rfl rfl rfl rfl rfl rfl rfl ⟨rfl, rfl, rfl, rfl, rfl⟩ rfl rfl rfl rfl rfl (by kernel_rfl) Try.func3 (by kernel_rfl)
    (of_decide_eq_true (by kernel_rfl)) (by unfold Func.isWrapper; rw [if_neg (of_decide_eq_false (by kernel_rfl))]; exact ⟨rfl, rfl⟩)
    (fun os started H enc _ => lifted os started H enc)

end MeterRightL
/-- THE STATEMENT -/
theorem fnExactMeterRight_holds : Rows.FnExactMeterRightSaid := MeterRightL.over
#print axioms fnExactMeterRight_holds
end Go.Proofs.Ytalapnklmngoeaa
