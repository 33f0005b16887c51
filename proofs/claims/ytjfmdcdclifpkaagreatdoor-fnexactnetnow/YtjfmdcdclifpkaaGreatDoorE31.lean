/-
  What the program calls a right window. The conditions: texts of at most 1048576 bytes, lists of at most 1048576; the program's table stands in its variable.
  impl.EngineRight. The conditions: sizes of at most 1048576; the program's variables hold what its text lays.
-/
import Derived.Test.YtjfmdcdclifpkaaGreatDoorE30
namespace Go.Proofs.YtjfmdcdclifpkaaGreatDoor
open Go.ChangeShapes Go.WideShapes Go.ChangeAt Go.RowKit
set_option linter.unusedVariables false
namespace WinR
open RowG LtR
open CatR (Blk Blk.new)
open DateR (Laid)
theorem counted_su {ev su mx : Int} (h : countedB ev su mx = true) : (1 ≤ ev ∧ ev ≤ 1000) ∧ (0 ≤ su ∧ su ≤ 1000000000000) ∧ 0 ≤ mx ∧ mx ≤ su := by
  unfold countedB at h
  simp only [Bool.and_eq_true, decide_eq_true_eq] at h
  exact h
set_option maxRecDepth 100000 in
set_option maxHeartbeats 8000000 in
theorem right_in (a m : ByteArray) (mo ev su mx : Int) (ta : Option Addr) (tl tc : Nat) (ha : Option Addr) (hl hc : Nat) (b1 b2 b3 b4 : Bool) (w : World)
    (h1 : ∀ W, Calls Tryz.prog 216 #[.agg #[.string a, .string m, .int .i64 mo]] W fun e w' => e = .returned (.bool b1) ∧ Below W.heap.size W w')
    (h2 : ∀ W, Calls Tryz.prog 217 #[.agg #[.int .i64 ev, .int .i64 su, .int .i64 mx]] W fun e w' => e = .returned (.bool b2) ∧ Below W.heap.size W w')
    (h3 : ∀ W, Below w.heap.size w W → Calls Tryz.prog 218 #[.agg #[.string a, .string m, .int .i64 mo, .int .i64 ev, .int .i64 su, .int .i64 mx, .slice ta tl tc, .func (.func 227) #[] #[], .func (.func 228) #[] #[], .slice ha hl hc, .func (.func 229) #[] #[], .func (.func 230) #[] #[]]] W fun e w' => e = .returned (.bool b3) ∧ Below W.heap.size W w')
    (h4 : b2 = true → ∀ W, Below w.heap.size w W → Calls Tryz.prog 219 #[.agg #[.string a, .string m, .int .i64 mo, .int .i64 ev, .int .i64 su, .int .i64 mx, .slice ta tl tc, .func (.func 227) #[] #[], .func (.func 228) #[] #[], .slice ha hl hc, .func (.func 229) #[] #[], .func (.func 230) #[] #[]]] W fun e w' => e = .returned (.bool b4) ∧ Below W.heap.size W w') :
    Calls Tryz.prog 186 #[.agg #[.string a, .string m, .int .i64 mo, .int .i64 ev, .int .i64 su, .int .i64 mx, .slice ta tl tc, .func (.func 227) #[] #[], .func (.func 228) #[] #[], .slice ha hl hc, .func (.func 229) #[] #[], .func (.func 230) #[] #[]]] w fun e w' => e = .returned (.bool (b1 && (b2 && (b3 && b4)))) ∧ Below w.heap.size w w' := by
  have H1 := hid_intro h1
  have H2 := hid_intro h2
  have H3 := hid_intro h3
  have H4 := hid_intro h4
  clear h1 h2 h3 h4
  have HB0 : Hid (Below w.heap.size w (w.alloc (.cells #[.string a, .string m, .int .i64 mo, .int .i64 ev, .int .i64 su, .int .i64 mx, .slice ta tl tc, .func (.func 227) #[] #[], .func (.func 228) #[] #[], .slice ha hl hc, .func (.func 229) #[] #[], .func (.func 230) #[] #[]] 227))) := hid_intro ((Below.refl _ _).alloc (Nat.le_refl _) _)
  have HX0 := hid_intro (Blk.new w [.string a, .string m, .int .i64 mo, .int .i64 ev, .int .i64 su, .int .i64 mx, .slice ta tl tc, .func (.func 227) #[] #[], .func (.func 228) #[] #[], .slice ha hl hc, .func (.func 229) #[] #[], .func (.func 230) #[] #[]] 227)
  rcases four b1 b2 b3 b4 with rfl | ⟨rfl, rfl⟩ | ⟨rfl, rfl, rfl⟩ | ⟨rfl, rfl, rfl, rfl⟩ | ⟨rfl, rfl, rfl, rfl⟩
  · go_enter Tryz.func186, Tryz.ntmps186
    go_wp2_with fail
    refine (H1.out _).mono ?_
    rintro e w1 ⟨rfl, hb1⟩
    have HB1 := hid_intro (HB0.out.trans (hb1.mono HB0.out.size))
    have HX1 := hid_intro (HX0.out.below hb1)
    clear hb1
    go_wp2_with fail
    go_ret
    exact ⟨rfl, HB1.out⟩
  · go_enter Tryz.func186, Tryz.ntmps186
    go_wp2_with fail
    refine (H1.out _).mono ?_
    rintro e w1 ⟨rfl, hb1⟩
    have HB1 := hid_intro (HB0.out.trans (hb1.mono HB0.out.size))
    have HX1 := hid_intro (HX0.out.below hb1)
    clear hb1
    obtain ⟨xl, xc⟩ := HX1.out
    have y0 : w1.cell? ⟨w.heap.size, 0, none⟩ = some (.string a) := xc 0 (by simp)
    have y1 : w1.cell? ⟨w.heap.size, 1, none⟩ = some (.string m) := xc 1 (by simp)
    have y2 : w1.cell? ⟨w.heap.size, 2, none⟩ = some (.int .i64 mo) := xc 2 (by simp)
    have y3 : w1.cell? ⟨w.heap.size, 3, none⟩ = some (.int .i64 ev) := xc 3 (by simp)
    have y4 : w1.cell? ⟨w.heap.size, 4, none⟩ = some (.int .i64 su) := xc 4 (by simp)
    have y5 : w1.cell? ⟨w.heap.size, 5, none⟩ = some (.int .i64 mx) := xc 5 (by simp)
    have y6 : w1.cell? ⟨w.heap.size, 6, none⟩ = some (.slice ta tl tc) := xc 6 (by simp)
    have y7 : w1.cell? ⟨w.heap.size, 7, none⟩ = some (.func (.func 227) #[] #[]) := xc 7 (by simp)
    have y8 : w1.cell? ⟨w.heap.size, 8, none⟩ = some (.func (.func 228) #[] #[]) := xc 8 (by simp)
    have y9 : w1.cell? ⟨w.heap.size, 9, none⟩ = some (.slice ha hl hc) := xc 9 (by simp)
    have y10 : w1.cell? ⟨w.heap.size, 10, none⟩ = some (.func (.func 229) #[] #[]) := xc 10 (by simp)
    have y11 : w1.cell? ⟨w.heap.size, 11, none⟩ = some (.func (.func 230) #[] #[]) := xc 11 (by simp)
    clear xc
    go_wp2_with fail
    refine (H2.out _).mono ?_
    rintro e w2 ⟨rfl, hb2⟩
    have HB2 := hid_intro (HB1.out.trans (hb2.mono HB1.out.size))
    have HX2 := hid_intro (HX1.out.below hb2)
    clear hb2
    go_wp2_with fail
    go_ret
    exact ⟨rfl, HB2.out⟩
  · go_enter Tryz.func186, Tryz.ntmps186
    go_wp2_with fail
    refine (H1.out _).mono ?_
    rintro e w1 ⟨rfl, hb1⟩
    have HB1 := hid_intro (HB0.out.trans (hb1.mono HB0.out.size))
    have HX1 := hid_intro (HX0.out.below hb1)
    clear hb1
    obtain ⟨xl, xc⟩ := HX1.out
    have y0 : w1.cell? ⟨w.heap.size, 0, none⟩ = some (.string a) := xc 0 (by simp)
    have y1 : w1.cell? ⟨w.heap.size, 1, none⟩ = some (.string m) := xc 1 (by simp)
    have y2 : w1.cell? ⟨w.heap.size, 2, none⟩ = some (.int .i64 mo) := xc 2 (by simp)
    have y3 : w1.cell? ⟨w.heap.size, 3, none⟩ = some (.int .i64 ev) := xc 3 (by simp)
    have y4 : w1.cell? ⟨w.heap.size, 4, none⟩ = some (.int .i64 su) := xc 4 (by simp)
    have y5 : w1.cell? ⟨w.heap.size, 5, none⟩ = some (.int .i64 mx) := xc 5 (by simp)
    have y6 : w1.cell? ⟨w.heap.size, 6, none⟩ = some (.slice ta tl tc) := xc 6 (by simp)
    have y7 : w1.cell? ⟨w.heap.size, 7, none⟩ = some (.func (.func 227) #[] #[]) := xc 7 (by simp)
    have y8 : w1.cell? ⟨w.heap.size, 8, none⟩ = some (.func (.func 228) #[] #[]) := xc 8 (by simp)
    have y9 : w1.cell? ⟨w.heap.size, 9, none⟩ = some (.slice ha hl hc) := xc 9 (by simp)
    have y10 : w1.cell? ⟨w.heap.size, 10, none⟩ = some (.func (.func 229) #[] #[]) := xc 10 (by simp)
    have y11 : w1.cell? ⟨w.heap.size, 11, none⟩ = some (.func (.func 230) #[] #[]) := xc 11 (by simp)
    clear xc
    go_wp2_with fail
    refine (H2.out _).mono ?_
    rintro e w2 ⟨rfl, hb2⟩
    have HB2 := hid_intro (HB1.out.trans (hb2.mono HB1.out.size))
    have HX2 := hid_intro (HX1.out.below hb2)
    clear hb2
    clear y0 y1 y2 y3 y4 y5 y6 y7 y8 y9 y10 y11
    obtain ⟨xl, xc⟩ := HX2.out
    have y0 : w2.cell? ⟨w.heap.size, 0, none⟩ = some (.string a) := xc 0 (by simp)
    have y1 : w2.cell? ⟨w.heap.size, 1, none⟩ = some (.string m) := xc 1 (by simp)
    have y2 : w2.cell? ⟨w.heap.size, 2, none⟩ = some (.int .i64 mo) := xc 2 (by simp)
    have y3 : w2.cell? ⟨w.heap.size, 3, none⟩ = some (.int .i64 ev) := xc 3 (by simp)
    have y4 : w2.cell? ⟨w.heap.size, 4, none⟩ = some (.int .i64 su) := xc 4 (by simp)
    have y5 : w2.cell? ⟨w.heap.size, 5, none⟩ = some (.int .i64 mx) := xc 5 (by simp)
    have y6 : w2.cell? ⟨w.heap.size, 6, none⟩ = some (.slice ta tl tc) := xc 6 (by simp)
    have y7 : w2.cell? ⟨w.heap.size, 7, none⟩ = some (.func (.func 227) #[] #[]) := xc 7 (by simp)
    have y8 : w2.cell? ⟨w.heap.size, 8, none⟩ = some (.func (.func 228) #[] #[]) := xc 8 (by simp)
    have y9 : w2.cell? ⟨w.heap.size, 9, none⟩ = some (.slice ha hl hc) := xc 9 (by simp)
    have y10 : w2.cell? ⟨w.heap.size, 10, none⟩ = some (.func (.func 229) #[] #[]) := xc 10 (by simp)
    have y11 : w2.cell? ⟨w.heap.size, 11, none⟩ = some (.func (.func 230) #[] #[]) := xc 11 (by simp)
    clear xc
    go_wp2_with fail
    refine (H3.out _ HB2.out).mono ?_
    rintro e w3 ⟨rfl, hb3⟩
    have HB3 := hid_intro (HB2.out.trans (hb3.mono HB2.out.size))
    have HX3 := hid_intro (HX2.out.below hb3)
    clear hb3
    go_wp2_with fail
    go_ret
    exact ⟨rfl, HB3.out⟩
  · go_enter Tryz.func186, Tryz.ntmps186
    go_wp2_with fail
    refine (H1.out _).mono ?_
    rintro e w1 ⟨rfl, hb1⟩
    have HB1 := hid_intro (HB0.out.trans (hb1.mono HB0.out.size))
    have HX1 := hid_intro (HX0.out.below hb1)
    clear hb1
    obtain ⟨xl, xc⟩ := HX1.out
    have y0 : w1.cell? ⟨w.heap.size, 0, none⟩ = some (.string a) := xc 0 (by simp)
    have y1 : w1.cell? ⟨w.heap.size, 1, none⟩ = some (.string m) := xc 1 (by simp)
    have y2 : w1.cell? ⟨w.heap.size, 2, none⟩ = some (.int .i64 mo) := xc 2 (by simp)
    have y3 : w1.cell? ⟨w.heap.size, 3, none⟩ = some (.int .i64 ev) := xc 3 (by simp)
    have y4 : w1.cell? ⟨w.heap.size, 4, none⟩ = some (.int .i64 su) := xc 4 (by simp)
    have y5 : w1.cell? ⟨w.heap.size, 5, none⟩ = some (.int .i64 mx) := xc 5 (by simp)
    have y6 : w1.cell? ⟨w.heap.size, 6, none⟩ = some (.slice ta tl tc) := xc 6 (by simp)
    have y7 : w1.cell? ⟨w.heap.size, 7, none⟩ = some (.func (.func 227) #[] #[]) := xc 7 (by simp)
    have y8 : w1.cell? ⟨w.heap.size, 8, none⟩ = some (.func (.func 228) #[] #[]) := xc 8 (by simp)
    have y9 : w1.cell? ⟨w.heap.size, 9, none⟩ = some (.slice ha hl hc) := xc 9 (by simp)
    have y10 : w1.cell? ⟨w.heap.size, 10, none⟩ = some (.func (.func 229) #[] #[]) := xc 10 (by simp)
    have y11 : w1.cell? ⟨w.heap.size, 11, none⟩ = some (.func (.func 230) #[] #[]) := xc 11 (by simp)
    clear xc
    go_wp2_with fail
    refine (H2.out _).mono ?_
    rintro e w2 ⟨rfl, hb2⟩
    have HB2 := hid_intro (HB1.out.trans (hb2.mono HB1.out.size))
    have HX2 := hid_intro (HX1.out.below hb2)
    clear hb2
    clear y0 y1 y2 y3 y4 y5 y6 y7 y8 y9 y10 y11
    obtain ⟨xl, xc⟩ := HX2.out
    have y0 : w2.cell? ⟨w.heap.size, 0, none⟩ = some (.string a) := xc 0 (by simp)
    have y1 : w2.cell? ⟨w.heap.size, 1, none⟩ = some (.string m) := xc 1 (by simp)
    have y2 : w2.cell? ⟨w.heap.size, 2, none⟩ = some (.int .i64 mo) := xc 2 (by simp)
    have y3 : w2.cell? ⟨w.heap.size, 3, none⟩ = some (.int .i64 ev) := xc 3 (by simp)
    have y4 : w2.cell? ⟨w.heap.size, 4, none⟩ = some (.int .i64 su) := xc 4 (by simp)
    have y5 : w2.cell? ⟨w.heap.size, 5, none⟩ = some (.int .i64 mx) := xc 5 (by simp)
    have y6 : w2.cell? ⟨w.heap.size, 6, none⟩ = some (.slice ta tl tc) := xc 6 (by simp)
    have y7 : w2.cell? ⟨w.heap.size, 7, none⟩ = some (.func (.func 227) #[] #[]) := xc 7 (by simp)
    have y8 : w2.cell? ⟨w.heap.size, 8, none⟩ = some (.func (.func 228) #[] #[]) := xc 8 (by simp)
    have y9 : w2.cell? ⟨w.heap.size, 9, none⟩ = some (.slice ha hl hc) := xc 9 (by simp)
    have y10 : w2.cell? ⟨w.heap.size, 10, none⟩ = some (.func (.func 229) #[] #[]) := xc 10 (by simp)
    have y11 : w2.cell? ⟨w.heap.size, 11, none⟩ = some (.func (.func 230) #[] #[]) := xc 11 (by simp)
    clear xc
    go_wp2_with fail
    refine (H3.out _ HB2.out).mono ?_
    rintro e w3 ⟨rfl, hb3⟩
    have HB3 := hid_intro (HB2.out.trans (hb3.mono HB2.out.size))
    have HX3 := hid_intro (HX2.out.below hb3)
    clear hb3
    clear y0 y1 y2 y3 y4 y5 y6 y7 y8 y9 y10 y11
    obtain ⟨xl, xc⟩ := HX3.out
    have y0 : w3.cell? ⟨w.heap.size, 0, none⟩ = some (.string a) := xc 0 (by simp)
    have y1 : w3.cell? ⟨w.heap.size, 1, none⟩ = some (.string m) := xc 1 (by simp)
    have y2 : w3.cell? ⟨w.heap.size, 2, none⟩ = some (.int .i64 mo) := xc 2 (by simp)
    have y3 : w3.cell? ⟨w.heap.size, 3, none⟩ = some (.int .i64 ev) := xc 3 (by simp)
    have y4 : w3.cell? ⟨w.heap.size, 4, none⟩ = some (.int .i64 su) := xc 4 (by simp)
    have y5 : w3.cell? ⟨w.heap.size, 5, none⟩ = some (.int .i64 mx) := xc 5 (by simp)
    have y6 : w3.cell? ⟨w.heap.size, 6, none⟩ = some (.slice ta tl tc) := xc 6 (by simp)
    have y7 : w3.cell? ⟨w.heap.size, 7, none⟩ = some (.func (.func 227) #[] #[]) := xc 7 (by simp)
    have y8 : w3.cell? ⟨w.heap.size, 8, none⟩ = some (.func (.func 228) #[] #[]) := xc 8 (by simp)
    have y9 : w3.cell? ⟨w.heap.size, 9, none⟩ = some (.slice ha hl hc) := xc 9 (by simp)
    have y10 : w3.cell? ⟨w.heap.size, 10, none⟩ = some (.func (.func 229) #[] #[]) := xc 10 (by simp)
    have y11 : w3.cell? ⟨w.heap.size, 11, none⟩ = some (.func (.func 230) #[] #[]) := xc 11 (by simp)
    clear xc
    go_wp2_with fail
    refine (H4.out (by first | rfl | trivial) _ HB3.out).mono ?_
    rintro e w4 ⟨rfl, hb4⟩
    have HB4 := hid_intro (HB3.out.trans (hb4.mono HB3.out.size))
    have HX4 := hid_intro (HX3.out.below hb4)
    clear hb4
    go_wp2_with fail
    go_ret
    exact ⟨rfl, HB4.out⟩
  · go_enter Tryz.func186, Tryz.ntmps186
    go_wp2_with fail
    refine (H1.out _).mono ?_
    rintro e w1 ⟨rfl, hb1⟩
    have HB1 := hid_intro (HB0.out.trans (hb1.mono HB0.out.size))
    have HX1 := hid_intro (HX0.out.below hb1)
    clear hb1
    obtain ⟨xl, xc⟩ := HX1.out
    have y0 : w1.cell? ⟨w.heap.size, 0, none⟩ = some (.string a) := xc 0 (by simp)
    have y1 : w1.cell? ⟨w.heap.size, 1, none⟩ = some (.string m) := xc 1 (by simp)
    have y2 : w1.cell? ⟨w.heap.size, 2, none⟩ = some (.int .i64 mo) := xc 2 (by simp)
    have y3 : w1.cell? ⟨w.heap.size, 3, none⟩ = some (.int .i64 ev) := xc 3 (by simp)
    have y4 : w1.cell? ⟨w.heap.size, 4, none⟩ = some (.int .i64 su) := xc 4 (by simp)
    have y5 : w1.cell? ⟨w.heap.size, 5, none⟩ = some (.int .i64 mx) := xc 5 (by simp)
    have y6 : w1.cell? ⟨w.heap.size, 6, none⟩ = some (.slice ta tl tc) := xc 6 (by simp)
    have y7 : w1.cell? ⟨w.heap.size, 7, none⟩ = some (.func (.func 227) #[] #[]) := xc 7 (by simp)
    have y8 : w1.cell? ⟨w.heap.size, 8, none⟩ = some (.func (.func 228) #[] #[]) := xc 8 (by simp)
    have y9 : w1.cell? ⟨w.heap.size, 9, none⟩ = some (.slice ha hl hc) := xc 9 (by simp)
    have y10 : w1.cell? ⟨w.heap.size, 10, none⟩ = some (.func (.func 229) #[] #[]) := xc 10 (by simp)
    have y11 : w1.cell? ⟨w.heap.size, 11, none⟩ = some (.func (.func 230) #[] #[]) := xc 11 (by simp)
    clear xc
    go_wp2_with fail
    refine (H2.out _).mono ?_
    rintro e w2 ⟨rfl, hb2⟩
    have HB2 := hid_intro (HB1.out.trans (hb2.mono HB1.out.size))
    have HX2 := hid_intro (HX1.out.below hb2)
    clear hb2
    clear y0 y1 y2 y3 y4 y5 y6 y7 y8 y9 y10 y11
    obtain ⟨xl, xc⟩ := HX2.out
    have y0 : w2.cell? ⟨w.heap.size, 0, none⟩ = some (.string a) := xc 0 (by simp)
    have y1 : w2.cell? ⟨w.heap.size, 1, none⟩ = some (.string m) := xc 1 (by simp)
    have y2 : w2.cell? ⟨w.heap.size, 2, none⟩ = some (.int .i64 mo) := xc 2 (by simp)
    have y3 : w2.cell? ⟨w.heap.size, 3, none⟩ = some (.int .i64 ev) := xc 3 (by simp)
    have y4 : w2.cell? ⟨w.heap.size, 4, none⟩ = some (.int .i64 su) := xc 4 (by simp)
    have y5 : w2.cell? ⟨w.heap.size, 5, none⟩ = some (.int .i64 mx) := xc 5 (by simp)
    have y6 : w2.cell? ⟨w.heap.size, 6, none⟩ = some (.slice ta tl tc) := xc 6 (by simp)
    have y7 : w2.cell? ⟨w.heap.size, 7, none⟩ = some (.func (.func 227) #[] #[]) := xc 7 (by simp)
    have y8 : w2.cell? ⟨w.heap.size, 8, none⟩ = some (.func (.func 228) #[] #[]) := xc 8 (by simp)
    have y9 : w2.cell? ⟨w.heap.size, 9, none⟩ = some (.slice ha hl hc) := xc 9 (by simp)
    have y10 : w2.cell? ⟨w.heap.size, 10, none⟩ = some (.func (.func 229) #[] #[]) := xc 10 (by simp)
    have y11 : w2.cell? ⟨w.heap.size, 11, none⟩ = some (.func (.func 230) #[] #[]) := xc 11 (by simp)
    clear xc
    go_wp2_with fail
    refine (H3.out _ HB2.out).mono ?_
    rintro e w3 ⟨rfl, hb3⟩
    have HB3 := hid_intro (HB2.out.trans (hb3.mono HB2.out.size))
    have HX3 := hid_intro (HX2.out.below hb3)
    clear hb3
    clear y0 y1 y2 y3 y4 y5 y6 y7 y8 y9 y10 y11
    obtain ⟨xl, xc⟩ := HX3.out
    have y0 : w3.cell? ⟨w.heap.size, 0, none⟩ = some (.string a) := xc 0 (by simp)
    have y1 : w3.cell? ⟨w.heap.size, 1, none⟩ = some (.string m) := xc 1 (by simp)
    have y2 : w3.cell? ⟨w.heap.size, 2, none⟩ = some (.int .i64 mo) := xc 2 (by simp)
    have y3 : w3.cell? ⟨w.heap.size, 3, none⟩ = some (.int .i64 ev) := xc 3 (by simp)
    have y4 : w3.cell? ⟨w.heap.size, 4, none⟩ = some (.int .i64 su) := xc 4 (by simp)
    have y5 : w3.cell? ⟨w.heap.size, 5, none⟩ = some (.int .i64 mx) := xc 5 (by simp)
    have y6 : w3.cell? ⟨w.heap.size, 6, none⟩ = some (.slice ta tl tc) := xc 6 (by simp)
    have y7 : w3.cell? ⟨w.heap.size, 7, none⟩ = some (.func (.func 227) #[] #[]) := xc 7 (by simp)
    have y8 : w3.cell? ⟨w.heap.size, 8, none⟩ = some (.func (.func 228) #[] #[]) := xc 8 (by simp)
    have y9 : w3.cell? ⟨w.heap.size, 9, none⟩ = some (.slice ha hl hc) := xc 9 (by simp)
    have y10 : w3.cell? ⟨w.heap.size, 10, none⟩ = some (.func (.func 229) #[] #[]) := xc 10 (by simp)
    have y11 : w3.cell? ⟨w.heap.size, 11, none⟩ = some (.func (.func 230) #[] #[]) := xc 11 (by simp)
    clear xc
    go_wp2_with fail
    refine (H4.out (by first | rfl | trivial) _ HB3.out).mono ?_
    rintro e w4 ⟨rfl, hb4⟩
    have HB4 := hid_intro (HB3.out.trans (hb4.mono HB3.out.size))
    have HX4 := hid_intro (HX3.out.below hb4)
    clear hb4
    go_wp2_with fail
    go_ret
    exact ⟨rfl, HB4.out⟩
theorem impl_right (a m : ByteArray) (mo ev su mx : Int) (ts : List ByteArray) (hs : List H) (ta : Option Addr) (tc : Nat) (ha : Option Addr) (hc : Nat) (w : World) (h1 : a.size ≤ 1048576) (h2 : m.size ≤ 1048576) (h3 : ts.length ≤ 1048576) (h4 : ∀ t ∈ ts, t.size ≤ 1048576) (h5 : hs.length ≤ 1048576) (hL : Laid w) (hT : Tgs ta ts w) (hH : Hrs ha hs w) :
    Calls Tryz.prog 186 #[.agg #[.string a, .string m, .int .i64 mo, .int .i64 ev, .int .i64 su, .int .i64 mx, .slice ta ts.length tc, .func (.func 227) #[] #[], .func (.func 228) #[] #[], .slice ha hs.length hc, .func (.func 229) #[] #[], .func (.func 230) #[] #[]]] w fun e w' => e = .returned (.bool (wB ⟨a, m, mo, ev, su, mx, ts, hs⟩)) ∧ Below w.heap.size w w' :=
  right_in a m mo ev su mx ta ts.length tc ha hs.length hc _ _ _ _ w (fun W => impl_named a m mo W h1 h2) (fun W => impl_counted ev su mx W) (fun W hW => impl_tagged a m mo ev su mx ts ta tc _ W h3 h4 (hT.below hW)) (fun hc W hW => impl_timed a m mo ev su mx hs _ ha _ W h5 (counted_su hc).2.1 (hL.below hW) (hH.below hW))
theorem impl_window_right (x : Wd) (ta : Option Addr) (tc : Nat) (ha : Option Addr) (hc : Nat) (w : World) (h1 : x.a.size ≤ 1048576) (h2 : x.m.size ≤ 1048576) (h3 : x.ts.length ≤ 1048576) (h4 : ∀ t ∈ x.ts, t.size ≤ 1048576) (h5 : x.hs.length ≤ 1048576) (hL : Laid w) (hT : Tgs ta x.ts w) (hH : Hrs ha x.hs w) :
    Calls Tryz.prog 137 #[.agg (wcells x ta tc ha hc)] w fun e w' => e = .returned (.bool (wB x)) ∧ Below w.heap.size w w' := by
  obtain ⟨a, m, mo, ev, su, mx, ts, hs⟩ := x
  dsimp only at *
  have H1 := hid_intro (fun W => impl_usage a m mo ev su mx ta ts.length tc ha hs.length hc W)
  have H2 := hid_intro (fun W (hW : Below w.heap.size w W) => impl_right a m mo ev su mx ts hs ta tc ha hc W h1 h2 h3 h4 h5 (hL.below hW) (hT.below hW) (hH.below hW))
  unfold wcells
  dsimp only
  generalize wB ⟨a, m, mo, ev, su, mx, ts, hs⟩ = R at *
  generalize ts.length = tl at *
  generalize hs.length = hl at *
  clear hL hT hH h4
  have HB0 : Hid (Below w.heap.size w (w.alloc (.cells #[.string a, .string m, .int .i64 mo, .int .i64 ev, .int .i64 su, .int .i64 mx, .slice ta tl tc, .slice ha hl hc] 115))) := hid_intro ((Below.refl _ _).alloc (Nat.le_refl _) _)
  go_enter Tryz.func137, Tryz.ntmps137
  go_wp2_with fail
  refine (H1.out _).mono ?_
  rintro e w1 ⟨rfl, hb1⟩
  have HB1 := hid_intro (HB0.out.trans (hb1.mono HB0.out.size))
  clear hb1
  go_wp2_with fail
  refine (H2.out _ HB1.out).mono ?_
  rintro e w2 ⟨rfl, hb2⟩
  have HB2 := hid_intro (HB1.out.trans (hb2.mono HB1.out.size))
  clear hb2
  go_wp2_with fail
  go_ret
  exact ⟨rfl, HB2.out⟩
end WinR
end Go.Proofs.YtjfmdcdclifpkaaGreatDoor
namespace Go.Proofs.YtjfmdcdclifpkaaGreatDoor
open Go.ChangeShapes Go.WideShapes Go.ChangeAt Go.RowKit
set_option linter.unusedVariables false
namespace EngR
open CatR
set_option maxHeartbeats 4000000 in
theorem eright_in (ma : Option Addr) (ml mc : Nat) (ca : Option Addr) (cl cc : Nat) (sa : Option Addr) (sl sc : Nat) (ea : Option Addr) (el ec : Nat) (ua : Option Addr) (ul uc : Nat) (da : Option Addr) (dl dc : Nat) (fr : Int) (b1 b2 b3 b4 b5 b6 : Bool) (w : World)
    (h1 : ∀ W, Below w.heap.size w W → Calls Tryz.prog 78 #[.agg #[.slice ma ml mc, .slice ca cl cc]] W fun e w' => e = .returned (.bool b1) ∧ Below W.heap.size W w')
    (h2 : ∀ W, Below w.heap.size w W → Calls Tryz.prog 79 #[.slice sa sl sc] W fun e w' => e = .returned (.bool b2) ∧ Below W.heap.size W w')
    (h3 : ∀ W, Below w.heap.size w W → Calls Tryz.prog 80 #[.slice da dl dc] W fun e w' => e = .returned (.bool b3) ∧ Below W.heap.size W w')
    (h4 : ∀ W, Calls Tryz.prog 81 #[.int .i64 fr] W fun e w' => e = .returned (.bool b4) ∧ w' = W)
    (h5 : b4 = true → ∀ W, Below w.heap.size w W → Calls Tryz.prog 82 #[.agg #[.slice ma ml mc, .slice ca cl cc, .slice sa sl sc, .slice ea el ec, .slice ua ul uc, .slice da dl dc, .int .i64 fr]] W fun e w' => e = .returned (.bool b5) ∧ Below W.heap.size W w')
    (h6 : ∀ W, Below w.heap.size w W → Calls Tryz.prog 83 #[.agg #[.slice ma ml mc, .slice ca cl cc, .slice sa sl sc, .slice ea el ec, .slice ua ul uc, .slice da dl dc, .int .i64 fr]] W fun e w' => e = .returned (.bool b6) ∧ Below W.heap.size W w') :
    Calls Tryz.prog 31 #[.agg #[.slice ma ml mc, .slice ca cl cc, .slice sa sl sc, .slice ea el ec, .slice ua ul uc, .slice da dl dc, .int .i64 fr]] w fun e w' => e = .returned (.bool (b1 && b2 && b3 && b4 && b5 && b6)) ∧ Below w.heap.size w w' := by
  have H1 := hid_intro h1
  have H2 := hid_intro h2
  have H3 := hid_intro h3
  have H4 := hid_intro h4
  have H5 := hid_intro h5
  have H6 := hid_intro h6
  obtain ⟨W0, hW0⟩ : ∃ z, z = w.alloc (.cells #[.slice ma ml mc, .slice ca cl cc, .slice sa sl sc, .slice ea el ec, .slice ua ul uc, .slice da dl dc, .int .i64 fr] 44) := ⟨_, rfl⟩
  have hal : Below w.heap.size w W0 := by rw [hW0]; exact (Below.refl _ _).alloc (Nat.le_refl _) _
  have hA : Blk w.heap.size [.slice ma ml mc, .slice ca cl cc, .slice sa sl sc, .slice ea el ec, .slice ua ul uc, .slice da dl dc, .int .i64 fr] W0 := by rw [hW0]; exact Blk.new w _ _
  have HB0 := hid_intro hal
  have HA0 := hid_intro hA
  have HW := hid_intro hW0
  clear h1 h2 h3 h4 h5 h6 hal hA hW0
  go_enter Tryz.func31, Tryz.ntmps31
  go_wp2_with fail
  rw [← HW.out]
  clear HW
  refine (H1.out _ HB0.out).mono ?_
  rintro e w1 ⟨rfl, hb⟩
  have HB1 := hid_intro (HB0.out.trans (hb.mono HB0.out.size))
  have HA1 := hid_intro (HA0.out.below hb)
  clear hb
  cases b1
  · go_wp2_with fail
    go_ret
    exact ⟨rfl, HB1.out⟩
  have al := HA1.out.1
  have c2 : w1.cell? ⟨w.heap.size, 2, none⟩ = some (.slice sa sl sc) := HA1.out.2 2 (by simp)
  go_wp2_with fail
  refine (H2.out _ HB1.out).mono ?_
  rintro e w2 ⟨rfl, hb⟩
  have HB2 := hid_intro (HB1.out.trans (hb.mono HB1.out.size))
  have HA2 := hid_intro (HA1.out.below hb)
  clear hb
  clear al c2
  cases b2
  · go_wp2_with fail
    go_ret
    exact ⟨rfl, HB2.out⟩
  have al := HA2.out.1
  have c5 : w2.cell? ⟨w.heap.size, 5, none⟩ = some (.slice da dl dc) := HA2.out.2 5 (by simp)
  go_wp2_with fail
  refine (H3.out _ HB2.out).mono ?_
  rintro e w3 ⟨rfl, hb⟩
  have HB3 := hid_intro (HB2.out.trans (hb.mono HB2.out.size))
  have HA3 := hid_intro (HA2.out.below hb)
  clear hb
  clear al c5
  cases b3
  · go_wp2_with fail
    go_ret
    exact ⟨rfl, HB3.out⟩
  have al := HA3.out.1
  have c6 : w3.cell? ⟨w.heap.size, 6, none⟩ = some (.int .i64 fr) := HA3.out.2 6 (by simp)
  go_wp2_with fail
  refine (H4.out _).mono ?_
  rintro e w4 ⟨rfl, hw⟩
  rw [hw]
  clear hw w4
  clear al
  clear c6
  cases b4
  · go_wp2_with fail
    go_ret
    exact ⟨rfl, HB3.out⟩
  have al := HA3.out.1
  have c0 : w3.cell? ⟨w.heap.size, 0, none⟩ = some (.slice ma ml mc) := HA3.out.2 0 (by simp)
  have c1 : w3.cell? ⟨w.heap.size, 1, none⟩ = some (.slice ca cl cc) := HA3.out.2 1 (by simp)
  have c2 : w3.cell? ⟨w.heap.size, 2, none⟩ = some (.slice sa sl sc) := HA3.out.2 2 (by simp)
  have c3 : w3.cell? ⟨w.heap.size, 3, none⟩ = some (.slice ea el ec) := HA3.out.2 3 (by simp)
  have c4 : w3.cell? ⟨w.heap.size, 4, none⟩ = some (.slice ua ul uc) := HA3.out.2 4 (by simp)
  have c5 : w3.cell? ⟨w.heap.size, 5, none⟩ = some (.slice da dl dc) := HA3.out.2 5 (by simp)
  have c6 : w3.cell? ⟨w.heap.size, 6, none⟩ = some (.int .i64 fr) := HA3.out.2 6 (by simp)
  go_wp2_with fail
  refine (H5.out (by trivial) _ HB3.out).mono ?_
  rintro e w5 ⟨rfl, hb⟩
  have HB5 := hid_intro (HB3.out.trans (hb.mono HB3.out.size))
  have HA5 := hid_intro (HA3.out.below hb)
  clear hb
  clear al c0 c1 c2 c3 c4 c5 c6
  cases b5
  · go_wp2_with fail
    go_ret
    exact ⟨rfl, HB5.out⟩
  have al := HA5.out.1
  have c0 : w5.cell? ⟨w.heap.size, 0, none⟩ = some (.slice ma ml mc) := HA5.out.2 0 (by simp)
  have c1 : w5.cell? ⟨w.heap.size, 1, none⟩ = some (.slice ca cl cc) := HA5.out.2 1 (by simp)
  have c2 : w5.cell? ⟨w.heap.size, 2, none⟩ = some (.slice sa sl sc) := HA5.out.2 2 (by simp)
  have c3 : w5.cell? ⟨w.heap.size, 3, none⟩ = some (.slice ea el ec) := HA5.out.2 3 (by simp)
  have c4 : w5.cell? ⟨w.heap.size, 4, none⟩ = some (.slice ua ul uc) := HA5.out.2 4 (by simp)
  have c5 : w5.cell? ⟨w.heap.size, 5, none⟩ = some (.slice da dl dc) := HA5.out.2 5 (by simp)
  have c6 : w5.cell? ⟨w.heap.size, 6, none⟩ = some (.int .i64 fr) := HA5.out.2 6 (by simp)
  go_wp2_with fail
  refine (H6.out _ HB5.out).mono ?_
  rintro e w6 ⟨rfl, hb⟩
  have HB6 := hid_intro (HB5.out.trans (hb.mono HB5.out.size))
  clear hb
  clear al c0 c1 c2 c3 c4 c5 c6
  go_wp2_with fail
  go_ret
  exact ⟨ret_bool (by simp), HB6.out⟩
/-- Is this engine right, where its freed month begins at that minute? -/
def engB (x : Eng) (v : Int) : Bool := caB x.c && srcB x.ss && LedR.lB x.ds && decide (0 ≤ x.fr ∧ x.fr ≤ 2760) && (SeenR.sB x.es && !goneB x.es v) && winB x.ws x.c.ms x.fr
theorem impl_eng (val : Value) (x : Eng) (v : Int) (w : World) (hS : x.Small) (hE : IsEng val x w) (hwf : ∀ d ∈ x.ds, (Lit.int .i64 d.mo).wf = true) (hL : ∀ W, Below w.heap.size w W → CatR.Laid W) (hL2 : ∀ W, Below w.heap.size w W → DateR.Laid W)
    (hv : 0 ≤ x.fr → x.fr ≤ 2760 → ∀ W, Below w.heap.size w W → Calls Tryz.prog 133 #[.int .i64 x.fr] W fun e w' => e = .returned (.int .i64 v) ∧ Below W.heap.size W w') :
    Calls Tryz.prog 31 #[val] w fun e w' => e = .returned (.bool (engB x v)) ∧ Below w.heap.size w w' := by
  obtain ⟨ma, mc, ca, cc, sa, sc, ea, ec, ua, uc, da, dc, rfl, q1, q2, q3, q4, q5, q6⟩ := hE
  refine eright_in ma _ mc ca _ cc sa _ sc ea _ ec ua _ uc da _ dc x.fr (caB x.c) (srcB x.ss) (LedR.lB x.ds) (decide (0 ≤ x.fr ∧ x.fr ≤ 2760)) (SeenR.sB x.es && !goneB x.es v) (winB x.ws x.c.ms x.fr) w ?_ ?_ ?_ ?_ ?_ ?_
  · intro W hW
    exact CatR.impl_ca _ x.c W hS.c ⟨ma, mc, ca, cc, rfl, q1.below hW, q2.below hW⟩ (hL W hW)
  · intro W hW
    exact impl_srcs sa sc x.ss W hS.sl hS.ss (q3.below hW)
  · intro W hW
    exact LedR.impl_ledger da dc x.ds W hS.dl hS.ds hwf (q6.below hW)
  · intro W
    exact DocR.iMon x.fr W
  · intro h4 W hW
    have h4' := of_decide_eq_true h4
    refine eseen_in ma _ mc ca _ cc sa _ sc ea _ ec ua _ uc da _ dc x.fr v _ _ W (fun W2 h2 => hv h4'.1 h4'.2 W2 (hW.trans (h2.mono hW.size))) (fun W2 h2 => ?_) (fun W2 B h2 hB hc => ?_)
    · exact SeenR.impl_seen ea ec x.es W2 hS.el hS.es (q4.below (hW.trans (h2.mono hW.size)))
    · exact icont ea ec x.es v B W2 (q4.below (hW.trans (h2.mono hW.size))) hS.el hB hc
  · intro W hW
    refine ewin_in ma _ mc ca _ cc sa _ sc ea _ ec ua uc da _ dc x.fr x.ws x.c.ms W (q5.below hW) hS.wl (fun k hk ta tc ha hc W2 h2 hT hH => ?_) (fun t W2 h2 => ?_)
    · have hk' := hS.ws k hk
      exact WinR.impl_window_right _ ta tc ha hc W2 hk'.1 hk'.2.1 hk'.2.2.1 hk'.2.2.2.1 hk'.2.2.2.2 (hL2 W2 (hW.trans (h2.mono hW.size))) hT hH
    · exact isells ma ca mc _ cc x.c.ms t W2 (q1.below (hW.trans (h2.mono hW.size))) hS.c.ml
end EngR
end Go.Proofs.YtjfmdcdclifpkaaGreatDoor
