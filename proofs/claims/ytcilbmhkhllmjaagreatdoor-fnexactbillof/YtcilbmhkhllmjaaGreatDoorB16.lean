/-
  What the program calls a right window. The conditions: texts of at most 1048576 bytes, lists of at most 1048576; the program's table stands in its variable.
  The program's looks at windows that are to be billed: all right; two of one meter. The conditions: sizes of at most 1048576; the program's table holds what its text lays.
  What the model calls a window's right tags. The conditions: at most 1048576 tags of at most 1048576 bytes.
  A region that draws its order, in a class of worlds that all hold some facts: one walk of the order of the text serves. No condition.
-/
import Derived.BigQuiet
import Derived.Deep.QuietTactic
import Derived.Test.YtcilbmhkhllmjaaGreatDoorB15
namespace Go.Proofs.YtcilbmhkhllmjaaGreatDoor
open Go.ChangeShapes Go.WideShapes Go.ChangeAt Go.RowKit
set_option linter.unusedVariables false
namespace WinR
open RowG LtR
open CatR (Blk Blk.new)
open DateR (Laid)
theorem counted_su {ev su mx : Int} (h : countedB ev su mx = true) : (1 ≤ ev ∧ ev ≤ 1000) ∧ (0 ≤ su ∧ su ≤ 1000000000000) ∧ 0 ≤ mx ∧ mx ≤ su := by
  unfold countedB at h
  simp only [Bool.and_eq_true, decide_eq_true_eq] at h
  exact h
set_option maxRecDepth 100000 in
set_option maxHeartbeats 8000000 in
theorem right_in (a m : ByteArray) (mo ev su mx : Int) (ta : Option Addr) (tl tc : Nat) (ha : Option Addr) (hl hc : Nat) (b1 b2 b3 b4 : Bool) (w : World)
    (h1 : ∀ W, Calls Tryz.prog 147 #[.agg #[.string a, .string m, .int .i64 mo]] W fun e w' => e = .returned (.bool b1) ∧ Below W.heap.size W w')
    (h2 : ∀ W, Calls Tryz.prog 148 #[.agg #[.int .i64 ev, .int .i64 su, .int .i64 mx]] W fun e w' => e = .returned (.bool b2) ∧ Below W.heap.size W w')
    (h3 : ∀ W, Below w.heap.size w W → Calls Tryz.prog 149 #[.agg #[.string a, .string m, .int .i64 mo, .int .i64 ev, .int .i64 su, .int .i64 mx, .slice ta tl tc, .func (.func 183) #[] #[], .func (.func 184) #[] #[], .slice ha hl hc, .func (.func 185) #[] #[], .func (.func 186) #[] #[]]] W fun e w' => e = .returned (.bool b3) ∧ Below W.heap.size W w')
    (h4 : b2 = true → ∀ W, Below w.heap.size w W → Calls Tryz.prog 150 #[.agg #[.string a, .string m, .int .i64 mo, .int .i64 ev, .int .i64 su, .int .i64 mx, .slice ta tl tc, .func (.func 183) #[] #[], .func (.func 184) #[] #[], .slice ha hl hc, .func (.func 185) #[] #[], .func (.func 186) #[] #[]]] W fun e w' => e = .returned (.bool b4) ∧ Below W.heap.size W w') :
    Calls Tryz.prog 124 #[.agg #[.string a, .string m, .int .i64 mo, .int .i64 ev, .int .i64 su, .int .i64 mx, .slice ta tl tc, .func (.func 183) #[] #[], .func (.func 184) #[] #[], .slice ha hl hc, .func (.func 185) #[] #[], .func (.func 186) #[] #[]]] w fun e w' => e = .returned (.bool (b1 && (b2 && (b3 && b4)))) ∧ Below w.heap.size w w' := by
  have H1 := hid_intro h1
  have H2 := hid_intro h2
  have H3 := hid_intro h3
  have H4 := hid_intro h4
  clear h1 h2 h3 h4
  have HB0 : Hid (Below w.heap.size w (w.alloc (.cells #[.string a, .string m, .int .i64 mo, .int .i64 ev, .int .i64 su, .int .i64 mx, .slice ta tl tc, .func (.func 183) #[] #[], .func (.func 184) #[] #[], .slice ha hl hc, .func (.func 185) #[] #[], .func (.func 186) #[] #[]] 185))) := hid_intro ((Below.refl _ _).alloc (Nat.le_refl _) _)
  have HX0 := hid_intro (Blk.new w [.string a, .string m, .int .i64 mo, .int .i64 ev, .int .i64 su, .int .i64 mx, .slice ta tl tc, .func (.func 183) #[] #[], .func (.func 184) #[] #[], .slice ha hl hc, .func (.func 185) #[] #[], .func (.func 186) #[] #[]] 185)
  rcases four b1 b2 b3 b4 with rfl | ⟨rfl, rfl⟩ | ⟨rfl, rfl, rfl⟩ | ⟨rfl, rfl, rfl, rfl⟩ | ⟨rfl, rfl, rfl, rfl⟩
  · go_enter Tryz.func124, Tryz.ntmps124
    go_wp2_with fail
    refine (H1.out _).mono ?_
    rintro e w1 ⟨rfl, hb1⟩
    have HB1 := hid_intro (HB0.out.trans (hb1.mono HB0.out.size))
    have HX1 := hid_intro (HX0.out.below hb1)
    clear hb1
    go_wp2_with fail
    go_ret
    exact ⟨rfl, HB1.out⟩
  · go_enter Tryz.func124, Tryz.ntmps124
    go_wp2_with fail
    refine (H1.out _).mono ?_
    rintro e w1 ⟨rfl, hb1⟩
    have HB1 := hid_intro (HB0.out.trans (hb1.mono HB0.out.size))
    have HX1 := hid_intro (HX0.out.below hb1)
    clear hb1
    obtain ⟨xl, xc⟩ := HX1.out
    have y0 : w1.cell? ⟨w.heap.size, 0, none⟩ = some (.string a) := xc 0 (by simp)
    have y1 : w1.cell? ⟨w.heap.size, 1, none⟩ = some (.string m) := xc 1 (by simp)
    have y2 : w1.cell? ⟨w.heap.size, 2, none⟩ = some (.int .i64 mo) := xc 2 (by simp)
    have y3 : w1.cell? ⟨w.heap.size, 3, none⟩ = some (.int .i64 ev) := xc 3 (by simp)
    have y4 : w1.cell? ⟨w.heap.size, 4, none⟩ = some (.int .i64 su) := xc 4 (by simp)
    have y5 : w1.cell? ⟨w.heap.size, 5, none⟩ = some (.int .i64 mx) := xc 5 (by simp)
    have y6 : w1.cell? ⟨w.heap.size, 6, none⟩ = some (.slice ta tl tc) := xc 6 (by simp)
    have y7 : w1.cell? ⟨w.heap.size, 7, none⟩ = some (.func (.func 183) #[] #[]) := xc 7 (by simp)
    have y8 : w1.cell? ⟨w.heap.size, 8, none⟩ = some (.func (.func 184) #[] #[]) := xc 8 (by simp)
    have y9 : w1.cell? ⟨w.heap.size, 9, none⟩ = some (.slice ha hl hc) := xc 9 (by simp)
    have y10 : w1.cell? ⟨w.heap.size, 10, none⟩ = some (.func (.func 185) #[] #[]) := xc 10 (by simp)
    have y11 : w1.cell? ⟨w.heap.size, 11, none⟩ = some (.func (.func 186) #[] #[]) := xc 11 (by simp)
    clear xc
    go_wp2_with fail
    refine (H2.out _).mono ?_
    rintro e w2 ⟨rfl, hb2⟩
    have HB2 := hid_intro (HB1.out.trans (hb2.mono HB1.out.size))
    have HX2 := hid_intro (HX1.out.below hb2)
    clear hb2
    go_wp2_with fail
    go_ret
    exact ⟨rfl, HB2.out⟩
  · go_enter Tryz.func124, Tryz.ntmps124
    go_wp2_with fail
    refine (H1.out _).mono ?_
    rintro e w1 ⟨rfl, hb1⟩
    have HB1 := hid_intro (HB0.out.trans (hb1.mono HB0.out.size))
    have HX1 := hid_intro (HX0.out.below hb1)
    clear hb1
    obtain ⟨xl, xc⟩ := HX1.out
    have y0 : w1.cell? ⟨w.heap.size, 0, none⟩ = some (.string a) := xc 0 (by simp)
    have y1 : w1.cell? ⟨w.heap.size, 1, none⟩ = some (.string m) := xc 1 (by simp)
    have y2 : w1.cell? ⟨w.heap.size, 2, none⟩ = some (.int .i64 mo) := xc 2 (by simp)
    have y3 : w1.cell? ⟨w.heap.size, 3, none⟩ = some (.int .i64 ev) := xc 3 (by simp)
    have y4 : w1.cell? ⟨w.heap.size, 4, none⟩ = some (.int .i64 su) := xc 4 (by simp)
    have y5 : w1.cell? ⟨w.heap.size, 5, none⟩ = some (.int .i64 mx) := xc 5 (by simp)
    have y6 : w1.cell? ⟨w.heap.size, 6, none⟩ = some (.slice ta tl tc) := xc 6 (by simp)
    have y7 : w1.cell? ⟨w.heap.size, 7, none⟩ = some (.func (.func 183) #[] #[]) := xc 7 (by simp)
    have y8 : w1.cell? ⟨w.heap.size, 8, none⟩ = some (.func (.func 184) #[] #[]) := xc 8 (by simp)
    have y9 : w1.cell? ⟨w.heap.size, 9, none⟩ = some (.slice ha hl hc) := xc 9 (by simp)
    have y10 : w1.cell? ⟨w.heap.size, 10, none⟩ = some (.func (.func 185) #[] #[]) := xc 10 (by simp)
    have y11 : w1.cell? ⟨w.heap.size, 11, none⟩ = some (.func (.func 186) #[] #[]) := xc 11 (by simp)
    clear xc
    go_wp2_with fail
    refine (H2.out _).mono ?_
    rintro e w2 ⟨rfl, hb2⟩
    have HB2 := hid_intro (HB1.out.trans (hb2.mono HB1.out.size))
    have HX2 := hid_intro (HX1.out.below hb2)
    clear hb2
    clear y0 y1 y2 y3 y4 y5 y6 y7 y8 y9 y10 y11
    obtain ⟨xl, xc⟩ := HX2.out
    have y0 : w2.cell? ⟨w.heap.size, 0, none⟩ = some (.string a) := xc 0 (by simp)
    have y1 : w2.cell? ⟨w.heap.size, 1, none⟩ = some (.string m) := xc 1 (by simp)
    have y2 : w2.cell? ⟨w.heap.size, 2, none⟩ = some (.int .i64 mo) := xc 2 (by simp)
    have y3 : w2.cell? ⟨w.heap.size, 3, none⟩ = some (.int .i64 ev) := xc 3 (by simp)
    have y4 : w2.cell? ⟨w.heap.size, 4, none⟩ = some (.int .i64 su) := xc 4 (by simp)
    have y5 : w2.cell? ⟨w.heap.size, 5, none⟩ = some (.int .i64 mx) := xc 5 (by simp)
    have y6 : w2.cell? ⟨w.heap.size, 6, none⟩ = some (.slice ta tl tc) := xc 6 (by simp)
    have y7 : w2.cell? ⟨w.heap.size, 7, none⟩ = some (.func (.func 183) #[] #[]) := xc 7 (by simp)
    have y8 : w2.cell? ⟨w.heap.size, 8, none⟩ = some (.func (.func 184) #[] #[]) := xc 8 (by simp)
    have y9 : w2.cell? ⟨w.heap.size, 9, none⟩ = some (.slice ha hl hc) := xc 9 (by simp)
    have y10 : w2.cell? ⟨w.heap.size, 10, none⟩ = some (.func (.func 185) #[] #[]) := xc 10 (by simp)
    have y11 : w2.cell? ⟨w.heap.size, 11, none⟩ = some (.func (.func 186) #[] #[]) := xc 11 (by simp)
    clear xc
    go_wp2_with fail
    refine (H3.out _ HB2.out).mono ?_
    rintro e w3 ⟨rfl, hb3⟩
    have HB3 := hid_intro (HB2.out.trans (hb3.mono HB2.out.size))
    have HX3 := hid_intro (HX2.out.below hb3)
    clear hb3
    go_wp2_with fail
    go_ret
    exact ⟨rfl, HB3.out⟩
  · go_enter Tryz.func124, Tryz.ntmps124
    go_wp2_with fail
    refine (H1.out _).mono ?_
    rintro e w1 ⟨rfl, hb1⟩
    have HB1 := hid_intro (HB0.out.trans (hb1.mono HB0.out.size))
    have HX1 := hid_intro (HX0.out.below hb1)
    clear hb1
    obtain ⟨xl, xc⟩ := HX1.out
    have y0 : w1.cell? ⟨w.heap.size, 0, none⟩ = some (.string a) := xc 0 (by simp)
    have y1 : w1.cell? ⟨w.heap.size, 1, none⟩ = some (.string m) := xc 1 (by simp)
    have y2 : w1.cell? ⟨w.heap.size, 2, none⟩ = some (.int .i64 mo) := xc 2 (by simp)
    have y3 : w1.cell? ⟨w.heap.size, 3, none⟩ = some (.int .i64 ev) := xc 3 (by simp)
    have y4 : w1.cell? ⟨w.heap.size, 4, none⟩ = some (.int .i64 su) := xc 4 (by simp)
    have y5 : w1.cell? ⟨w.heap.size, 5, none⟩ = some (.int .i64 mx) := xc 5 (by simp)
    have y6 : w1.cell? ⟨w.heap.size, 6, none⟩ = some (.slice ta tl tc) := xc 6 (by simp)
    have y7 : w1.cell? ⟨w.heap.size, 7, none⟩ = some (.func (.func 183) #[] #[]) := xc 7 (by simp)
    have y8 : w1.cell? ⟨w.heap.size, 8, none⟩ = some (.func (.func 184) #[] #[]) := xc 8 (by simp)
    have y9 : w1.cell? ⟨w.heap.size, 9, none⟩ = some (.slice ha hl hc) := xc 9 (by simp)
    have y10 : w1.cell? ⟨w.heap.size, 10, none⟩ = some (.func (.func 185) #[] #[]) := xc 10 (by simp)
    have y11 : w1.cell? ⟨w.heap.size, 11, none⟩ = some (.func (.func 186) #[] #[]) := xc 11 (by simp)
    clear xc
    go_wp2_with fail
    refine (H2.out _).mono ?_
    rintro e w2 ⟨rfl, hb2⟩
    have HB2 := hid_intro (HB1.out.trans (hb2.mono HB1.out.size))
    have HX2 := hid_intro (HX1.out.below hb2)
    clear hb2
    clear y0 y1 y2 y3 y4 y5 y6 y7 y8 y9 y10 y11
    obtain ⟨xl, xc⟩ := HX2.out
    have y0 : w2.cell? ⟨w.heap.size, 0, none⟩ = some (.string a) := xc 0 (by simp)
    have y1 : w2.cell? ⟨w.heap.size, 1, none⟩ = some (.string m) := xc 1 (by simp)
    have y2 : w2.cell? ⟨w.heap.size, 2, none⟩ = some (.int .i64 mo) := xc 2 (by simp)
    have y3 : w2.cell? ⟨w.heap.size, 3, none⟩ = some (.int .i64 ev) := xc 3 (by simp)
    have y4 : w2.cell? ⟨w.heap.size, 4, none⟩ = some (.int .i64 su) := xc 4 (by simp)
    have y5 : w2.cell? ⟨w.heap.size, 5, none⟩ = some (.int .i64 mx) := xc 5 (by simp)
    have y6 : w2.cell? ⟨w.heap.size, 6, none⟩ = some (.slice ta tl tc) := xc 6 (by simp)
    have y7 : w2.cell? ⟨w.heap.size, 7, none⟩ = some (.func (.func 183) #[] #[]) := xc 7 (by simp)
    have y8 : w2.cell? ⟨w.heap.size, 8, none⟩ = some (.func (.func 184) #[] #[]) := xc 8 (by simp)
    have y9 : w2.cell? ⟨w.heap.size, 9, none⟩ = some (.slice ha hl hc) := xc 9 (by simp)
    have y10 : w2.cell? ⟨w.heap.size, 10, none⟩ = some (.func (.func 185) #[] #[]) := xc 10 (by simp)
    have y11 : w2.cell? ⟨w.heap.size, 11, none⟩ = some (.func (.func 186) #[] #[]) := xc 11 (by simp)
    clear xc
    go_wp2_with fail
    refine (H3.out _ HB2.out).mono ?_
    rintro e w3 ⟨rfl, hb3⟩
    have HB3 := hid_intro (HB2.out.trans (hb3.mono HB2.out.size))
    have HX3 := hid_intro (HX2.out.below hb3)
    clear hb3
    clear y0 y1 y2 y3 y4 y5 y6 y7 y8 y9 y10 y11
    obtain ⟨xl, xc⟩ := HX3.out
    have y0 : w3.cell? ⟨w.heap.size, 0, none⟩ = some (.string a) := xc 0 (by simp)
    have y1 : w3.cell? ⟨w.heap.size, 1, none⟩ = some (.string m) := xc 1 (by simp)
    have y2 : w3.cell? ⟨w.heap.size, 2, none⟩ = some (.int .i64 mo) := xc 2 (by simp)
    have y3 : w3.cell? ⟨w.heap.size, 3, none⟩ = some (.int .i64 ev) := xc 3 (by simp)
    have y4 : w3.cell? ⟨w.heap.size, 4, none⟩ = some (.int .i64 su) := xc 4 (by simp)
    have y5 : w3.cell? ⟨w.heap.size, 5, none⟩ = some (.int .i64 mx) := xc 5 (by simp)
    have y6 : w3.cell? ⟨w.heap.size, 6, none⟩ = some (.slice ta tl tc) := xc 6 (by simp)
    have y7 : w3.cell? ⟨w.heap.size, 7, none⟩ = some (.func (.func 183) #[] #[]) := xc 7 (by simp)
    have y8 : w3.cell? ⟨w.heap.size, 8, none⟩ = some (.func (.func 184) #[] #[]) := xc 8 (by simp)
    have y9 : w3.cell? ⟨w.heap.size, 9, none⟩ = some (.slice ha hl hc) := xc 9 (by simp)
    have y10 : w3.cell? ⟨w.heap.size, 10, none⟩ = some (.func (.func 185) #[] #[]) := xc 10 (by simp)
    have y11 : w3.cell? ⟨w.heap.size, 11, none⟩ = some (.func (.func 186) #[] #[]) := xc 11 (by simp)
    clear xc
    go_wp2_with fail
    refine (H4.out (by first | rfl | trivial) _ HB3.out).mono ?_
    rintro e w4 ⟨rfl, hb4⟩
    have HB4 := hid_intro (HB3.out.trans (hb4.mono HB3.out.size))
    have HX4 := hid_intro (HX3.out.below hb4)
    clear hb4
    go_wp2_with fail
    go_ret
    exact ⟨rfl, HB4.out⟩
  · go_enter Tryz.func124, Tryz.ntmps124
    go_wp2_with fail
    refine (H1.out _).mono ?_
    rintro e w1 ⟨rfl, hb1⟩
    have HB1 := hid_intro (HB0.out.trans (hb1.mono HB0.out.size))
    have HX1 := hid_intro (HX0.out.below hb1)
    clear hb1
    obtain ⟨xl, xc⟩ := HX1.out
    have y0 : w1.cell? ⟨w.heap.size, 0, none⟩ = some (.string a) := xc 0 (by simp)
    have y1 : w1.cell? ⟨w.heap.size, 1, none⟩ = some (.string m) := xc 1 (by simp)
    have y2 : w1.cell? ⟨w.heap.size, 2, none⟩ = some (.int .i64 mo) := xc 2 (by simp)
    have y3 : w1.cell? ⟨w.heap.size, 3, none⟩ = some (.int .i64 ev) := xc 3 (by simp)
    have y4 : w1.cell? ⟨w.heap.size, 4, none⟩ = some (.int .i64 su) := xc 4 (by simp)
    have y5 : w1.cell? ⟨w.heap.size, 5, none⟩ = some (.int .i64 mx) := xc 5 (by simp)
    have y6 : w1.cell? ⟨w.heap.size, 6, none⟩ = some (.slice ta tl tc) := xc 6 (by simp)
    have y7 : w1.cell? ⟨w.heap.size, 7, none⟩ = some (.func (.func 183) #[] #[]) := xc 7 (by simp)
    have y8 : w1.cell? ⟨w.heap.size, 8, none⟩ = some (.func (.func 184) #[] #[]) := xc 8 (by simp)
    have y9 : w1.cell? ⟨w.heap.size, 9, none⟩ = some (.slice ha hl hc) := xc 9 (by simp)
    have y10 : w1.cell? ⟨w.heap.size, 10, none⟩ = some (.func (.func 185) #[] #[]) := xc 10 (by simp)
    have y11 : w1.cell? ⟨w.heap.size, 11, none⟩ = some (.func (.func 186) #[] #[]) := xc 11 (by simp)
    clear xc
    go_wp2_with fail
    refine (H2.out _).mono ?_
    rintro e w2 ⟨rfl, hb2⟩
    have HB2 := hid_intro (HB1.out.trans (hb2.mono HB1.out.size))
    have HX2 := hid_intro (HX1.out.below hb2)
    clear hb2
    clear y0 y1 y2 y3 y4 y5 y6 y7 y8 y9 y10 y11
    obtain ⟨xl, xc⟩ := HX2.out
    have y0 : w2.cell? ⟨w.heap.size, 0, none⟩ = some (.string a) := xc 0 (by simp)
    have y1 : w2.cell? ⟨w.heap.size, 1, none⟩ = some (.string m) := xc 1 (by simp)
    have y2 : w2.cell? ⟨w.heap.size, 2, none⟩ = some (.int .i64 mo) := xc 2 (by simp)
    have y3 : w2.cell? ⟨w.heap.size, 3, none⟩ = some (.int .i64 ev) := xc 3 (by simp)
    have y4 : w2.cell? ⟨w.heap.size, 4, none⟩ = some (.int .i64 su) := xc 4 (by simp)
    have y5 : w2.cell? ⟨w.heap.size, 5, none⟩ = some (.int .i64 mx) := xc 5 (by simp)
    have y6 : w2.cell? ⟨w.heap.size, 6, none⟩ = some (.slice ta tl tc) := xc 6 (by simp)
    have y7 : w2.cell? ⟨w.heap.size, 7, none⟩ = some (.func (.func 183) #[] #[]) := xc 7 (by simp)
    have y8 : w2.cell? ⟨w.heap.size, 8, none⟩ = some (.func (.func 184) #[] #[]) := xc 8 (by simp)
    have y9 : w2.cell? ⟨w.heap.size, 9, none⟩ = some (.slice ha hl hc) := xc 9 (by simp)
    have y10 : w2.cell? ⟨w.heap.size, 10, none⟩ = some (.func (.func 185) #[] #[]) := xc 10 (by simp)
    have y11 : w2.cell? ⟨w.heap.size, 11, none⟩ = some (.func (.func 186) #[] #[]) := xc 11 (by simp)
    clear xc
    go_wp2_with fail
    refine (H3.out _ HB2.out).mono ?_
    rintro e w3 ⟨rfl, hb3⟩
    have HB3 := hid_intro (HB2.out.trans (hb3.mono HB2.out.size))
    have HX3 := hid_intro (HX2.out.below hb3)
    clear hb3
    clear y0 y1 y2 y3 y4 y5 y6 y7 y8 y9 y10 y11
    obtain ⟨xl, xc⟩ := HX3.out
    have y0 : w3.cell? ⟨w.heap.size, 0, none⟩ = some (.string a) := xc 0 (by simp)
    have y1 : w3.cell? ⟨w.heap.size, 1, none⟩ = some (.string m) := xc 1 (by simp)
    have y2 : w3.cell? ⟨w.heap.size, 2, none⟩ = some (.int .i64 mo) := xc 2 (by simp)
    have y3 : w3.cell? ⟨w.heap.size, 3, none⟩ = some (.int .i64 ev) := xc 3 (by simp)
    have y4 : w3.cell? ⟨w.heap.size, 4, none⟩ = some (.int .i64 su) := xc 4 (by simp)
    have y5 : w3.cell? ⟨w.heap.size, 5, none⟩ = some (.int .i64 mx) := xc 5 (by simp)
    have y6 : w3.cell? ⟨w.heap.size, 6, none⟩ = some (.slice ta tl tc) := xc 6 (by simp)
    have y7 : w3.cell? ⟨w.heap.size, 7, none⟩ = some (.func (.func 183) #[] #[]) := xc 7 (by simp)
    have y8 : w3.cell? ⟨w.heap.size, 8, none⟩ = some (.func (.func 184) #[] #[]) := xc 8 (by simp)
    have y9 : w3.cell? ⟨w.heap.size, 9, none⟩ = some (.slice ha hl hc) := xc 9 (by simp)
    have y10 : w3.cell? ⟨w.heap.size, 10, none⟩ = some (.func (.func 185) #[] #[]) := xc 10 (by simp)
    have y11 : w3.cell? ⟨w.heap.size, 11, none⟩ = some (.func (.func 186) #[] #[]) := xc 11 (by simp)
    clear xc
    go_wp2_with fail
    refine (H4.out (by first | rfl | trivial) _ HB3.out).mono ?_
    rintro e w4 ⟨rfl, hb4⟩
    have HB4 := hid_intro (HB3.out.trans (hb4.mono HB3.out.size))
    have HX4 := hid_intro (HX3.out.below hb4)
    clear hb4
    go_wp2_with fail
    go_ret
    exact ⟨rfl, HB4.out⟩
theorem impl_right (a m : ByteArray) (mo ev su mx : Int) (ts : List ByteArray) (hs : List H) (ta : Option Addr) (tc : Nat) (ha : Option Addr) (hc : Nat) (w : World) (h1 : a.size ≤ 1048576) (h2 : m.size ≤ 1048576) (h3 : ts.length ≤ 1048576) (h4 : ∀ t ∈ ts, t.size ≤ 1048576) (h5 : hs.length ≤ 1048576) (hL : Laid w) (hT : Tgs ta ts w) (hH : Hrs ha hs w) :
    Calls Tryz.prog 124 #[.agg #[.string a, .string m, .int .i64 mo, .int .i64 ev, .int .i64 su, .int .i64 mx, .slice ta ts.length tc, .func (.func 183) #[] #[], .func (.func 184) #[] #[], .slice ha hs.length hc, .func (.func 185) #[] #[], .func (.func 186) #[] #[]]] w fun e w' => e = .returned (.bool (wB ⟨a, m, mo, ev, su, mx, ts, hs⟩)) ∧ Below w.heap.size w w' :=
  right_in a m mo ev su mx ta ts.length tc ha hs.length hc _ _ _ _ w (fun W => impl_named a m mo W h1 h2) (fun W => impl_counted ev su mx W) (fun W hW => impl_tagged a m mo ev su mx ts ta tc _ W h3 h4 (hT.below hW)) (fun hc W hW => impl_timed a m mo ev su mx hs _ ha _ W h5 (counted_su hc).2.1 (hL.below hW) (hH.below hW))
theorem impl_window_right (x : Wd) (ta : Option Addr) (tc : Nat) (ha : Option Addr) (hc : Nat) (w : World) (h1 : x.a.size ≤ 1048576) (h2 : x.m.size ≤ 1048576) (h3 : x.ts.length ≤ 1048576) (h4 : ∀ t ∈ x.ts, t.size ≤ 1048576) (h5 : x.hs.length ≤ 1048576) (hL : Laid w) (hT : Tgs ta x.ts w) (hH : Hrs ha x.hs w) :
    Calls Tryz.prog 92 #[.agg (wcells x ta tc ha hc)] w fun e w' => e = .returned (.bool (wB x)) ∧ Below w.heap.size w w' := by
  obtain ⟨a, m, mo, ev, su, mx, ts, hs⟩ := x
  dsimp only at *
  have H1 := hid_intro (fun W => impl_usage a m mo ev su mx ta ts.length tc ha hs.length hc W)
  have H2 := hid_intro (fun W (hW : Below w.heap.size w W) => impl_right a m mo ev su mx ts hs ta tc ha hc W h1 h2 h3 h4 h5 (hL.below hW) (hT.below hW) (hH.below hW))
  unfold wcells
  dsimp only
  generalize wB ⟨a, m, mo, ev, su, mx, ts, hs⟩ = R at *
  generalize ts.length = tl at *
  generalize hs.length = hl at *
  clear hL hT hH h4
  have HB0 : Hid (Below w.heap.size w (w.alloc (.cells #[.string a, .string m, .int .i64 mo, .int .i64 ev, .int .i64 su, .int .i64 mx, .slice ta tl tc, .slice ha hl hc] 74))) := hid_intro ((Below.refl _ _).alloc (Nat.le_refl _) _)
  go_enter Tryz.func92, Tryz.ntmps92
  go_wp2_with fail
  refine (H1.out _).mono ?_
  rintro e w1 ⟨rfl, hb1⟩
  have HB1 := hid_intro (HB0.out.trans (hb1.mono HB0.out.size))
  clear hb1
  go_wp2_with fail
  refine (H2.out _ HB1.out).mono ?_
  rintro e w2 ⟨rfl, hb2⟩
  have HB2 := hid_intro (HB1.out.trans (hb2.mono HB1.out.size))
  clear hb2
  go_wp2_with fail
  go_ret
  exact ⟨rfl, HB2.out⟩
end WinR
end Go.Proofs.YtcilbmhkhllmjaaGreatDoor
namespace Go.Proofs.YtcilbmhkhllmjaaGreatDoor
open Go.ChangeShapes Go.WideShapes Go.ChangeAt Go.RowKit
set_option linter.unusedVariables false
namespace BilR
open LtR WinR
open RowG (Rws getD_mem)
open CatR (Blk Blk.new)
def wsB (ws : List Wd) : Bool := decide (ws.length ≤ 20) && ws.all wB
theorem wsB_no {ws : List Wd} {k : Nat} (hk : k < ws.length) (h : wB (ws.getD k Wd.zero) = false) : wsB ws = false := by
  have hm := getD_mem (z := Wd.zero) ws k hk
  cases hw : wsB ws
  · rfl
  · unfold wsB at hw
    simp only [Bool.and_eq_true] at hw
    have := List.all_eq_true.1 hw.2 _ hm
    rw [h] at this; cases this
theorem wsB_yes {ws : List Wd} (h1 : ws.length ≤ 20) (h : ∀ i, i < ws.length → wB (ws.getD i Wd.zero) = true) : wsB ws = true := by
  unfold wsB
  rw [decide_eq_true h1, Bool.true_and, List.all_eq_true]
  intro x hx
  obtain ⟨i, hi, rfl⟩ := List.getElem_of_mem hx
  have := h i hi
  simpa [List.getD, hi] using this
set_option maxRecDepth 100000 in
set_option maxHeartbeats 4000000 in
theorem iwins_in (ao : Option Addr) (cap : Nat) (ws : List Wd) (w : World) (hlen : ws.length ≤ 1048576) (hI : Wns ao ws w)
    (hw : ∀ k, k < ws.length → ∀ ta tc ha hc W, Below w.heap.size w W → Tgs ta (ws.getD k Wd.zero).ts W → Hrs ha (ws.getD k Wd.zero).hs W → Calls Tryz.prog 92 #[.agg (wcells (ws.getD k Wd.zero) ta tc ha hc)] W fun e w' => e = .returned (.bool (wB (ws.getD k Wd.zero))) ∧ Below W.heap.size W w') :
    Calls Tryz.prog 43 #[.slice ao ws.length cap] w fun e w' => e = .returned (.bool (wsB ws)) ∧ Below w.heap.size w w' := by
  have HI := hid_intro hI
  have HWR := hid_intro hw
  have HF : Hid (∀ k, k < ws.length → wB (ws.getD k Wd.zero) = false → wsB ws = false) := hid_intro (fun k hk h => wsB_no hk h)
  have HG : Hid (20 < ws.length → wsB ws = false) := hid_intro (fun h => by unfold wsB; rw [decide_eq_false (by omega)]; rfl)
  have HY : Hid (ws.length ≤ 20 → (∀ i, i < ws.length → wB (ws.getD i Wd.zero) = true) → wsB ws = true) := hid_intro (fun h h2 => wsB_yes h h2)
  generalize wsB ws = R at *
  obtain ⟨len, hl⟩ : ∃ len, len = ws.length := ⟨_, rfl⟩
  have HL := hid_intro hl
  rw [← hl] at hlen HF HG HY ⊢
  clear hI hw hl
  by_cases h16 : 20 < len
  · have h2 : (20 : Int) < (len : Int) := by omega
    have HR := hid_intro (HG.out h16)
    go_enter Tryz.func43, Tryz.ntmps43
    go_wp2_with fail
    go_ret
    exact ⟨ret_bool HR.out.symm, Below.refl _ _⟩
  have h2 : ¬ (20 : Int) < (len : Int) := by omega
  go_enter Tryz.func43, Tryz.ntmps43
  go_wp2_with fail
  go_loopw [10] (fun z wr => ∃ k : Nat, k ≤ len ∧ z = .int .i64 k ∧ Hid (∀ i, i < k → wB (ws.getD i Wd.zero) = true) ∧ Hid (Below w.heap.size w wr)) (fun z _ => len - (intOf z).toNat)
  case atStart => exact ⟨0, by omega, rfl, hid_intro (fun i hi => absurd hi (by omega)), hid_intro (Below.refl _ _)⟩
  case round =>
    obtain ⟨k, hk, rfl, HK, HB⟩ := hrel
    by_cases hlt : k < len
    · have hlt2 : (k : Int) < (len : Int) := by omega
      obtain ⟨b, off, ta, tc, ha, hc, rfl, hbl, c0, c1, c2, c3, c4, c5, c6, c7, hT, hH⟩ := (HI.out.below HB.out).at k (by have := HL.out; omega)
      have hlk : k < ws.length := by have := HL.out; omega
      have HWK := hid_intro (HWR.out k hlk ta tc ha hc)
      have HFK := hid_intro (HF.out k hlt)
      have HMK : Hid (wB (ws.getD k Wd.zero) = true → ∀ i, i < k + 1 → wB (ws.getD i Wd.zero) = true) := hid_intro (fun h i hi => by
        by_cases e : i = k
        · subst e; exact h
        · exact HK.out i (by omega))
      obtain ⟨X, hX⟩ : ∃ z, z = ws.getD k Wd.zero := ⟨_, rfl⟩
      rw [← hX] at c0 c1 c2 c3 c4 c5 c6 c7 hT hH HWK HFK HMK
      generalize hqw : wB X = bw at *
      clear hqw hX
      obtain ⟨xa, xm, xo, xe, xs, xx, xt, xh⟩ := X
      dsimp only [wcells] at c0 c1 c2 c3 c4 c5 c6 c7 hT hH HWK
      obtain ⟨W1, hW1⟩ : ∃ z, z = wr.alloc (.cells #[.string xa, .string xm, .int .i64 xo, .int .i64 xe, .int .i64 xs, .int .i64 xx, .slice ta xt.length tc, .slice ha xh.length hc] 74) := ⟨_, rfl⟩
      have hal : Below wr.heap.size wr W1 := by rw [hW1]; exact (Below.refl _ _).alloc (Nat.le_refl _) _
      have HB1 := hid_intro (HB.out.trans (hal.mono HB.out.size))
      have HW1 := hid_intro hW1
      have HWK1 := hid_intro (HWK.out W1 HB1.out (hT.below hal) (hH.below hal))
      clear hT hH hal hW1 HWK HWR
      generalize xt.length = tl at *
      generalize xh.length = hl at *
      go_wp2_with fail
      rw [← HW1.out]
      clear HW1 c0 c1 c2 c3 c4 c5 c6 c7
      refine HWK1.out.mono ?_
      rintro e w2 ⟨rfl, hb⟩
      have HB2 := hid_intro (HB1.out.trans (hb.mono HB1.out.size))
      clear hb HB1 HWK1
      cases bw
      · have HR := hid_intro (HFK.out rfl)
        go_wp2_with fail
        go_ret
        exact ⟨ret_bool HR.out.symm, HB2.out⟩
      have HK2 := hid_intro (HMK.out rfl)
      go_wp2_with fail
      go_roundw
      case rel => exact ⟨k + 1, by omega, by go_num, HK2, HB2⟩
      case measure => simp [intOf]; omega
    · have hlt2 : ¬ (k : Int) < (len : Int) := by omega
      obtain rfl : k = len := by omega
      have HR := hid_intro (HY.out (by omega) HK.out)
      go_wp2_with fail
      go_ret
      exact ⟨ret_bool HR.out.symm, HB.out⟩
theorem ris_of {rs : List WP} (hs : rs.Pairwise (fun x y => lt y.d.m x.d.m = false)) (ha : ∀ i, 1 ≤ i → i < rs.length → (rs.getD i WP.zero).d.m ≠ (rs.getD (i - 1) WP.zero).d.m) : Ris (fun p : WP => p.d.m) rs := by
  have adj : ∀ i (h : i + 1 < rs.length), lt (rs[i]'(by omega)).d.m rs[i + 1].d.m = true := by
    intro i h
    have h1 := List.pairwise_iff_getElem.1 hs i (i + 1) (by omega) h (by omega)
    have h2 := ha (i + 1) (by omega) h
    simp only [Nat.add_sub_cancel] at h2
    rw [show rs.getD (i + 1) WP.zero = rs[i + 1] by simp [List.getD, h], show rs.getD i WP.zero = rs[i]'(by omega) by simp [List.getD, show i < rs.length by omega]] at h2
    cases h3 : lt (rs[i]'(by omega)).d.m rs[i + 1].d.m
    · exact absurd (lt_total h1 h3) h2
    · rfl
  refine List.pairwise_iff_getElem.2 (fun i j hi hj hij => ?_)
  obtain ⟨d, rfl⟩ : ∃ d, j = i + 1 + d := ⟨j - i - 1, by omega⟩
  clear hij
  induction d with
  | zero => exact adj i hj
  | succ d ih => exact lt_trans (ih (by omega)) (adj (i + 1 + d) hj)
theorem not_ris {rs : List WP} {i : Nat} (h1 : 1 ≤ i) (hi : i < rs.length) (h : (rs.getD i WP.zero).d.m = (rs.getD (i - 1) WP.zero).d.m) : ¬ (rs.map (fun p : WP => p.d.m)).Nodup := by
  intro hn
  have h2 := List.pairwise_iff_getElem.1 hn (i - 1) i (by simp; omega) (by simpa using hi) (by omega)
  rw [show rs.getD i WP.zero = rs[i] by simp [List.getD, hi], show rs.getD (i - 1) WP.zero = rs[i - 1]'(by omega) by simp [List.getD, show i - 1 < rs.length by omega]] at h
  exact h2 (by simp [h])
theorem bdrewN {B : Nat} {a w : World} (h : Below B a w) (n : Nat) : Below B a (w.drewN n) := ⟨h.os, h.tape, h.output, h.size, h.block⟩
/-- What is told of windows that stand by their meters. -/
def TwR (rs : List WP) (e : Ending) : Prop := ∃ r, e = .returned (.bool r) ∧ (r = true → ¬ (rs.map (fun p : WP => p.d.m)).Nodup) ∧ (r = false → Ris (fun p : WP => p.d.m) rs)
set_option maxRecDepth 100000 in
set_option maxHeartbeats 4000000 in
theorem twice_one (ao : Option Addr) (cap : Nat) (rs : List WP) (w : World) (hlen : rs.length ≤ 1048576) (hs : rs.Pairwise (fun x y => lt y.d.m x.d.m = false)) (hI : Rws 8 WP.cells WP.zero ao rs w) :
    Calls Tryz.prog 96 #[.slice ao rs.length cap] w fun e w' => TwR rs e ∧ Below w.heap.size w w' := by
  have HI := hid_intro hI
  have HN : Hid (∀ i, 1 ≤ i → i < rs.length → (rs.getD i WP.zero).d.m = (rs.getD (i - 1) WP.zero).d.m → ¬ (rs.map (fun p : WP => p.d.m)).Nodup) := hid_intro (fun i h1 h2 h3 => not_ris h1 h2 h3)
  have HY : Hid ((∀ i, 1 ≤ i → i < rs.length → (rs.getD i WP.zero).d.m ≠ (rs.getD (i - 1) WP.zero).d.m) → Ris (fun p : WP => p.d.m) rs) := hid_intro (fun h => ris_of hs h)
  obtain ⟨len, hl⟩ : ∃ len, len = rs.length := ⟨_, rfl⟩
  have HL := hid_intro hl
  rw [← hl] at hlen HN HY ⊢
  clear hI hs hl
  go_enter Tryz.func96, Tryz.ntmps96
  go_wp2_with fail
  go_loopw [3] (fun z wr => ∃ k : Nat, 1 ≤ k ∧ (k ≤ len ∨ k = 1) ∧ z = .int .i64 k ∧ Hid (∀ i, 1 ≤ i → i < k → (rs.getD i WP.zero).d.m ≠ (rs.getD (i - 1) WP.zero).d.m) ∧ Hid (Below w.heap.size w wr)) (fun z _ => len - (intOf z).toNat)
  case atStart => exact ⟨1, by omega, by omega, rfl, hid_intro (fun i h1 hi => absurd hi (by omega)), hid_intro (Below.refl _ _)⟩
  case round =>
    obtain ⟨k, hk1, hk, rfl, HK, HB⟩ := hrel
    by_cases hlt : k < len
    · have hlt2 : (k : Int) < (len : Int) := by omega
      have HW := hid_intro (HI.out.below HB.out)
      obtain ⟨b, off, e0, hbl, hc⟩ : ∃ b off, ao = some ⟨b, off, none⟩ ∧ b < wr.heap.size ∧ ∀ j, j < rs.length → ∀ i, i < 8 → wr.cell? ⟨b, off + j * 8 + i, none⟩ = (rs.getD j WP.zero).cells[i]? := by
        rcases HW.out with h0 | ⟨b, off, e, hl, hc⟩
        · have := HL.out; omega
        · exact ⟨b, off, e, hl, hc⟩
      subst e0
      have c1 := hc k (by have := HL.out; omega) 1 (by omega)
      have d1 := hc (k - 1) (by have := HL.out; omega) 1 (by omega)
      have HNK := hid_intro (HN.out k hk1 hlt)
      have HMK : Hid ((rs.getD k WP.zero).d.m ≠ (rs.getD (k - 1) WP.zero).d.m → ∀ i, 1 ≤ i → i < k + 1 → (rs.getD i WP.zero).d.m ≠ (rs.getD (i - 1) WP.zero).d.m) := hid_intro (fun h i h1 hi => by
        by_cases e : i = k
        · subst e; exact h
        · exact HK.out i h1 (by omega))
      generalize rs.getD k WP.zero = X at *
      generalize rs.getD (k - 1) WP.zero = Y at *
      simp only [WP.cells, List.getElem?_cons_zero, List.getElem?_cons_succ] at c1 d1
      generalize X.d.m = xm at *
      generalize Y.d.m = ym at *
      obtain ⟨j, hj⟩ : ∃ j, j = k - 1 := ⟨_, rfl⟩
      rw [← hj] at d1
      have hjl : (j : Int) < (len : Int) := by omega
      have hw1 : IntKind.i64.wrap ((k : Int) - 1) = (j : Int) := by rw [IntKind.wrap_i64]; omega
      have HJ := hid_intro hj
      clear hj
      clear hc HW
      cases hq : (xm.toList == ym.toList)
      · have hne : xm ≠ ym := fun e => by subst e; simp at hq
        have HK2 := hid_intro (HMK.out hne)
        go_wp2_with fail
        go_quiet (fail)
        go_wp2_with fail
        go_roundw
        case rel => exact ⟨k + 1, by omega, by omega, by go_num, HK2, hid_intro (bdrewN HB.out _)⟩
        case measure => simp [intOf]; omega
      · have he : xm = ym := toList_inj (by simpa using hq)
        have HR := hid_intro (HNK.out he)
        go_wp2_with fail
        go_quiet (fail)
        go_wp2_with fail
        go_ret
        exact ⟨⟨true, rfl, fun _ => HR.out, fun h => by cases h⟩, bdrewN HB.out _⟩
    · have hlt2 : ¬ (k : Int) < (len : Int) := by omega
      have HR := hid_intro (HY.out (fun i h1 hi => HK.out i h1 (by omega)))
      go_wp2_with fail
      go_ret
      exact ⟨⟨false, rfl, fun h => (by cases h), fun _ => HR.out⟩, HB.out⟩
end BilR
end Go.Proofs.YtcilbmhkhllmjaaGreatDoor
namespace Go.Proofs.YtcilbmhkhllmjaaGreatDoor
open Go.ChangeShapes Go.WideShapes Go.ChangeAt Go.RowKit
set_option linter.unusedVariables false
namespace WinR
open RowG LtR
theorem tag_word (X : ByteArray) : (WordR.printB X && decide ((X.size : Int) ≤ 10)) = EvtR.tagB X := by
  unfold EvtR.tagB
  rw [Bool.and_comm]
  congr 1
  exact decide_eq_decide.2 (by omega)
theorem ok_none {X : ByteArray} (h : X.size = 0) : tagOk X = false := by unfold tagOk; rw [decide_eq_false (by omega), Bool.false_and]
theorem ok_some {X : ByteArray} (h : X.size ≠ 0) : tagOk X = EvtR.tagB X := by unfold tagOk; rw [decide_eq_true (by omega), Bool.true_and]
set_option maxRecDepth 100000 in
set_option maxHeartbeats 4000000 in
theorem spec_tags (ao : Option Addr) (cap : Nat) (ts : List ByteArray) (w : World) (hlen : ts.length ≤ 1048576) (hS : ∀ t ∈ ts, t.size ≤ 1048576) (hI : Tgs ao ts w) :
    Calls Tryz.prog 79 #[.slice ao ts.length cap] w fun e w' => e = .returned (.bool (tagsB ts)) ∧ Below w.heap.size w w' := by
  have HI := hid_intro hI
  have HS := hid_intro hS
  have HBA := hid_intro (fun k => tags_bad (ts := ts) (k := k))
  have HDO := hid_intro (tags_done (ts := ts))
  generalize tagsB ts = R at *
  obtain ⟨len, hl⟩ : ∃ len, len = ts.length := ⟨_, rfl⟩
  rw [← hl] at hlen ⊢
  have HL := hid_intro hl
  clear hI hl hS
  go_enter Tryz.func79, Tryz.ntmps79
  go_wp2_with fail
  go_loopw [3] (fun z wr => ∃ k : Nat, k ≤ len ∧ z = .int .i64 k ∧ Hid (TUp ts k) ∧ Hid (Below w.heap.size w wr)) (fun z _ => len - (intOf z).toNat)
  case atStart => exact ⟨0, by omega, rfl, hid_intro (TUp.zero ts), hid_intro (Below.refl _ _)⟩
  case round =>
    obtain ⟨k, hk, rfl, HK, HB⟩ := hrel
    by_cases hlt : k < len
    · have hlt2 : (k : Int) < (len : Int) := by omega
      have hkl : k < ts.length := by have := HL.out; omega
      obtain ⟨b, off, rfl, hbl, c0⟩ := (HI.out.below HB.out).at k hkl
      have hsz := HS.out _ (getD_mem (z := tz) ts k hkl)
      have H1 := hid_intro (fun w => WordR.spec_word (ts.getD k tz) 10 w hsz)
      rw [tag_word] at H1
      have HB1 := hid_intro (fun h => HBA.out k hkl (.inl h))
      have HB2 := hid_intro (fun h0 h => HBA.out k hkl (.inr ⟨h0, h⟩))
      have HM := hid_intro (fun h1 h2 => HK.out.more hkl h1 h2)
      have HO0 := hid_intro (ok_none (X := ts.getD k tz))
      have HO1 := hid_intro (ok_some (X := ts.getD k tz))
      rcases (show k = 0 ∨ ∃ j, j + 1 = k from by rcases k with _ | j; exact .inl rfl; exact .inr ⟨j, rfl⟩) with rfl | ⟨j, hkj⟩
      · simp only [Nat.add_zero] at c0
        generalize ts.getD 0 tz = X at *
        by_cases hi : X.size = 0
        · have he := EvtR.empty_of X hi
          have HR : Hid (R = false) := hid_intro (HB1.out (HO0.out hi))
          go_wp2_with fail
          go_quiet ((go_at_call 113; exact Calls.quiet_of_same (H1.out _)))
          go_wp2_with fail
          go_ret
          exact ⟨ret_bool HR.out.symm, bdN HB.out _⟩
        · obtain ⟨he, he2⟩ := EvtR.full_of X hi
          have HO2 := hid_intro (HO1.out hi)
          generalize EvtR.tagB X = g at *
          cases g
          · have HR : Hid (R = false) := hid_intro (HB1.out HO2.out)
            go_wp2_with fail
            go_quiet ((go_at_call 113; exact Calls.quiet_of_same (H1.out _)))
            go_wp2_with fail
            go_ret
            exact ⟨ret_bool HR.out.symm, bdN HB.out _⟩
          · have HM2 := hid_intro (HM.out HO2.out (fun h => absurd h (by omega)))
            go_wp2_with fail
            go_quiet ((go_at_call 113; exact Calls.quiet_of_same (H1.out _)))
            go_wp2_with fail
            go_roundw
            case rel => exact ⟨0 + 1, by omega, by go_num, HM2, hid_intro (bdN HB.out _)⟩
            case measure => simp [intOf]; omega
      · obtain ⟨b', off', hbo, hbl', d0⟩ := (HI.out.below HB.out).at j (by omega)
        obtain ⟨rfl, rfl⟩ : b = b' ∧ off = off' := by simpa using hbo
        have hj1 : IntKind.i64.wrap ((k : Int) - 1) = (j : Int) := by rw [IntKind.wrap_i64]; omega
        have hj2 : 0 < k := by omega
        have hj3 : (j : Int) < (len : Int) := by omega
        rw [show k - 1 = j by omega] at HB2 HM
        clear hbl' hbo hkj
        generalize ts.getD k tz = X at *
        generalize ts.getD j tz = Y at *
        by_cases hi : X.size = 0
        · have he := EvtR.empty_of X hi
          have HR : Hid (R = false) := hid_intro (HB1.out (HO0.out hi))
          go_wp2_with fail
          go_quiet ((go_at_call 113; exact Calls.quiet_of_same (H1.out _)))
          go_wp2_with fail
          go_ret
          exact ⟨ret_bool HR.out.symm, bdN HB.out _⟩
        · obtain ⟨he, he2⟩ := EvtR.full_of X hi
          have HO2 := hid_intro (HO1.out hi)
          generalize EvtR.tagB X = g at *
          cases g
          · have HR : Hid (R = false) := hid_intro (HB1.out HO2.out)
            go_wp2_with fail
            go_quiet ((go_at_call 113; exact Calls.quiet_of_same (H1.out _)))
            go_wp2_with fail
            go_ret
            exact ⟨ret_bool HR.out.symm, bdN HB.out _⟩
          · cases hq : Op.bytesLess Y.toList X.toList
            · have HR : Hid (R = false) := hid_intro (HB2.out hj2 hq)
              go_wp2_with fail
              go_quiet ((go_at_call 113; exact Calls.quiet_of_same (H1.out _)))
              go_wp2_with fail
              go_ret
              exact ⟨ret_bool HR.out.symm, bdN HB.out _⟩
            · have HM2 := hid_intro (HM.out HO2.out (fun _ => hq))
              go_wp2_with fail
              go_quiet ((go_at_call 113; exact Calls.quiet_of_same (H1.out _)))
              go_wp2_with fail
              go_roundw
              case rel => exact ⟨k + 1, by omega, by go_num, HM2, hid_intro (bdN HB.out _)⟩
              case measure => simp [intOf]; omega
    · have hlt2 : ¬ (k : Int) < (len : Int) := by omega
      obtain rfl : k = len := by omega
      have HR : Hid (R = decide (k ≤ 12)) := hid_intro (by rw [HDO.out (by rw [← HL.out]; exact HK.out), ← HL.out])
      by_cases h12 : k ≤ 12
      · rw [decide_eq_true h12] at HR
        have h12' : (k : Int) ≤ 12 := by omega
        go_wp2_with fail
        go_ret
        exact ⟨ret_bool HR.out.symm, HB.out⟩
      · rw [decide_eq_false h12] at HR
        have h12' : ¬ (k : Int) ≤ 12 := by omega
        go_wp2_with fail
        go_ret
        exact ⟨ret_bool HR.out.symm, HB.out⟩
end WinR
end Go.Proofs.YtcilbmhkhllmjaaGreatDoor
namespace Go.Proofs.YtcilbmhkhllmjaaGreatDoor
open Go.ChangeShapes Go.WideShapes Go.ChangeAt Go.RowKit
/-- A world that holds some facts. -/
structure HW (S : World → Prop) where
  w : World
  h : S w
theorem wp_region_hw {P : Program} {id : Nat} {Q : Exit → Act → World → Prop} {a : Act} {w : World} {l : List Oper} (S : World → Prop) (hm : P.follows .mixedOrders = true) (hB : Region.lexB .any l.toArray = true) (hC : S w.drew)
    (h : wpQuiet P l.toArray (fun w' => ∃ s : HW S, w' = s.w) (fun a' => ∀ w', (∃ s : HW S, w' = s.w) → Q .normal a' w') l a) : (Code.region id l.toArray true).wp P Q a w :=
  wp_region_quiet (C := fun w' => ∃ s : HW S, w' = s.w) hm hB ⟨⟨_, hC⟩, rfl⟩ (by simpa using h)
end Go.Proofs.YtcilbmhkhllmjaaGreatDoor
