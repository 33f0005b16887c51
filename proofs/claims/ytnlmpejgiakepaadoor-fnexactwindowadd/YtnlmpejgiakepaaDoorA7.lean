/-
  What the program calls a right window. The conditions: texts of at most 1048576 bytes, lists of at most 1048576; the program's table stands in its variable.
  What the model calls a window's right tags. The conditions: at most 1048576 tags of at most 1048576 bytes.
  A region that draws its order, in a class of worlds that all hold some facts: one walk of the order of the text serves. No condition.
  What the model calls a window's right hours. The conditions: at most 12 hours; the sum is one that may be.
  What the model calls a right window. The conditions: texts of at most 1048576 bytes, at most 1048576 tags.
  Two windows joined: both sides by one function of two windows. The conditions: the lists are short enough, and the lists that are given are laid as slices are.
  The model's WindowJoin: two windows that are right are joined, others are refused. The conditions: what the callees ask for.
  A window laid anew, with its blocks told. The condition: the lists are of at most 1048576.
  Two windows joined: for any two there is one answer that both sides hand back. The condition: both together are small.
  A window and an event added: the program's and the model's way. The conditions: what the callees ask for.
  A minute's hour: both sides hand back the same number. No condition.
  The window of one event, the program's way. The conditions: texts of at most 1048576 bytes; the program's table stands in its variable.
-/
import Derived.BigQuiet
import Derived.Deep.QuietTactic
import Derived.Test.YtnlmpejgiakepaaDoorA6
namespace Go.Proofs.YtnlmpejgiakepaaDoor
open Go.ChangeShapes Go.WideShapes Go.ChangeAt Go.RowKit
set_option linter.unusedVariables false
namespace WinR
open RowG LtR
open CatR (Blk Blk.new)
open DateR (Laid)
theorem counted_su {ev su mx : Int} (h : countedB ev su mx = true) : (1 ≤ ev ∧ ev ≤ 1000) ∧ (0 ≤ su ∧ su ≤ 1000000000000) ∧ 0 ≤ mx ∧ mx ≤ su := by
 unfold countedB at h
 simp only [Bool.and_eq_true, decide_eq_true_eq] at h
 exact h
set_option maxRecDepth 100000 in
set_option maxHeartbeats 8000000 in
theorem right_in (a m : ByteArray) (mo ev su mx : Int) (ta : Option Addr) (tl tc : Nat) (ha : Option Addr) (hl hc : Nat) (b1 b2 b3 b4 : Bool) (w : World)
  (h1 : ∀ W, Calls Tryd.prog 73 #[.agg #[.string a, .string m, .int .i64 mo]] W fun e w' => e = .returned (.bool b1) ∧ Below W.heap.size W w')
  (h2 : ∀ W, Calls Tryd.prog 74 #[.agg #[.int .i64 ev, .int .i64 su, .int .i64 mx]] W fun e w' => e = .returned (.bool b2) ∧ Below W.heap.size W w')
  (h3 : ∀ W, Below w.heap.size w W → Calls Tryd.prog 75 #[.agg #[.string a, .string m, .int .i64 mo, .int .i64 ev, .int .i64 su, .int .i64 mx, .slice ta tl tc, .func (.func 88) #[] #[], .func (.func 89) #[] #[], .slice ha hl hc, .func (.func 90) #[] #[], .func (.func 91) #[] #[]]] W fun e w' => e = .returned (.bool b3) ∧ Below W.heap.size W w')
  (h4 : b2 = true → ∀ W, Below w.heap.size w W → Calls Tryd.prog 76 #[.agg #[.string a, .string m, .int .i64 mo, .int .i64 ev, .int .i64 su, .int .i64 mx, .slice ta tl tc, .func (.func 88) #[] #[], .func (.func 89) #[] #[], .slice ha hl hc, .func (.func 90) #[] #[], .func (.func 91) #[] #[]]] W fun e w' => e = .returned (.bool b4) ∧ Below W.heap.size W w') :
  Calls Tryd.prog 54 #[.agg #[.string a, .string m, .int .i64 mo, .int .i64 ev, .int .i64 su, .int .i64 mx, .slice ta tl tc, .func (.func 88) #[] #[], .func (.func 89) #[] #[], .slice ha hl hc, .func (.func 90) #[] #[], .func (.func 91) #[] #[]]] w fun e w' => e = .returned (.bool (b1 && (b2 && (b3 && b4)))) ∧ Below w.heap.size w w' := by
 have H1 := hid_intro h1
 have H2 := hid_intro h2
 have H3 := hid_intro h3
 have H4 := hid_intro h4
 clear h1 h2 h3 h4
 have HB0 : Hid (Below w.heap.size w (w.alloc (.cells #[.string a, .string m, .int .i64 mo, .int .i64 ev, .int .i64 su, .int .i64 mx, .slice ta tl tc, .func (.func 88) #[] #[], .func (.func 89) #[] #[], .slice ha hl hc, .func (.func 90) #[] #[], .func (.func 91) #[] #[]] 97))) := hid_intro ((Below.refl _ _).alloc (Nat.le_refl _) _)
 have HX0 := hid_intro (Blk.new w [.string a, .string m, .int .i64 mo, .int .i64 ev, .int .i64 su, .int .i64 mx, .slice ta tl tc, .func (.func 88) #[] #[], .func (.func 89) #[] #[], .slice ha hl hc, .func (.func 90) #[] #[], .func (.func 91) #[] #[]] 97)
 rcases four b1 b2 b3 b4 with rfl | ⟨rfl, rfl⟩ | ⟨rfl, rfl, rfl⟩ | ⟨rfl, rfl, rfl, rfl⟩ | ⟨rfl, rfl, rfl, rfl⟩
 ·go_enter Tryd.func54, Tryd.ntmps54
  go_wp2_with fail
  refine (H1.out _).mono ?_
  rintro e w1 ⟨rfl, hb1⟩
  have HB1 := hid_intro (HB0.out.trans (hb1.mono HB0.out.size))
  have HX1 := hid_intro (HX0.out.below hb1)
  clear hb1
  go_wp2_with fail
  go_ret
  exact ⟨rfl, HB1.out⟩
 ·go_enter Tryd.func54, Tryd.ntmps54
  go_wp2_with fail
  refine (H1.out _).mono ?_
  rintro e w1 ⟨rfl, hb1⟩
  have HB1 := hid_intro (HB0.out.trans (hb1.mono HB0.out.size))
  have HX1 := hid_intro (HX0.out.below hb1)
  clear hb1
  obtain ⟨xl, xc⟩ := HX1.out
  have y0 : w1.cell? ⟨w.heap.size, 0, none⟩ = some (.string a) := xc 0 (by simp)
  have y1 : w1.cell? ⟨w.heap.size, 1, none⟩ = some (.string m) := xc 1 (by simp)
  have y2 : w1.cell? ⟨w.heap.size, 2, none⟩ = some (.int .i64 mo) := xc 2 (by simp)
  have y3 : w1.cell? ⟨w.heap.size, 3, none⟩ = some (.int .i64 ev) := xc 3 (by simp)
  have y4 : w1.cell? ⟨w.heap.size, 4, none⟩ = some (.int .i64 su) := xc 4 (by simp)
  have y5 : w1.cell? ⟨w.heap.size, 5, none⟩ = some (.int .i64 mx) := xc 5 (by simp)
  have y6 : w1.cell? ⟨w.heap.size, 6, none⟩ = some (.slice ta tl tc) := xc 6 (by simp)
  have y7 : w1.cell? ⟨w.heap.size, 7, none⟩ = some (.func (.func 88) #[] #[]) := xc 7 (by simp)
  have y8 : w1.cell? ⟨w.heap.size, 8, none⟩ = some (.func (.func 89) #[] #[]) := xc 8 (by simp)
  have y9 : w1.cell? ⟨w.heap.size, 9, none⟩ = some (.slice ha hl hc) := xc 9 (by simp)
  have y10 : w1.cell? ⟨w.heap.size, 10, none⟩ = some (.func (.func 90) #[] #[]) := xc 10 (by simp)
  have y11 : w1.cell? ⟨w.heap.size, 11, none⟩ = some (.func (.func 91) #[] #[]) := xc 11 (by simp)
  clear xc
  go_wp2_with fail
  refine (H2.out _).mono ?_
  rintro e w2 ⟨rfl, hb2⟩
  have HB2 := hid_intro (HB1.out.trans (hb2.mono HB1.out.size))
  have HX2 := hid_intro (HX1.out.below hb2)
  clear hb2
  go_wp2_with fail
  go_ret
  exact ⟨rfl, HB2.out⟩
 ·go_enter Tryd.func54, Tryd.ntmps54
  go_wp2_with fail
  refine (H1.out _).mono ?_
  rintro e w1 ⟨rfl, hb1⟩
  have HB1 := hid_intro (HB0.out.trans (hb1.mono HB0.out.size))
  have HX1 := hid_intro (HX0.out.below hb1)
  clear hb1
  obtain ⟨xl, xc⟩ := HX1.out
  have y0 : w1.cell? ⟨w.heap.size, 0, none⟩ = some (.string a) := xc 0 (by simp)
  have y1 : w1.cell? ⟨w.heap.size, 1, none⟩ = some (.string m) := xc 1 (by simp)
  have y2 : w1.cell? ⟨w.heap.size, 2, none⟩ = some (.int .i64 mo) := xc 2 (by simp)
  have y3 : w1.cell? ⟨w.heap.size, 3, none⟩ = some (.int .i64 ev) := xc 3 (by simp)
  have y4 : w1.cell? ⟨w.heap.size, 4, none⟩ = some (.int .i64 su) := xc 4 (by simp)
  have y5 : w1.cell? ⟨w.heap.size, 5, none⟩ = some (.int .i64 mx) := xc 5 (by simp)
  have y6 : w1.cell? ⟨w.heap.size, 6, none⟩ = some (.slice ta tl tc) := xc 6 (by simp)
  have y7 : w1.cell? ⟨w.heap.size, 7, none⟩ = some (.func (.func 88) #[] #[]) := xc 7 (by simp)
  have y8 : w1.cell? ⟨w.heap.size, 8, none⟩ = some (.func (.func 89) #[] #[]) := xc 8 (by simp)
  have y9 : w1.cell? ⟨w.heap.size, 9, none⟩ = some (.slice ha hl hc) := xc 9 (by simp)
  have y10 : w1.cell? ⟨w.heap.size, 10, none⟩ = some (.func (.func 90) #[] #[]) := xc 10 (by simp)
  have y11 : w1.cell? ⟨w.heap.size, 11, none⟩ = some (.func (.func 91) #[] #[]) := xc 11 (by simp)
  clear xc
  go_wp2_with fail
  refine (H2.out _).mono ?_
  rintro e w2 ⟨rfl, hb2⟩
  have HB2 := hid_intro (HB1.out.trans (hb2.mono HB1.out.size))
  have HX2 := hid_intro (HX1.out.below hb2)
  clear hb2
  clear y0 y1 y2 y3 y4 y5 y6 y7 y8 y9 y10 y11
  obtain ⟨xl, xc⟩ := HX2.out
  have y0 : w2.cell? ⟨w.heap.size, 0, none⟩ = some (.string a) := xc 0 (by simp)
  have y1 : w2.cell? ⟨w.heap.size, 1, none⟩ = some (.string m) := xc 1 (by simp)
  have y2 : w2.cell? ⟨w.heap.size, 2, none⟩ = some (.int .i64 mo) := xc 2 (by simp)
  have y3 : w2.cell? ⟨w.heap.size, 3, none⟩ = some (.int .i64 ev) := xc 3 (by simp)
  have y4 : w2.cell? ⟨w.heap.size, 4, none⟩ = some (.int .i64 su) := xc 4 (by simp)
  have y5 : w2.cell? ⟨w.heap.size, 5, none⟩ = some (.int .i64 mx) := xc 5 (by simp)
  have y6 : w2.cell? ⟨w.heap.size, 6, none⟩ = some (.slice ta tl tc) := xc 6 (by simp)
  have y7 : w2.cell? ⟨w.heap.size, 7, none⟩ = some (.func (.func 88) #[] #[]) := xc 7 (by simp)
  have y8 : w2.cell? ⟨w.heap.size, 8, none⟩ = some (.func (.func 89) #[] #[]) := xc 8 (by simp)
  have y9 : w2.cell? ⟨w.heap.size, 9, none⟩ = some (.slice ha hl hc) := xc 9 (by simp)
  have y10 : w2.cell? ⟨w.heap.size, 10, none⟩ = some (.func (.func 90) #[] #[]) := xc 10 (by simp)
  have y11 : w2.cell? ⟨w.heap.size, 11, none⟩ = some (.func (.func 91) #[] #[]) := xc 11 (by simp)
  clear xc
  go_wp2_with fail
  refine (H3.out _ HB2.out).mono ?_
  rintro e w3 ⟨rfl, hb3⟩
  have HB3 := hid_intro (HB2.out.trans (hb3.mono HB2.out.size))
  have HX3 := hid_intro (HX2.out.below hb3)
  clear hb3
  go_wp2_with fail
  go_ret
  exact ⟨rfl, HB3.out⟩
 ·go_enter Tryd.func54, Tryd.ntmps54
  go_wp2_with fail
  refine (H1.out _).mono ?_
  rintro e w1 ⟨rfl, hb1⟩
  have HB1 := hid_intro (HB0.out.trans (hb1.mono HB0.out.size))
  have HX1 := hid_intro (HX0.out.below hb1)
  clear hb1
  obtain ⟨xl, xc⟩ := HX1.out
  have y0 : w1.cell? ⟨w.heap.size, 0, none⟩ = some (.string a) := xc 0 (by simp)
  have y1 : w1.cell? ⟨w.heap.size, 1, none⟩ = some (.string m) := xc 1 (by simp)
  have y2 : w1.cell? ⟨w.heap.size, 2, none⟩ = some (.int .i64 mo) := xc 2 (by simp)
  have y3 : w1.cell? ⟨w.heap.size, 3, none⟩ = some (.int .i64 ev) := xc 3 (by simp)
  have y4 : w1.cell? ⟨w.heap.size, 4, none⟩ = some (.int .i64 su) := xc 4 (by simp)
  have y5 : w1.cell? ⟨w.heap.size, 5, none⟩ = some (.int .i64 mx) := xc 5 (by simp)
  have y6 : w1.cell? ⟨w.heap.size, 6, none⟩ = some (.slice ta tl tc) := xc 6 (by simp)
  have y7 : w1.cell? ⟨w.heap.size, 7, none⟩ = some (.func (.func 88) #[] #[]) := xc 7 (by simp)
  have y8 : w1.cell? ⟨w.heap.size, 8, none⟩ = some (.func (.func 89) #[] #[]) := xc 8 (by simp)
  have y9 : w1.cell? ⟨w.heap.size, 9, none⟩ = some (.slice ha hl hc) := xc 9 (by simp)
  have y10 : w1.cell? ⟨w.heap.size, 10, none⟩ = some (.func (.func 90) #[] #[]) := xc 10 (by simp)
  have y11 : w1.cell? ⟨w.heap.size, 11, none⟩ = some (.func (.func 91) #[] #[]) := xc 11 (by simp)
  clear xc
  go_wp2_with fail
  refine (H2.out _).mono ?_
  rintro e w2 ⟨rfl, hb2⟩
  have HB2 := hid_intro (HB1.out.trans (hb2.mono HB1.out.size))
  have HX2 := hid_intro (HX1.out.below hb2)
  clear hb2
  clear y0 y1 y2 y3 y4 y5 y6 y7 y8 y9 y10 y11
  obtain ⟨xl, xc⟩ := HX2.out
  have y0 : w2.cell? ⟨w.heap.size, 0, none⟩ = some (.string a) := xc 0 (by simp)
  have y1 : w2.cell? ⟨w.heap.size, 1, none⟩ = some (.string m) := xc 1 (by simp)
  have y2 : w2.cell? ⟨w.heap.size, 2, none⟩ = some (.int .i64 mo) := xc 2 (by simp)
  have y3 : w2.cell? ⟨w.heap.size, 3, none⟩ = some (.int .i64 ev) := xc 3 (by simp)
  have y4 : w2.cell? ⟨w.heap.size, 4, none⟩ = some (.int .i64 su) := xc 4 (by simp)
  have y5 : w2.cell? ⟨w.heap.size, 5, none⟩ = some (.int .i64 mx) := xc 5 (by simp)
  have y6 : w2.cell? ⟨w.heap.size, 6, none⟩ = some (.slice ta tl tc) := xc 6 (by simp)
  have y7 : w2.cell? ⟨w.heap.size, 7, none⟩ = some (.func (.func 88) #[] #[]) := xc 7 (by simp)
  have y8 : w2.cell? ⟨w.heap.size, 8, none⟩ = some (.func (.func 89) #[] #[]) := xc 8 (by simp)
  have y9 : w2.cell? ⟨w.heap.size, 9, none⟩ = some (.slice ha hl hc) := xc 9 (by simp)
  have y10 : w2.cell? ⟨w.heap.size, 10, none⟩ = some (.func (.func 90) #[] #[]) := xc 10 (by simp)
  have y11 : w2.cell? ⟨w.heap.size, 11, none⟩ = some (.func (.func 91) #[] #[]) := xc 11 (by simp)
  clear xc
  go_wp2_with fail
  refine (H3.out _ HB2.out).mono ?_
  rintro e w3 ⟨rfl, hb3⟩
  have HB3 := hid_intro (HB2.out.trans (hb3.mono HB2.out.size))
  have HX3 := hid_intro (HX2.out.below hb3)
  clear hb3
  clear y0 y1 y2 y3 y4 y5 y6 y7 y8 y9 y10 y11
  obtain ⟨xl, xc⟩ := HX3.out
  have y0 : w3.cell? ⟨w.heap.size, 0, none⟩ = some (.string a) := xc 0 (by simp)
  have y1 : w3.cell? ⟨w.heap.size, 1, none⟩ = some (.string m) := xc 1 (by simp)
  have y2 : w3.cell? ⟨w.heap.size, 2, none⟩ = some (.int .i64 mo) := xc 2 (by simp)
  have y3 : w3.cell? ⟨w.heap.size, 3, none⟩ = some (.int .i64 ev) := xc 3 (by simp)
  have y4 : w3.cell? ⟨w.heap.size, 4, none⟩ = some (.int .i64 su) := xc 4 (by simp)
  have y5 : w3.cell? ⟨w.heap.size, 5, none⟩ = some (.int .i64 mx) := xc 5 (by simp)
  have y6 : w3.cell? ⟨w.heap.size, 6, none⟩ = some (.slice ta tl tc) := xc 6 (by simp)
  have y7 : w3.cell? ⟨w.heap.size, 7, none⟩ = some (.func (.func 88) #[] #[]) := xc 7 (by simp)
  have y8 : w3.cell? ⟨w.heap.size, 8, none⟩ = some (.func (.func 89) #[] #[]) := xc 8 (by simp)
  have y9 : w3.cell? ⟨w.heap.size, 9, none⟩ = some (.slice ha hl hc) := xc 9 (by simp)
  have y10 : w3.cell? ⟨w.heap.size, 10, none⟩ = some (.func (.func 90) #[] #[]) := xc 10 (by simp)
  have y11 : w3.cell? ⟨w.heap.size, 11, none⟩ = some (.func (.func 91) #[] #[]) := xc 11 (by simp)
  clear xc
  go_wp2_with fail
  refine (H4.out (by first | rfl | trivial) _ HB3.out).mono ?_
  rintro e w4 ⟨rfl, hb4⟩
  have HB4 := hid_intro (HB3.out.trans (hb4.mono HB3.out.size))
  have HX4 := hid_intro (HX3.out.below hb4)
  clear hb4
  go_wp2_with fail
  go_ret
  exact ⟨rfl, HB4.out⟩
 ·go_enter Tryd.func54, Tryd.ntmps54
  go_wp2_with fail
  refine (H1.out _).mono ?_
  rintro e w1 ⟨rfl, hb1⟩
  have HB1 := hid_intro (HB0.out.trans (hb1.mono HB0.out.size))
  have HX1 := hid_intro (HX0.out.below hb1)
  clear hb1
  obtain ⟨xl, xc⟩ := HX1.out
  have y0 : w1.cell? ⟨w.heap.size, 0, none⟩ = some (.string a) := xc 0 (by simp)
  have y1 : w1.cell? ⟨w.heap.size, 1, none⟩ = some (.string m) := xc 1 (by simp)
  have y2 : w1.cell? ⟨w.heap.size, 2, none⟩ = some (.int .i64 mo) := xc 2 (by simp)
  have y3 : w1.cell? ⟨w.heap.size, 3, none⟩ = some (.int .i64 ev) := xc 3 (by simp)
  have y4 : w1.cell? ⟨w.heap.size, 4, none⟩ = some (.int .i64 su) := xc 4 (by simp)
  have y5 : w1.cell? ⟨w.heap.size, 5, none⟩ = some (.int .i64 mx) := xc 5 (by simp)
  have y6 : w1.cell? ⟨w.heap.size, 6, none⟩ = some (.slice ta tl tc) := xc 6 (by simp)
  have y7 : w1.cell? ⟨w.heap.size, 7, none⟩ = some (.func (.func 88) #[] #[]) := xc 7 (by simp)
  have y8 : w1.cell? ⟨w.heap.size, 8, none⟩ = some (.func (.func 89) #[] #[]) := xc 8 (by simp)
  have y9 : w1.cell? ⟨w.heap.size, 9, none⟩ = some (.slice ha hl hc) := xc 9 (by simp)
  have y10 : w1.cell? ⟨w.heap.size, 10, none⟩ = some (.func (.func 90) #[] #[]) := xc 10 (by simp)
  have y11 : w1.cell? ⟨w.heap.size, 11, none⟩ = some (.func (.func 91) #[] #[]) := xc 11 (by simp)
  clear xc
  go_wp2_with fail
  refine (H2.out _).mono ?_
  rintro e w2 ⟨rfl, hb2⟩
  have HB2 := hid_intro (HB1.out.trans (hb2.mono HB1.out.size))
  have HX2 := hid_intro (HX1.out.below hb2)
  clear hb2
  clear y0 y1 y2 y3 y4 y5 y6 y7 y8 y9 y10 y11
  obtain ⟨xl, xc⟩ := HX2.out
  have y0 : w2.cell? ⟨w.heap.size, 0, none⟩ = some (.string a) := xc 0 (by simp)
  have y1 : w2.cell? ⟨w.heap.size, 1, none⟩ = some (.string m) := xc 1 (by simp)
  have y2 : w2.cell? ⟨w.heap.size, 2, none⟩ = some (.int .i64 mo) := xc 2 (by simp)
  have y3 : w2.cell? ⟨w.heap.size, 3, none⟩ = some (.int .i64 ev) := xc 3 (by simp)
  have y4 : w2.cell? ⟨w.heap.size, 4, none⟩ = some (.int .i64 su) := xc 4 (by simp)
  have y5 : w2.cell? ⟨w.heap.size, 5, none⟩ = some (.int .i64 mx) := xc 5 (by simp)
  have y6 : w2.cell? ⟨w.heap.size, 6, none⟩ = some (.slice ta tl tc) := xc 6 (by simp)
  have y7 : w2.cell? ⟨w.heap.size, 7, none⟩ = some (.func (.func 88) #[] #[]) := xc 7 (by simp)
  have y8 : w2.cell? ⟨w.heap.size, 8, none⟩ = some (.func (.func 89) #[] #[]) := xc 8 (by simp)
  have y9 : w2.cell? ⟨w.heap.size, 9, none⟩ = some (.slice ha hl hc) := xc 9 (by simp)
  have y10 : w2.cell? ⟨w.heap.size, 10, none⟩ = some (.func (.func 90) #[] #[]) := xc 10 (by simp)
  have y11 : w2.cell? ⟨w.heap.size, 11, none⟩ = some (.func (.func 91) #[] #[]) := xc 11 (by simp)
  clear xc
  go_wp2_with fail
  refine (H3.out _ HB2.out).mono ?_
  rintro e w3 ⟨rfl, hb3⟩
  have HB3 := hid_intro (HB2.out.trans (hb3.mono HB2.out.size))
  have HX3 := hid_intro (HX2.out.below hb3)
  clear hb3
  clear y0 y1 y2 y3 y4 y5 y6 y7 y8 y9 y10 y11
  obtain ⟨xl, xc⟩ := HX3.out
  have y0 : w3.cell? ⟨w.heap.size, 0, none⟩ = some (.string a) := xc 0 (by simp)
  have y1 : w3.cell? ⟨w.heap.size, 1, none⟩ = some (.string m) := xc 1 (by simp)
  have y2 : w3.cell? ⟨w.heap.size, 2, none⟩ = some (.int .i64 mo) := xc 2 (by simp)
  have y3 : w3.cell? ⟨w.heap.size, 3, none⟩ = some (.int .i64 ev) := xc 3 (by simp)
  have y4 : w3.cell? ⟨w.heap.size, 4, none⟩ = some (.int .i64 su) := xc 4 (by simp)
  have y5 : w3.cell? ⟨w.heap.size, 5, none⟩ = some (.int .i64 mx) := xc 5 (by simp)
  have y6 : w3.cell? ⟨w.heap.size, 6, none⟩ = some (.slice ta tl tc) := xc 6 (by simp)
  have y7 : w3.cell? ⟨w.heap.size, 7, none⟩ = some (.func (.func 88) #[] #[]) := xc 7 (by simp)
  have y8 : w3.cell? ⟨w.heap.size, 8, none⟩ = some (.func (.func 89) #[] #[]) := xc 8 (by simp)
  have y9 : w3.cell? ⟨w.heap.size, 9, none⟩ = some (.slice ha hl hc) := xc 9 (by simp)
  have y10 : w3.cell? ⟨w.heap.size, 10, none⟩ = some (.func (.func 90) #[] #[]) := xc 10 (by simp)
  have y11 : w3.cell? ⟨w.heap.size, 11, none⟩ = some (.func (.func 91) #[] #[]) := xc 11 (by simp)
  clear xc
  go_wp2_with fail
  refine (H4.out (by first | rfl | trivial) _ HB3.out).mono ?_
  rintro e w4 ⟨rfl, hb4⟩
  have HB4 := hid_intro (HB3.out.trans (hb4.mono HB3.out.size))
  have HX4 := hid_intro (HX3.out.below hb4)
  clear hb4
  go_wp2_with fail
  go_ret
  exact ⟨rfl, HB4.out⟩
theorem impl_right (a m : ByteArray) (mo ev su mx : Int) (ts : List ByteArray) (hs : List H) (ta : Option Addr) (tc : Nat) (ha : Option Addr) (hc : Nat) (w : World) (h1 : a.size ≤ 1048576) (h2 : m.size ≤ 1048576) (h3 : ts.length ≤ 1048576) (h4 : ∀ t ∈ ts, t.size ≤ 1048576) (h5 : hs.length ≤ 1048576) (hL : Laid w) (hT : Tgs ta ts w) (hH : Hrs ha hs w) :
  Calls Tryd.prog 54 #[.agg #[.string a, .string m, .int .i64 mo, .int .i64 ev, .int .i64 su, .int .i64 mx, .slice ta ts.length tc, .func (.func 88) #[] #[], .func (.func 89) #[] #[], .slice ha hs.length hc, .func (.func 90) #[] #[], .func (.func 91) #[] #[]]] w fun e w' => e = .returned (.bool (wB ⟨a, m, mo, ev, su, mx, ts, hs⟩)) ∧ Below w.heap.size w w' :=
 right_in a m mo ev su mx ta ts.length tc ha hs.length hc _ _ _ _ w (fun W => impl_named a m mo W h1 h2) (fun W => impl_counted ev su mx W) (fun W hW => impl_tagged a m mo ev su mx ts ta tc _ W h3 h4 (hT.below hW)) (fun hc W hW => impl_timed a m mo ev su mx hs _ ha _ W h5 (counted_su hc).2.1 (hL.below hW) (hH.below hW))
theorem impl_window_right (x : Wd) (ta : Option Addr) (tc : Nat) (ha : Option Addr) (hc : Nat) (w : World) (h1 : x.a.size ≤ 1048576) (h2 : x.m.size ≤ 1048576) (h3 : x.ts.length ≤ 1048576) (h4 : ∀ t ∈ x.ts, t.size ≤ 1048576) (h5 : x.hs.length ≤ 1048576) (hL : Laid w) (hT : Tgs ta x.ts w) (hH : Hrs ha x.hs w) :
  Calls Tryd.prog 40 #[.agg (wcells x ta tc ha hc)] w fun e w' => e = .returned (.bool (wB x)) ∧ Below w.heap.size w w' := by
 obtain ⟨a, m, mo, ev, su, mx, ts, hs⟩ := x
 dsimp only at *
 have H1 := hid_intro (fun W => impl_usage a m mo ev su mx ta ts.length tc ha hs.length hc W)
 have H2 := hid_intro (fun W (hW : Below w.heap.size w W) => impl_right a m mo ev su mx ts hs ta tc ha hc W h1 h2 h3 h4 h5 (hL.below hW) (hT.below hW) (hH.below hW))
 unfold wcells
 dsimp only
 generalize wB ⟨a, m, mo, ev, su, mx, ts, hs⟩ = R at *
 generalize ts.length = tl at *
 generalize hs.length = hl at *
 clear hL hT hH h4
 have HB0 : Hid (Below w.heap.size w (w.alloc (.cells #[.string a, .string m, .int .i64 mo, .int .i64 ev, .int .i64 su, .int .i64 mx, .slice ta tl tc, .slice ha hl hc] 32))) := hid_intro ((Below.refl _ _).alloc (Nat.le_refl _) _)
 go_enter Tryd.func40, Tryd.ntmps40
 go_wp2_with fail
 refine (H1.out _).mono ?_
 rintro e w1 ⟨rfl, hb1⟩
 have HB1 := hid_intro (HB0.out.trans (hb1.mono HB0.out.size))
 clear hb1
 go_wp2_with fail
 refine (H2.out _ HB1.out).mono ?_
 rintro e w2 ⟨rfl, hb2⟩
 have HB2 := hid_intro (HB1.out.trans (hb2.mono HB1.out.size))
 clear hb2
 go_wp2_with fail
 go_ret
 exact ⟨rfl, HB2.out⟩
end WinR
end Go.Proofs.YtnlmpejgiakepaaDoor
namespace Go.Proofs.YtnlmpejgiakepaaDoor
open Go.ChangeShapes Go.WideShapes Go.ChangeAt Go.RowKit
set_option linter.unusedVariables false
namespace WinR
open RowG LtR
theorem tag_word (X : ByteArray) : (WordR.printB X && decide ((X.size : Int) ≤ 10)) = EvtR.tagB X := by
 unfold EvtR.tagB
 rw [Bool.and_comm]
 congr 1
 exact decide_eq_decide.2 (by omega)
theorem ok_none {X : ByteArray} (h : X.size = 0) : tagOk X = false := by unfold tagOk; rw [decide_eq_false (by omega), Bool.false_and]
theorem ok_some {X : ByteArray} (h : X.size ≠ 0) : tagOk X = EvtR.tagB X := by unfold tagOk; rw [decide_eq_true (by omega), Bool.true_and]
set_option maxRecDepth 100000 in
set_option maxHeartbeats 4000000 in
theorem spec_tags (ao : Option Addr) (cap : Nat) (ts : List ByteArray) (w : World) (hlen : ts.length ≤ 1048576) (hS : ∀ t ∈ ts, t.size ≤ 1048576) (hI : Tgs ao ts w) :
  Calls Tryd.prog 44 #[.slice ao ts.length cap] w fun e w' => e = .returned (.bool (tagsB ts)) ∧ Below w.heap.size w w' := by
 have HI := hid_intro hI
 have HS := hid_intro hS
 have HBA := hid_intro (fun k => tags_bad (ts := ts) (k := k))
 have HDO := hid_intro (tags_done (ts := ts))
 generalize tagsB ts = R at *
 obtain ⟨len, hl⟩ : ∃ len, len = ts.length := ⟨_, rfl⟩
 rw [← hl] at hlen ⊢
 have HL := hid_intro hl
 clear hI hl hS
 go_enter Tryd.func44, Tryd.ntmps44
 go_wp2_with fail
 go_loopw [3] (fun z wr => ∃ k : Nat, k ≤ len ∧ z = .int .i64 k ∧ Hid (TUp ts k) ∧ Hid (Below w.heap.size w wr)) (fun z _ => len - (intOf z).toNat)
 case atStart => exact ⟨0, by omega, rfl, hid_intro (TUp.zero ts), hid_intro (Below.refl _ _)⟩
 case round =>
  obtain ⟨k, hk, rfl, HK, HB⟩ := hrel
  by_cases hlt : k < len
  ·have hlt2 : (k : Int) < (len : Int) := by omega
   have hkl : k < ts.length := by have := HL.out; omega
   obtain ⟨b, off, rfl, hbl, c0⟩ := (HI.out.below HB.out).at k hkl
   have hsz := HS.out _ (getD_mem (z := tz) ts k hkl)
   have H1 := hid_intro (fun w => WordR.spec_word (ts.getD k tz) 10 w hsz)
   rw [tag_word] at H1
   have HB1 := hid_intro (fun h => HBA.out k hkl (.inl h))
   have HB2 := hid_intro (fun h0 h => HBA.out k hkl (.inr ⟨h0, h⟩))
   have HM := hid_intro (fun h1 h2 => HK.out.more hkl h1 h2)
   have HO0 := hid_intro (ok_none (X := ts.getD k tz))
   have HO1 := hid_intro (ok_some (X := ts.getD k tz))
   rcases (show k = 0 ∨ ∃ j, j + 1 = k from by rcases k with _ | j; exact .inl rfl; exact .inr ⟨j, rfl⟩) with rfl | ⟨j, hkj⟩
   ·simp only [Nat.add_zero] at c0
    generalize ts.getD 0 tz = X at *
    by_cases hi : X.size = 0
    ·have he := EvtR.empty_of X hi
     have HR : Hid (R = false) := hid_intro (HB1.out (HO0.out hi))
     go_wp2_with fail
     go_quiet ((go_at_call 46; exact Calls.quiet_of_same (H1.out _)))
     go_wp2_with fail
     go_ret
     exact ⟨ret_bool HR.out.symm, bdN HB.out _⟩
    ·obtain ⟨he, he2⟩ := EvtR.full_of X hi
     have HO2 := hid_intro (HO1.out hi)
     generalize EvtR.tagB X = g at *
     cases g
     ·have HR : Hid (R = false) := hid_intro (HB1.out HO2.out)
      go_wp2_with fail
      go_quiet ((go_at_call 46; exact Calls.quiet_of_same (H1.out _)))
      go_wp2_with fail
      go_ret
      exact ⟨ret_bool HR.out.symm, bdN HB.out _⟩
     ·have HM2 := hid_intro (HM.out HO2.out (fun h => absurd h (by omega)))
      go_wp2_with fail
      go_quiet ((go_at_call 46; exact Calls.quiet_of_same (H1.out _)))
      go_wp2_with fail
      go_roundw
      case rel => exact ⟨0 + 1, by omega, by go_num, HM2, hid_intro (bdN HB.out _)⟩
      case measure => simp [intOf]; omega
   ·obtain ⟨b', off', hbo, hbl', d0⟩ := (HI.out.below HB.out).at j (by omega)
    obtain ⟨rfl, rfl⟩ : b = b' ∧ off = off' := by simpa using hbo
    have hj1 : IntKind.i64.wrap ((k : Int) - 1) = (j : Int) := by rw [IntKind.wrap_i64]; omega
    have hj2 : 0 < k := by omega
    have hj3 : (j : Int) < (len : Int) := by omega
    rw [show k - 1 = j by omega] at HB2 HM
    clear hbl' hbo hkj
    generalize ts.getD k tz = X at *
    generalize ts.getD j tz = Y at *
    by_cases hi : X.size = 0
    ·have he := EvtR.empty_of X hi
     have HR : Hid (R = false) := hid_intro (HB1.out (HO0.out hi))
     go_wp2_with fail
     go_quiet ((go_at_call 46; exact Calls.quiet_of_same (H1.out _)))
     go_wp2_with fail
     go_ret
     exact ⟨ret_bool HR.out.symm, bdN HB.out _⟩
    ·obtain ⟨he, he2⟩ := EvtR.full_of X hi
     have HO2 := hid_intro (HO1.out hi)
     generalize EvtR.tagB X = g at *
     cases g
     ·have HR : Hid (R = false) := hid_intro (HB1.out HO2.out)
      go_wp2_with fail
      go_quiet ((go_at_call 46; exact Calls.quiet_of_same (H1.out _)))
      go_wp2_with fail
      go_ret
      exact ⟨ret_bool HR.out.symm, bdN HB.out _⟩
     ·cases hq : Op.bytesLess Y.toList X.toList
      ·have HR : Hid (R = false) := hid_intro (HB2.out hj2 hq)
       go_wp2_with fail
       go_quiet ((go_at_call 46; exact Calls.quiet_of_same (H1.out _)))
       go_wp2_with fail
       go_ret
       exact ⟨ret_bool HR.out.symm, bdN HB.out _⟩
      ·have HM2 := hid_intro (HM.out HO2.out (fun _ => hq))
       go_wp2_with fail
       go_quiet ((go_at_call 46; exact Calls.quiet_of_same (H1.out _)))
       go_wp2_with fail
       go_roundw
       case rel => exact ⟨k + 1, by omega, by go_num, HM2, hid_intro (bdN HB.out _)⟩
       case measure => simp [intOf]; omega
  ·have hlt2 : ¬ (k : Int) < (len : Int) := by omega
   obtain rfl : k = len := by omega
   have HR : Hid (R = decide (k ≤ 12)) := hid_intro (by rw [HDO.out (by rw [← HL.out]; exact HK.out), ← HL.out])
   by_cases h12 : k ≤ 12
   ·rw [decide_eq_true h12] at HR
    have h12' : (k : Int) ≤ 12 := by omega
    go_wp2_with fail
    go_ret
    exact ⟨ret_bool HR.out.symm, HB.out⟩
   ·rw [decide_eq_false h12] at HR
    have h12' : ¬ (k : Int) ≤ 12 := by omega
    go_wp2_with fail
    go_ret
    exact ⟨ret_bool HR.out.symm, HB.out⟩
end WinR
end Go.Proofs.YtnlmpejgiakepaaDoor
namespace Go.Proofs.YtnlmpejgiakepaaDoor
open Go.ChangeShapes Go.WideShapes Go.ChangeAt Go.RowKit
/-- A world that holds some facts. -/
structure HW (S : World → Prop) where
 w : World
 h : S w
theorem wp_region_hw {P : Program} {id : Nat} {Q : Exit → Act → World → Prop} {a : Act} {w : World} {l : List Oper} (S : World → Prop) (hm : P.follows .mixedOrders = true) (hB : Region.lexB .any l.toArray = true) (hC : S w.drew)
  (h : wpQuiet P l.toArray (fun w' => ∃ s : HW S, w' = s.w) (fun a' => ∀ w', (∃ s : HW S, w' = s.w) → Q .normal a' w') l a) : (Code.region id l.toArray true).wp P Q a w :=
 wp_region_quiet (C := fun w' => ∃ s : HW S, w' = s.w) hm hB ⟨⟨_, hC⟩, rfl⟩ (by simpa using h)
end Go.Proofs.YtnlmpejgiakepaaDoor
namespace Go.Proofs.YtnlmpejgiakepaaDoor
open Go.ChangeShapes Go.WideShapes Go.ChangeAt Go.RowKit
set_option linter.unusedVariables false
namespace WinR
open RowG LtR
/-- What the round reads. -/
def SHt (w : World) (b o o' : Nat) (x y : H) (W : World) : Prop := Below w.heap.size w W ∧ b < W.heap.size ∧ W.cell? ⟨b, o, none⟩ = some (.int .i64 x.h) ∧ W.cell? ⟨b, o + 1, none⟩ = some (.int .i64 x.s) ∧ W.cell? ⟨b, o', none⟩ = some (.int .i64 y.h)
theorem SHt.below {w : World} {b o o' : Nat} {x y : H} {W W' : World} (h : SHt w b o o' x y W) (hb : Below W.heap.size W W') : SHt w b o o' x y W' := by
 obtain ⟨h0, h1, c0, c1, c2⟩ := h
 have c := fun o => hb.cell (p := ⟨b, o, none⟩) h1
 have := hb.size
 exact ⟨h0.trans (hb.mono h0.size), by omega, (c _).trans c0, (c _).trans c1, (c _).trans c2⟩
/-- What is told of an hour, the model's way: not in its limits, of another month, not rising, a sum that may not be. -/
theorem ok_far {mo su : Int} {x : H} (h : ¬ (0 ≤ x.h ∧ x.h ≤ 2016666)) : hOk mo su x = false := by unfold hOk; rw [hour_far h, Bool.false_and]
theorem ok_in {mo su : Int} {x : H} {v : Int} {k : Nat} (h1 : 0 ≤ x.h) (h2 : x.h ≤ 2016666) (hv : v = (k : Int)) (f1 : DateM.fd k ≤ 60 * x.h / 1440) (f2 : 60 * x.h / 1440 < DateM.fd (k + 1)) : hOk mo su x = (decide (v = mo) && decide (0 ≤ x.s ∧ x.s ≤ su)) := by
 unfold hOk
 rw [hour_month h1 h2 k hv f1 f2]
theorem is_any (n low high : Int) (w : World) :
  Calls Tryd.prog 43 #[.int .i64 n, .int .i64 low, .int .i64 high] w fun e w' => e = .returned (.bool (decide (low ≤ n ∧ n ≤ high))) ∧ Below w.heap.size w w' :=
 (EvtR.is_any n low high w).mono fun e w' ⟨h1, h2⟩ => by subst h2; exact ⟨h1, Below.refl _ _⟩
theorem is_lit (n low high : Int) (b : Bool) (hb : b = decide (low ≤ n ∧ n ≤ high)) (w : World) :
  Calls Tryd.prog 43 #[.int .i64 n, .int .i64 low, .int .i64 high] w fun e w' => e = .returned (.bool b) ∧ Below w.heap.size w w' := by
 rw [hb]; exact is_any n low high w
set_option maxRecDepth 100000 in
set_option maxHeartbeats 8000000 in
theorem spec_hours (ao : Option Addr) (cap : Nat) (hs : List H) (mo su : Int) (w : World) (hlen : hs.length ≤ 12) (hsu : 0 ≤ su ∧ su ≤ 1000000000000) (hI : Hrs ao hs w) :
  Calls Tryd.prog 45 #[.slice ao hs.length cap, .int .i64 mo, .int .i64 su] w fun e w' => e = .returned (.bool (hoursB hs mo su)) ∧ Below w.heap.size w w' := by
 have HI := hid_intro hI
 have HBA := hid_intro (fun k => hours_bad (hs := hs) (mo := mo) (su := su) (k := k))
 have HDO := hid_intro (hours_done (hs := hs) (mo := mo) (su := su))
 generalize hoursB hs mo su = R at *
 obtain ⟨len, hl⟩ : ∃ len, len = hs.length := ⟨_, rfl⟩
 rw [← hl] at hlen ⊢
 have HL := hid_intro hl
 obtain ⟨hs0, hs1⟩ := hsu
 clear hI hl
 go_enter Tryd.func45, Tryd.ntmps45
 go_wp2_with fail
 go_loopw [7, 8] (fun y z wr => ∃ k : Nat, k ≤ len ∧ y = .int .i64 (hsum (hs.take k)) ∧ z = .int .i64 k ∧ Hid (SUp hs mo su k) ∧ Hid (Below w.heap.size w wr)) (fun y z _ => len - (intOf z).toNat)
 case atStart => exact ⟨0, by omega, by simp [hsum], rfl, hid_intro (SUp.zero hs mo su), hid_intro (Below.refl _ _)⟩
 case round =>
  obtain ⟨k, hk, rfl, rfl, HK, HB⟩ := hrel
  by_cases hlt1 : k < len
  ·have hlt2 : (k : Int) < (len : Int) := by omega
   have hkl : k < hs.length := by have := HL.out; omega
   have HSS := hid_intro (HK.out.sum hs0 (by omega))
   have hT0 : 0 ≤ hsum (hs.take k) := HSS.out.1
   have hT1 : hsum (hs.take k) ≤ 12000000000000 := by
    have h1 := HSS.out.2
    have h2 : su * (k : Int) ≤ 1000000000000 * 12 := Int.mul_le_mul hs1 (by omega) (by omega) (by omega)
    omega
   have HST := hid_intro (hsum_take hs k hkl)
   obtain ⟨b, off, rfl, hbl, c0, c1⟩ := (HI.out.below HB.out).at k hkl
   have HB1 := hid_intro (fun h => HBA.out k hkl (.inl h))
   have HB2 := hid_intro (fun h0 h => HBA.out k hkl (.inr ⟨h0, h⟩))
   have HM := hid_intro (fun h1 h2 => HK.out.more hkl h1 h2)
   generalize hsum (hs.take k) = T at *
   rcases (show k = 0 ∨ ∃ j, j + 1 = k from by rcases k with _ | j; exact .inl rfl; exact .inr ⟨j, rfl⟩) with rfl | ⟨j, hkj⟩
   ·simp only [Nat.zero_mul, Nat.add_zero] at c0 c1
    generalize hs.getD 0 H.zero = X at *
    obtain ⟨xh, xs⟩ := X
    dsimp only at c0 c1 HST
    have d0 := c0
    obtain ⟨yh, hyh⟩ : ∃ yh, yh = xh := ⟨_, rfl⟩
    rw [← hyh] at d0
    obtain ⟨ys, hys⟩ : ∃ ys : Int, ys = 0 := ⟨_, rfl⟩
    clear hyh hys
    have HS0 : Hid (SHt w b (off) (off) ⟨xh, xs⟩ ⟨yh, ys⟩ wr) := hid_intro ⟨HB.out, hbl, c0, c1, d0⟩
    obtain ⟨S, hS⟩ : ∃ S : World → Prop, ∀ W, S W ↔ SHt w b (off) (off) ⟨xh, xs⟩ ⟨yh, ys⟩ W := ⟨_, fun _ => Iff.rfl⟩
    have HSC : Hid (∀ s : HW S, SHt w b (off) (off) ⟨xh, xs⟩ ⟨yh, ys⟩ s.w) := hid_intro (fun s => (hS _).1 s.h)
    have HSB : Hid (∀ (s : HW S) w', Below s.w.heap.size s.w w' → S w') := hid_intro (fun s w' hb => (hS _).2 ((HSC.out s).below hb))
    have HSD : Hid (S wr.drew) := hid_intro ((hS _).2 (HS0.out.below (Below.refl _ _).drew))
    have hne : Nonempty (HW S) := ⟨⟨_, HSD.out⟩⟩
    have f0 : ∀ s : HW S, s.w.cell? ⟨b, off, none⟩ = some (.int .i64 xh) := fun s => (HSC.out s).2.2.1
    have f1 : ∀ s : HW S, s.w.cell? ⟨b, off + 1, none⟩ = some (.int .i64 xs) := fun s => (HSC.out s).2.2.2.1
    clear hS
    rcases (show (¬ 0 ≤ xh) ∨ (0 ≤ xh ∧ ¬ xh ≤ 2016666) ∨ (0 ≤ xh ∧ xh ≤ 2016666) by omega) with p1 | ⟨p1, p2⟩ | ⟨p1, p2⟩
    ·have HR : Hid (R = false) := hid_intro (HB1.out (ok_far (fun h => p1 h.1)))
     have HIs1 : Hid (false = decide (0 ≤ xh ∧ xh ≤ 2016666)) := hid_intro (decide_eq_false (by omega)).symm
     have HIs2 := HIs1
     go_wp2_with fail
     refine wp_region_hw S (by kernel_rfl) (by kernel_rfl) HSD.out ?_
     repeat (go_big_quiet_step ((rename_i s; first | (go_at_call 43; refine (is_lit _ _ _ _ (by first | exact HIs1.out | exact HIs2.out) _).mono ?_; rintro e w1 ⟨rfl, hb1⟩; exact ⟨rfl, ⟨w1, HSB.out s w1 hb1⟩, rfl⟩))))
     refine wpQuiet_nil ?_
     intro _ hw'
     obtain ⟨s, hw''⟩ := hw'
     subst hw''
     have HBF := hid_intro (HSC.out s).1
     go_wp2_with fail
     go_ret
     exact ⟨ret_bool HR.out.symm, HBF.out⟩
    ·have HR : Hid (R = false) := hid_intro (HB1.out (ok_far (fun h => p2 h.2)))
     have HIs1 : Hid (false = decide (0 ≤ xh ∧ xh ≤ 2016666)) := hid_intro (decide_eq_false (by omega)).symm
     have HIs2 := HIs1
     go_wp2_with fail
     refine wp_region_hw S (by kernel_rfl) (by kernel_rfl) HSD.out ?_
     repeat (go_big_quiet_step ((rename_i s; first | (go_at_call 43; refine (is_lit _ _ _ _ (by first | exact HIs1.out | exact HIs2.out) _).mono ?_; rintro e w1 ⟨rfl, hb1⟩; exact ⟨rfl, ⟨w1, HSB.out s w1 hb1⟩, rfl⟩))))
     refine wpQuiet_nil ?_
     intro _ hw'
     obtain ⟨s, hw''⟩ := hw'
     subst hw''
     have HBF := hid_intro (HSC.out s).1
     go_wp2_with fail
     go_ret
     exact ⟨ret_bool HR.out.symm, HBF.out⟩
    ·obtain ⟨K, K1, F1, F2, _, hms⟩ := month_two (60 * xh) (by omega) (by omega)
     have HMO := hid_intro hms
     have HOK := hid_intro (ok_in (mo := mo) (su := su) (x := ⟨xh, xs⟩) p1 p2 (v := (K : Int)) rfl F1 F2)
     generalize hn60 : 60 * xh = n at *
     clear hms F1 F2
     have HIs1 : Hid (true = decide (0 ≤ xh ∧ xh ≤ 2016666)) := hid_intro (decide_eq_true ⟨p1, p2⟩).symm
     by_cases hmo : (K : Int) = mo
     ·rw [decide_eq_true hmo, Bool.true_and] at HOK
      have hmo2 : ((K : Int) != mo) = false := by simp [hmo]
      by_cases hin : 0 ≤ xs ∧ xs ≤ su
      ·have HM2 := hid_intro (HM.out (by rw [HOK.out, decide_eq_true hin]) (fun h => absurd h (by omega)))
       have HIs2 : Hid (true = decide (0 ≤ xs ∧ xs ≤ su)) := hid_intro (decide_eq_true hin).symm
       obtain ⟨hin1, hin2⟩ := hin
       go_wp2_with fail
       refine wp_region_hw S (by kernel_rfl) (by kernel_rfl) HSD.out ?_
       repeat (go_big_quiet_step ((rename_i s; first | (go_at_call 43; refine (is_lit _ _ _ _ (by first | exact HIs1.out | exact HIs2.out) _).mono ?_; rintro e w1 ⟨rfl, hb1⟩; exact ⟨rfl, ⟨w1, HSB.out s w1 hb1⟩, rfl⟩) | (go_at_call 51; (try rw [hn60]); refine (HMO.out _).mono ?_; rintro e w1 ⟨rfl, hb1⟩; exact ⟨rfl, ⟨w1, HSB.out s w1 hb1⟩, rfl⟩))))
       refine wpQuiet_nil ?_
       intro _ hw'
       obtain ⟨s, hw''⟩ := hw'
       subst hw''
       have HBF := hid_intro (HSC.out s).1
       go_wp2_with fail
       go_roundw
       case rel => exact ⟨0 + 1, by omega, by rw [HST.out], by go_num, HM2, HBF⟩
       case measure => simp [intOf]; omega
      ·have HR : Hid (R = false) := hid_intro (HB1.out (by rw [HOK.out, decide_eq_false hin]))
       have HIs2 : Hid (false = decide (0 ≤ xs ∧ xs ≤ su)) := hid_intro (decide_eq_false hin).symm
       go_wp2_with fail
       refine wp_region_hw S (by kernel_rfl) (by kernel_rfl) HSD.out ?_
       repeat (go_big_quiet_step ((rename_i s; first | (go_at_call 43; refine (is_lit _ _ _ _ (by first | exact HIs1.out | exact HIs2.out) _).mono ?_; rintro e w1 ⟨rfl, hb1⟩; exact ⟨rfl, ⟨w1, HSB.out s w1 hb1⟩, rfl⟩) | (go_at_call 51; (try rw [hn60]); refine (HMO.out _).mono ?_; rintro e w1 ⟨rfl, hb1⟩; exact ⟨rfl, ⟨w1, HSB.out s w1 hb1⟩, rfl⟩))))
       refine wpQuiet_nil ?_
       intro _ hw'
       obtain ⟨s, hw''⟩ := hw'
       subst hw''
       have HBF := hid_intro (HSC.out s).1
       go_wp2_with fail
       go_ret
       exact ⟨ret_bool HR.out.symm, HBF.out⟩
     ·rw [decide_eq_false hmo, Bool.false_and] at HOK
      have HR : Hid (R = false) := hid_intro (HB1.out HOK.out)
      have hmo2 : ((K : Int) != mo) = true := by simp [hmo]
      have HIs2 := HIs1
      go_wp2_with fail
      refine wp_region_hw S (by kernel_rfl) (by kernel_rfl) HSD.out ?_
      repeat (go_big_quiet_step ((rename_i s; first | (go_at_call 43; refine (is_lit _ _ _ _ (by first | exact HIs1.out | exact HIs2.out) _).mono ?_; rintro e w1 ⟨rfl, hb1⟩; exact ⟨rfl, ⟨w1, HSB.out s w1 hb1⟩, rfl⟩) | (go_at_call 51; (try rw [hn60]); refine (HMO.out _).mono ?_; rintro e w1 ⟨rfl, hb1⟩; exact ⟨rfl, ⟨w1, HSB.out s w1 hb1⟩, rfl⟩))))
      refine wpQuiet_nil ?_
      intro _ hw'
      obtain ⟨s, hw''⟩ := hw'
      subst hw''
      have HBF := hid_intro (HSC.out s).1
      go_wp2_with fail
      go_ret
      exact ⟨ret_bool HR.out.symm, HBF.out⟩
   ·obtain ⟨b', off', hbo, hbl', d0, _⟩ := (HI.out.below HB.out).at j (by omega)
    obtain ⟨rfl, rfl⟩ : b = b' ∧ off = off' := by simpa using hbo
    have hj1 : IntKind.i64.wrap ((k : Int) - 1) = (j : Int) := by rw [IntKind.wrap_i64]; omega
    have hj2 : 0 < k := by omega
    have hj3 : (j : Int) < (len : Int) := by omega
    rw [show k - 1 = j by omega] at HB2 HM
    clear hbl' hbo hkj
    generalize hs.getD k H.zero = X at *
    generalize hs.getD j H.zero = Y at *
    obtain ⟨xh, xs⟩ := X
    obtain ⟨yh, ys⟩ := Y
    dsimp only at c0 c1 d0 HST
    have HS0 : Hid (SHt w b (off + k * 2) (off + j * 2) ⟨xh, xs⟩ ⟨yh, ys⟩ wr) := hid_intro ⟨HB.out, hbl, c0, c1, d0⟩
    obtain ⟨S, hS⟩ : ∃ S : World → Prop, ∀ W, S W ↔ SHt w b (off + k * 2) (off + j * 2) ⟨xh, xs⟩ ⟨yh, ys⟩ W := ⟨_, fun _ => Iff.rfl⟩
    have HSC : Hid (∀ s : HW S, SHt w b (off + k * 2) (off + j * 2) ⟨xh, xs⟩ ⟨yh, ys⟩ s.w) := hid_intro (fun s => (hS _).1 s.h)
    have HSB : Hid (∀ (s : HW S) w', Below s.w.heap.size s.w w' → S w') := hid_intro (fun s w' hb => (hS _).2 ((HSC.out s).below hb))
    have HSD : Hid (S wr.drew) := hid_intro ((hS _).2 (HS0.out.below (Below.refl _ _).drew))
    have hne : Nonempty (HW S) := ⟨⟨_, HSD.out⟩⟩
    have f0 : ∀ s : HW S, s.w.cell? ⟨b, off + k * 2, none⟩ = some (.int .i64 xh) := fun s => (HSC.out s).2.2.1
    have f1 : ∀ s : HW S, s.w.cell? ⟨b, off + k * 2 + 1, none⟩ = some (.int .i64 xs) := fun s => (HSC.out s).2.2.2.1
    have f2 : ∀ s : HW S, s.w.cell? ⟨b, off + j * 2, none⟩ = some (.int .i64 yh) := fun s => (HSC.out s).2.2.2.2
    clear hS
    rcases (show (¬ 0 ≤ xh) ∨ (0 ≤ xh ∧ ¬ xh ≤ 2016666) ∨ (0 ≤ xh ∧ xh ≤ 2016666) by omega) with p1 | ⟨p1, p2⟩ | ⟨p1, p2⟩
    ·have HR : Hid (R = false) := hid_intro (HB1.out (ok_far (fun h => p1 h.1)))
     have HIs1 : Hid (false = decide (0 ≤ xh ∧ xh ≤ 2016666)) := hid_intro (decide_eq_false (by omega)).symm
     have HIs2 := HIs1
     go_wp2_with fail
     refine wp_region_hw S (by kernel_rfl) (by kernel_rfl) HSD.out ?_
     repeat (go_big_quiet_step ((rename_i s; first | (go_at_call 43; refine (is_lit _ _ _ _ (by first | exact HIs1.out | exact HIs2.out) _).mono ?_; rintro e w1 ⟨rfl, hb1⟩; exact ⟨rfl, ⟨w1, HSB.out s w1 hb1⟩, rfl⟩))))
     refine wpQuiet_nil ?_
     intro _ hw'
     obtain ⟨s, hw''⟩ := hw'
     subst hw''
     have HBF := hid_intro (HSC.out s).1
     go_wp2_with fail
     go_ret
     exact ⟨ret_bool HR.out.symm, HBF.out⟩
    ·have HR : Hid (R = false) := hid_intro (HB1.out (ok_far (fun h => p2 h.2)))
     have HIs1 : Hid (false = decide (0 ≤ xh ∧ xh ≤ 2016666)) := hid_intro (decide_eq_false (by omega)).symm
     have HIs2 := HIs1
     go_wp2_with fail
     refine wp_region_hw S (by kernel_rfl) (by kernel_rfl) HSD.out ?_
     repeat (go_big_quiet_step ((rename_i s; first | (go_at_call 43; refine (is_lit _ _ _ _ (by first | exact HIs1.out | exact HIs2.out) _).mono ?_; rintro e w1 ⟨rfl, hb1⟩; exact ⟨rfl, ⟨w1, HSB.out s w1 hb1⟩, rfl⟩))))
     refine wpQuiet_nil ?_
     intro _ hw'
     obtain ⟨s, hw''⟩ := hw'
     subst hw''
     have HBF := hid_intro (HSC.out s).1
     go_wp2_with fail
     go_ret
     exact ⟨ret_bool HR.out.symm, HBF.out⟩
    ·obtain ⟨K, K1, F1, F2, _, hms⟩ := month_two (60 * xh) (by omega) (by omega)
     have HMO := hid_intro hms
     have HOK := hid_intro (ok_in (mo := mo) (su := su) (x := ⟨xh, xs⟩) p1 p2 (v := (K : Int)) rfl F1 F2)
     generalize hn60 : 60 * xh = n at *
     clear hms F1 F2
     have HIs1 : Hid (true = decide (0 ≤ xh ∧ xh ≤ 2016666)) := hid_intro (decide_eq_true ⟨p1, p2⟩).symm
     by_cases hmo : (K : Int) = mo
     ·rw [decide_eq_true hmo, Bool.true_and] at HOK
      have hmo2 : ((K : Int) != mo) = false := by simp [hmo]
      by_cases hr : yh < xh
      ·have hr2 : decide (xh ≤ yh) = false := decide_eq_false (by omega)
       have hr3 : (xh ≤ yh) = False := eq_false (by omega)
       by_cases hin : 0 ≤ xs ∧ xs ≤ su
       ·have HM2 := hid_intro (HM.out (by rw [HOK.out, decide_eq_true hin]) (fun _ => by unfold hlt; exact decide_eq_true hr))
        have HIs2 : Hid (true = decide (0 ≤ xs ∧ xs ≤ su)) := hid_intro (decide_eq_true hin).symm
        obtain ⟨hin1, hin2⟩ := hin
        go_wp2_with fail
        refine wp_region_hw S (by kernel_rfl) (by kernel_rfl) HSD.out ?_
        repeat (go_big_quiet_step ((rename_i s; first | (go_at_call 43; refine (is_lit _ _ _ _ (by first | exact HIs1.out | exact HIs2.out) _).mono ?_; rintro e w1 ⟨rfl, hb1⟩; exact ⟨rfl, ⟨w1, HSB.out s w1 hb1⟩, rfl⟩) | (go_at_call 51; (try rw [hn60]); refine (HMO.out _).mono ?_; rintro e w1 ⟨rfl, hb1⟩; exact ⟨rfl, ⟨w1, HSB.out s w1 hb1⟩, rfl⟩))))
        refine wpQuiet_nil ?_
        intro _ hw'
        obtain ⟨s, hw''⟩ := hw'
        subst hw''
        have HBF := hid_intro (HSC.out s).1
        go_wp2_with fail
        go_roundw
        case rel => exact ⟨k + 1, by omega, by rw [HST.out], by go_num, HM2, HBF⟩
        case measure => simp [intOf]; omega
       ·have HR : Hid (R = false) := hid_intro (HB1.out (by rw [HOK.out, decide_eq_false hin]))
        have HIs2 : Hid (false = decide (0 ≤ xs ∧ xs ≤ su)) := hid_intro (decide_eq_false hin).symm
        go_wp2_with fail
        refine wp_region_hw S (by kernel_rfl) (by kernel_rfl) HSD.out ?_
        repeat (go_big_quiet_step ((rename_i s; first | (go_at_call 43; refine (is_lit _ _ _ _ (by first | exact HIs1.out | exact HIs2.out) _).mono ?_; rintro e w1 ⟨rfl, hb1⟩; exact ⟨rfl, ⟨w1, HSB.out s w1 hb1⟩, rfl⟩) | (go_at_call 51; (try rw [hn60]); refine (HMO.out _).mono ?_; rintro e w1 ⟨rfl, hb1⟩; exact ⟨rfl, ⟨w1, HSB.out s w1 hb1⟩, rfl⟩))))
        refine wpQuiet_nil ?_
        intro _ hw'
        obtain ⟨s, hw''⟩ := hw'
        subst hw''
        have HBF := hid_intro (HSC.out s).1
        go_wp2_with fail
        go_ret
        exact ⟨ret_bool HR.out.symm, HBF.out⟩
      ·have HR : Hid (R = false) := hid_intro (HB2.out hj2 (by unfold hlt; exact decide_eq_false hr))
       have hr2 : xh ≤ yh := by omega
       have HIs2 := HIs1
       go_wp2_with fail
       refine wp_region_hw S (by kernel_rfl) (by kernel_rfl) HSD.out ?_
       repeat (go_big_quiet_step ((rename_i s; first | (go_at_call 43; refine (is_lit _ _ _ _ (by first | exact HIs1.out | exact HIs2.out) _).mono ?_; rintro e w1 ⟨rfl, hb1⟩; exact ⟨rfl, ⟨w1, HSB.out s w1 hb1⟩, rfl⟩) | (go_at_call 51; (try rw [hn60]); refine (HMO.out _).mono ?_; rintro e w1 ⟨rfl, hb1⟩; exact ⟨rfl, ⟨w1, HSB.out s w1 hb1⟩, rfl⟩))))
       refine wpQuiet_nil ?_
       intro _ hw'
       obtain ⟨s, hw''⟩ := hw'
       subst hw''
       have HBF := hid_intro (HSC.out s).1
       go_wp2_with fail
       go_ret
       exact ⟨ret_bool HR.out.symm, HBF.out⟩
     ·rw [decide_eq_false hmo, Bool.false_and] at HOK
      have HR : Hid (R = false) := hid_intro (HB1.out HOK.out)
      have hmo2 : ((K : Int) != mo) = true := by simp [hmo]
      have HIs2 := HIs1
      go_wp2_with fail
      refine wp_region_hw S (by kernel_rfl) (by kernel_rfl) HSD.out ?_
      repeat (go_big_quiet_step ((rename_i s; first | (go_at_call 43; refine (is_lit _ _ _ _ (by first | exact HIs1.out | exact HIs2.out) _).mono ?_; rintro e w1 ⟨rfl, hb1⟩; exact ⟨rfl, ⟨w1, HSB.out s w1 hb1⟩, rfl⟩) | (go_at_call 51; (try rw [hn60]); refine (HMO.out _).mono ?_; rintro e w1 ⟨rfl, hb1⟩; exact ⟨rfl, ⟨w1, HSB.out s w1 hb1⟩, rfl⟩))))
      refine wpQuiet_nil ?_
      intro _ hw'
      obtain ⟨s, hw''⟩ := hw'
      subst hw''
      have HBF := hid_intro (HSC.out s).1
      go_wp2_with fail
      go_ret
      exact ⟨ret_bool HR.out.symm, HBF.out⟩
  ·have hlt2 : ¬ (k : Int) < (len : Int) := by omega
   obtain rfl : k = len := by omega
   have HR : Hid (R = decide (hsum (hs.take k) = su)) := hid_intro (by rw [HDO.out (by rw [← HL.out]; exact HK.out), List.take_of_length_le (by have := HL.out; omega)])
   generalize hsum (hs.take k) = T at *
   by_cases hz : T = su
   ·rw [decide_eq_true hz] at HR
    go_wp2_with fail
    go_ret
    exact ⟨ret_bool (by rw [HR.out]; try simp [hz]), HB.out⟩
   ·rw [decide_eq_false hz] at HR
    go_wp2_with fail
    go_ret
    exact ⟨ret_bool (by rw [HR.out]; try simp [hz]), HB.out⟩
end WinR
end Go.Proofs.YtnlmpejgiakepaaDoor
namespace Go.Proofs.YtnlmpejgiakepaaDoor
open Go.ChangeShapes Go.WideShapes Go.ChangeAt Go.RowKit
set_option linter.unusedVariables false
namespace WinR
open RowG LtR
open CatR (Blk Blk.new)
theorem six (b1 b2 b3 b4 b5 b6 : Bool) : (b1 = false) ∨ (b1 = true ∧ b2 = false) ∨ (b1 = true ∧ b2 = true ∧ b3 = false) ∨ (b1 = true ∧ b2 = true ∧ b3 = true ∧ b4 = false) ∨ (b1 = true ∧ b2 = true ∧ b3 = true ∧ b4 = true ∧ b5 = false) ∨ (b1 = true ∧ b2 = true ∧ b3 = true ∧ b4 = true ∧ b5 = true ∧ b6 = false) ∨ (b1 = true ∧ b2 = true ∧ b3 = true ∧ b4 = true ∧ b5 = true ∧ b6 = true) := by
 cases b1 <;> cases b2 <;> cases b3 <;> cases b4 <;> cases b5 <;> cases b6 <;> simp
theorem sisMonth_any (n : Int) (w : World) : Calls Tryd.prog 42 #[.int .i64 n] w fun e w' => e = .returned (.bool (decide (0 ≤ n ∧ n ≤ 2760))) ∧ w' = w := by
 have H := EvtR.is_any n 0 2760
 generalize decide (0 ≤ n ∧ n ≤ 2760) = b at *
 go_enter Tryd.func42, Tryd.ntmps42
 go_wp2_with (go_at_call 43; refine (H _).mono ?_; rintro e w' ⟨rfl, rfl⟩)
 go_ret
 exact ⟨rfl, rfl⟩
set_option maxRecDepth 100000 in
set_option maxHeartbeats 8000000 in
theorem sright_in (a m : ByteArray) (mo ev su mx : Int) (ta : Option Addr) (tl tc : Nat) (ha : Option Addr) (hl hc : Nat) (b1 b2 b3 b4 b5 b6 b7 b8 : Bool) (w : World)
  (h1 : ∀ W, Calls Tryd.prog 41 #[.string a] W fun e w' => e = .returned (.bool b1) ∧ w' = W) (h2 : ∀ W, Calls Tryd.prog 41 #[.string m] W fun e w' => e = .returned (.bool b2) ∧ w' = W) (h3 : ∀ W, Calls Tryd.prog 42 #[.int .i64 mo] W fun e w' => e = .returned (.bool b3) ∧ w' = W) (h4 : ∀ W, Calls Tryd.prog 43 #[.int .i64 ev, .int .i64 1, .int .i64 1000] W fun e w' => e = .returned (.bool b4) ∧ w' = W) (h5 : ∀ W, Calls Tryd.prog 43 #[.int .i64 su, .int .i64 0, .int .i64 1000000000000] W fun e w' => e = .returned (.bool b5) ∧ w' = W) (h6 : ∀ W, Calls Tryd.prog 43 #[.int .i64 mx, .int .i64 0, .int .i64 su] W fun e w' => e = .returned (.bool b6) ∧ w' = W)
  (h7 : ∀ W, Below w.heap.size w W → Calls Tryd.prog 44 #[.slice ta tl tc] W fun e w' => e = .returned (.bool b7) ∧ Below W.heap.size W w')
  (h8 : b5 = true → hl ≤ 12 → ∀ W, Below w.heap.size w W → Calls Tryd.prog 45 #[.slice ha hl hc, .int .i64 mo, .int .i64 su] W fun e w' => e = .returned (.bool b8) ∧ Below W.heap.size W w') :
  Calls Tryd.prog 20 #[.agg #[.string a, .string m, .int .i64 mo, .int .i64 ev, .int .i64 su, .int .i64 mx, .slice ta tl tc, .slice ha hl hc]] w fun e w' => e = .returned (.bool ((b1 && (b2 && b3)) && ((b4 && (b5 && b6)) && (b7 && (decide (1 ≤ hl ∧ hl ≤ 12) && b8))))) ∧ Below w.heap.size w w' := by
 have H1 := hid_intro h1
 have H2 := hid_intro h2
 have H3 := hid_intro h3
 have H4 := hid_intro h4
 have H5 := hid_intro h5
 have H6 := hid_intro h6
 have H7 := hid_intro h7
 have H8 := hid_intro h8
 clear h1 h2 h3 h4 h5 h6 h7 h8
 have HB0 : Hid (Below w.heap.size w (w.alloc (.cells #[.string a, .string m, .int .i64 mo, .int .i64 ev, .int .i64 su, .int .i64 mx, .slice ta tl tc, .slice ha hl hc] 32))) := hid_intro ((Below.refl _ _).alloc (Nat.le_refl _) _)
 have HX0 := hid_intro (Blk.new w [.string a, .string m, .int .i64 mo, .int .i64 ev, .int .i64 su, .int .i64 mx, .slice ta tl tc, .slice ha hl hc] 32)
 rcases six b1 b2 b3 b4 b5 b6 with rfl | ⟨rfl, rfl⟩ | ⟨rfl, rfl, rfl⟩ | ⟨rfl, rfl, rfl, rfl⟩ | ⟨rfl, rfl, rfl, rfl, rfl⟩ | ⟨rfl, rfl, rfl, rfl, rfl, rfl⟩ | ⟨rfl, rfl, rfl, rfl, rfl, rfl⟩
 ·go_enter Tryd.func20, Tryd.ntmps20
  go_wp2_with fail
  refine (H1.out _).mono ?_
  rintro e w1 ⟨rfl, rfl⟩
  go_wp2_with fail
  go_ret
  exact ⟨ret_bool (by simp), HB0.out⟩
 ·go_enter Tryd.func20, Tryd.ntmps20
  go_wp2_with fail
  refine (H1.out _).mono ?_
  rintro e w1 ⟨rfl, rfl⟩
  go_wp2_with fail
  refine (H2.out _).mono ?_
  rintro e w1 ⟨rfl, rfl⟩
  go_wp2_with fail
  go_ret
  exact ⟨ret_bool (by simp), HB0.out⟩
 ·go_enter Tryd.func20, Tryd.ntmps20
  go_wp2_with fail
  refine (H1.out _).mono ?_
  rintro e w1 ⟨rfl, rfl⟩
  go_wp2_with fail
  refine (H2.out _).mono ?_
  rintro e w1 ⟨rfl, rfl⟩
  go_wp2_with fail
  refine (H3.out _).mono ?_
  rintro e w1 ⟨rfl, rfl⟩
  go_wp2_with fail
  go_ret
  exact ⟨ret_bool (by simp), HB0.out⟩
 ·go_enter Tryd.func20, Tryd.ntmps20
  go_wp2_with fail
  refine (H1.out _).mono ?_
  rintro e w1 ⟨rfl, rfl⟩
  go_wp2_with fail
  refine (H2.out _).mono ?_
  rintro e w1 ⟨rfl, rfl⟩
  go_wp2_with fail
  refine (H3.out _).mono ?_
  rintro e w1 ⟨rfl, rfl⟩
  go_wp2_with fail
  refine (H4.out _).mono ?_
  rintro e w1 ⟨rfl, rfl⟩
  go_wp2_with fail
  go_ret
  exact ⟨ret_bool (by simp), HB0.out⟩
 ·go_enter Tryd.func20, Tryd.ntmps20
  go_wp2_with fail
  refine (H1.out _).mono ?_
  rintro e w1 ⟨rfl, rfl⟩
  go_wp2_with fail
  refine (H2.out _).mono ?_
  rintro e w1 ⟨rfl, rfl⟩
  go_wp2_with fail
  refine (H3.out _).mono ?_
  rintro e w1 ⟨rfl, rfl⟩
  go_wp2_with fail
  refine (H4.out _).mono ?_
  rintro e w1 ⟨rfl, rfl⟩
  go_wp2_with fail
  refine (H5.out _).mono ?_
  rintro e w1 ⟨rfl, rfl⟩
  go_wp2_with fail
  go_ret
  exact ⟨ret_bool (by simp), HB0.out⟩
 ·go_enter Tryd.func20, Tryd.ntmps20
  go_wp2_with fail
  refine (H1.out _).mono ?_
  rintro e w1 ⟨rfl, rfl⟩
  go_wp2_with fail
  refine (H2.out _).mono ?_
  rintro e w1 ⟨rfl, rfl⟩
  go_wp2_with fail
  refine (H3.out _).mono ?_
  rintro e w1 ⟨rfl, rfl⟩
  go_wp2_with fail
  refine (H4.out _).mono ?_
  rintro e w1 ⟨rfl, rfl⟩
  go_wp2_with fail
  refine (H5.out _).mono ?_
  rintro e w1 ⟨rfl, rfl⟩
  go_wp2_with fail
  refine (H6.out _).mono ?_
  rintro e w1 ⟨rfl, rfl⟩
  go_wp2_with fail
  go_ret
  exact ⟨ret_bool (by simp), HB0.out⟩
 ·cases b7
  ·go_enter Tryd.func20, Tryd.ntmps20
   go_wp2_with fail
   refine (H1.out _).mono ?_
   rintro e w1 ⟨rfl, rfl⟩
   go_wp2_with fail
   refine (H2.out _).mono ?_
   rintro e w1 ⟨rfl, rfl⟩
   go_wp2_with fail
   refine (H3.out _).mono ?_
   rintro e w1 ⟨rfl, rfl⟩
   go_wp2_with fail
   refine (H4.out _).mono ?_
   rintro e w1 ⟨rfl, rfl⟩
   go_wp2_with fail
   refine (H5.out _).mono ?_
   rintro e w1 ⟨rfl, rfl⟩
   go_wp2_with fail
   refine (H6.out _).mono ?_
   rintro e w1 ⟨rfl, rfl⟩
   go_wp2_with fail
   refine (H7.out _ HB0.out).mono ?_
   rintro e w2 ⟨rfl, hb2⟩
   have HB2 := hid_intro (HB0.out.trans (hb2.mono HB0.out.size))
   clear hb2 HX0
   go_wp2_with fail
   go_ret
   exact ⟨ret_bool (by simp), HB2.out⟩
  ·rcases (show (¬ 1 ≤ hl) ∨ (1 ≤ hl ∧ ¬ hl ≤ 12) ∨ (1 ≤ hl ∧ hl ≤ 12) by omega) with q | ⟨q, q2⟩ | ⟨q, q2⟩
   ·have q' : ¬ (1 : Int) ≤ (hl : Int) := by omega
    rw [decide_eq_false (show ¬ (1 ≤ hl ∧ hl ≤ 12) by omega)]
    go_enter Tryd.func20, Tryd.ntmps20
    go_wp2_with fail
    refine (H1.out _).mono ?_
    rintro e w1 ⟨rfl, rfl⟩
    go_wp2_with fail
    refine (H2.out _).mono ?_
    rintro e w1 ⟨rfl, rfl⟩
    go_wp2_with fail
    refine (H3.out _).mono ?_
    rintro e w1 ⟨rfl, rfl⟩
    go_wp2_with fail
    refine (H4.out _).mono ?_
    rintro e w1 ⟨rfl, rfl⟩
    go_wp2_with fail
    refine (H5.out _).mono ?_
    rintro e w1 ⟨rfl, rfl⟩
    go_wp2_with fail
    refine (H6.out _).mono ?_
    rintro e w1 ⟨rfl, rfl⟩
    go_wp2_with fail
    refine (H7.out _ HB0.out).mono ?_
    rintro e w2 ⟨rfl, hb2⟩
    have HB2 := hid_intro (HB0.out.trans (hb2.mono HB0.out.size))
    have HX2 := hid_intro (HX0.out.below hb2)
    clear hb2 HX0
    obtain ⟨xl, xc⟩ := HX2.out
    have y2 : w2.cell? ⟨w.heap.size, 2, none⟩ = some (.int .i64 mo) := xc 2 (by simp)
    have y4 : w2.cell? ⟨w.heap.size, 4, none⟩ = some (.int .i64 su) := xc 4 (by simp)
    have y7 : w2.cell? ⟨w.heap.size, 7, none⟩ = some (.slice ha hl hc) := xc 7 (by simp)
    clear xc
    go_wp2_with fail
    go_ret
    exact ⟨ret_bool (by simp), HB2.out⟩
   ·have q' : (1 : Int) ≤ (hl : Int) := by omega
    have q2' : ¬ (hl : Int) ≤ 12 := by omega
    rw [decide_eq_false (show ¬ (1 ≤ hl ∧ hl ≤ 12) by omega)]
    go_enter Tryd.func20, Tryd.ntmps20
    go_wp2_with fail
    refine (H1.out _).mono ?_
    rintro e w1 ⟨rfl, rfl⟩
    go_wp2_with fail
    refine (H2.out _).mono ?_
    rintro e w1 ⟨rfl, rfl⟩
    go_wp2_with fail
    refine (H3.out _).mono ?_
    rintro e w1 ⟨rfl, rfl⟩
    go_wp2_with fail
    refine (H4.out _).mono ?_
    rintro e w1 ⟨rfl, rfl⟩
    go_wp2_with fail
    refine (H5.out _).mono ?_
    rintro e w1 ⟨rfl, rfl⟩
    go_wp2_with fail
    refine (H6.out _).mono ?_
    rintro e w1 ⟨rfl, rfl⟩
    go_wp2_with fail
    refine (H7.out _ HB0.out).mono ?_
    rintro e w2 ⟨rfl, hb2⟩
    have HB2 := hid_intro (HB0.out.trans (hb2.mono HB0.out.size))
    have HX2 := hid_intro (HX0.out.below hb2)
    clear hb2 HX0
    obtain ⟨xl, xc⟩ := HX2.out
    have y2 : w2.cell? ⟨w.heap.size, 2, none⟩ = some (.int .i64 mo) := xc 2 (by simp)
    have y4 : w2.cell? ⟨w.heap.size, 4, none⟩ = some (.int .i64 su) := xc 4 (by simp)
    have y7 : w2.cell? ⟨w.heap.size, 7, none⟩ = some (.slice ha hl hc) := xc 7 (by simp)
    clear xc
    go_wp2_with fail
    go_ret
    exact ⟨ret_bool (by simp), HB2.out⟩
   ·have q' : (1 : Int) ≤ (hl : Int) := by omega
    have q2' : (hl : Int) ≤ 12 := by omega
    rw [decide_eq_true (show 1 ≤ hl ∧ hl ≤ 12 by omega)]
    have H9 := hid_intro (H8.out rfl q2)
    go_enter Tryd.func20, Tryd.ntmps20
    go_wp2_with fail
    refine (H1.out _).mono ?_
    rintro e w1 ⟨rfl, rfl⟩
    go_wp2_with fail
    refine (H2.out _).mono ?_
    rintro e w1 ⟨rfl, rfl⟩
    go_wp2_with fail
    refine (H3.out _).mono ?_
    rintro e w1 ⟨rfl, rfl⟩
    go_wp2_with fail
    refine (H4.out _).mono ?_
    rintro e w1 ⟨rfl, rfl⟩
    go_wp2_with fail
    refine (H5.out _).mono ?_
    rintro e w1 ⟨rfl, rfl⟩
    go_wp2_with fail
    refine (H6.out _).mono ?_
    rintro e w1 ⟨rfl, rfl⟩
    go_wp2_with fail
    refine (H7.out _ HB0.out).mono ?_
    rintro e w2 ⟨rfl, hb2⟩
    have HB2 := hid_intro (HB0.out.trans (hb2.mono HB0.out.size))
    have HX2 := hid_intro (HX0.out.below hb2)
    clear hb2 HX0
    obtain ⟨xl, xc⟩ := HX2.out
    have y2 : w2.cell? ⟨w.heap.size, 2, none⟩ = some (.int .i64 mo) := xc 2 (by simp)
    have y4 : w2.cell? ⟨w.heap.size, 4, none⟩ = some (.int .i64 su) := xc 4 (by simp)
    have y7 : w2.cell? ⟨w.heap.size, 7, none⟩ = some (.slice ha hl hc) := xc 7 (by simp)
    clear xc
    go_wp2_with fail
    refine (H9.out _ HB2.out).mono ?_
    rintro e w3 ⟨rfl, hb3⟩
    have HB3 := hid_intro (HB2.out.trans (hb3.mono HB2.out.size))
    clear hb3
    go_wp2_with fail
    go_ret
    exact ⟨ret_bool (by simp), HB3.out⟩
theorem spec_window_right (x : Wd) (ta : Option Addr) (tc : Nat) (ha : Option Addr) (hc : Nat) (w : World) (h1 : x.a.size ≤ 1048576) (h2 : x.m.size ≤ 1048576) (h3 : x.ts.length ≤ 1048576) (h4 : ∀ t ∈ x.ts, t.size ≤ 1048576) (hT : Tgs ta x.ts w) (hH : Hrs ha x.hs w) :
  Calls Tryd.prog 20 #[.agg (wcells x ta tc ha hc)] w fun e w' => e = .returned (.bool (wB x)) ∧ Below w.heap.size w w' :=
 sright_in x.a x.m x.mo x.ev x.su x.mx ta x.ts.length tc ha x.hs.length hc _ _ _ _ _ _ _ _ w (fun W => NameR.spec_any x.a W h1) (fun W => NameR.spec_any x.m W h2) (fun W => sisMonth_any x.mo W) (fun W => EvtR.is_any x.ev 1 1000 W) (fun W => EvtR.is_any x.su 0 1000000000000 W) (fun W => EvtR.is_any x.mx 0 x.su W) (fun W hW => spec_tags ta tc x.ts W h3 h4 (hT.below hW)) (fun hs hl W hW => spec_hours ha hc x.hs x.mo x.su W hl (of_decide_eq_true hs) (hH.below hW))
end WinR
end Go.Proofs.YtnlmpejgiakepaaDoor
namespace Go.Proofs.YtnlmpejgiakepaaDoor
open Go.ChangeShapes Go.WideShapes Go.ChangeAt Go.RowKit
set_option linter.unusedVariables false
namespace WinR
open RowG (MadeG Rws)
open LtR (lt)
open DateR (Laid)
open CatR (Blk Blk.new)
section
variable {α : Type} (r : α → α → Bool) (f : α → α → α)
theorem mrg_le (a b : List α) : (mrg r f a b).length ≤ a.length + b.length := by
 fun_induction mrg r f a b <;> simp_all <;> omega
theorem mrg_all (p : α → Prop) (hf : ∀ x y, p x → p y → p (f x y)) (a b : List α) (ha : ∀ z ∈ a, p z) (hb : ∀ z ∈ b, p z) : ∀ z ∈ mrg r f a b, p z := by
 fun_induction mrg r f a b <;> simp_all
theorem rs_of (z : α) : ∀ xs : List α, RiseTo r z xs xs.length → Rs r xs
 | [], _ => trivial
 | [_], _ => trivial
 | x :: y :: l, h => ⟨by simpa using h 1 (by simp) (by omega), rs_of z (y :: l) (fun i hi h0 => by
   obtain ⟨k, rfl⟩ : ∃ k, i = k + 1 := ⟨i - 1, by omega⟩
   have := h (k + 1 + 1) (by simpa using hi) (by omega)
   simpa using this)⟩
end
theorem lt_te (x y z : ByteArray) (h1 : lt x y = false) (h2 : lt y x = false) (h3 : lt y z = true) : lt (fstT x y) z = true := by
 have := LtR.lt_total h1 h2
 subst this
 exact h3
theorem hlt_tr (x y z : H) (h1 : hlt x y = true) (h2 : hlt y z = true) : hlt x z = true := by
 unfold hlt at *
 simp only [decide_eq_true_eq] at *
 omega
theorem hlt_te (x y z : H) (h1 : hlt x y = false) (h2 : hlt y x = false) (h3 : hlt y z = true) : hlt (addH x y) z = true := by
 unfold hlt addH at *
 simp only [decide_eq_true_eq, decide_eq_false_iff_not] at *
 omega
/-- The window that joining two makes. -/
def jw (x y : Wd) : Wd := ⟨x.a, x.m, x.mo, x.ev + y.ev, x.su + y.su, max x.mx y.mx, mrg lt fstT x.ts y.ts, mrg hlt addH x.hs y.hs⟩
def sameW (x y : Wd) : Prop := x.a = y.a ∧ x.m = y.m ∧ x.mo = y.mo
structure Fit (x : Wd) : Prop where
 ev : 0 ≤ x.ev ∧ x.ev ≤ 1000
 su : 0 ≤ x.su ∧ x.su ≤ 1000000000000
 tt : x.ts.length ≤ 12
 rt : Rs LtR.lt x.ts
 l1 : 1 ≤ x.hs.length
 lh : x.hs.length ≤ 12
 rh : Rs hlt x.hs
 hs : ∀ z ∈ x.hs, 0 ≤ z.s ∧ z.s ≤ 1000000000000
theorem fit {x : Wd} (h : wB x = true) : Fit x := by
 unfold wB at h
 simp only [Bool.and_eq_true] at h
 obtain ⟨_, hc, ht, hh⟩ := h
 obtain ⟨h1, h2, _⟩ := counted_su hc
 unfold tagsB at ht
 unfold timedB hoursB at hh
 simp only [Bool.and_eq_true, decide_eq_true_eq] at ht hh
 refine ⟨by omega, h2, ht.1, rs_of _ tz _ (rise_iff.1 ht.2.1), hh.1.1, hh.1.2, rs_of _ H.zero _ (rise_iff.1 hh.2.1), fun z hz => ?_⟩
 have := List.all_eq_true.1 hh.2.2.1 z hz
 unfold hOk at this
 simp only [Bool.and_eq_true, decide_eq_true_eq] at this
 omega
theorem lt2_is {x y : Wd} (h : Rs lt y.ts) : lt2 x.ts y.ts y.ts.length = (jw x y).ts := by
 unfold lt2 jw
 rw [List.take_length]
 exact (mrg_fold lt fstT (fun a b c h1 h2 => LtR.lt_trans h1 h2) lt_te _ _ h).symm
theorem lh2_is {x y : Wd} (h : Rs hlt y.hs) : lh2 x.hs y.hs y.hs.length = (jw x y).hs := by
 unfold lh2 jw
 rw [List.take_length]
 exact (mrg_fold hlt addH hlt_tr hlt_te _ _ h).symm
/-- Both together are small. -/
structure Two (x y : Wd) : Prop where
 sx : x.Small
 sy : y.Small
 tt : x.ts.length + y.ts.length ≤ 1048576
 lh : x.hs.length + y.hs.length ≤ 1048576
theorem Two.jlt {x y : Wd} (h : Two x y) : (jw x y).ts.length ≤ 1048576 := by
 have := mrg_le lt fstT x.ts y.ts
 have := h.tt
 show (mrg lt fstT x.ts y.ts).length ≤ _
 omega
theorem Two.jlh {x y : Wd} (h : Two x y) : (jw x y).hs.length ≤ 1048576 := by
 have := mrg_le hlt addH x.hs y.hs
 have := h.lh
 show (mrg hlt addH x.hs y.hs).length ≤ _
 omega
theorem Two.jts {x y : Wd} (h : Two x y) : ∀ t ∈ (jw x y).ts, t.size ≤ 1048576 :=
 mrg_all lt fstT (fun t => t.size ≤ 1048576) (fun x y h1 _ => h1) x.ts y.ts h.sx.2.2.2.1 h.sy.2.2.2.1
/-- The program's WindowJoin. -/
theorem impl_join (x y : Wd) (ta1 : Option Addr) (tc1 : Nat) (ha1 : Option Addr) (hc1 : Nat) (ta2 : Option Addr) (tc2 : Nat) (ha2 : Option Addr) (hc2 : Nat) (w : World) (h2 : Two x y) (hL : Laid w)
  (sT1 : SlOk ta1 x.ts.length tc1) (sH1 : SlOk ha1 x.hs.length hc1) (sT2 : SlOk ta2 y.ts.length tc2) (sH2 : SlOk ha2 y.hs.length hc2) (hT1 : Tgs ta1 x.ts w) (hH1 : Hrs ha1 x.hs w) (hT2 : Tgs ta2 y.ts w) (hH2 : Hrs ha2 y.hs w) :
  Calls Tryd.prog 27 #[.agg (wcells x ta1 tc1 ha1 hc1), .agg (wcells y ta2 tc2 ha2 hc2)] w fun e w' => JPost (wB x) (wB y) (wB (jw x y)) (sameW x y) (jw x y) w.heap.size e w' ∧ Below w.heap.size w w' := by
 refine join_in x.a x.m x.mo x.ev x.su x.mx ta1 x.ts.length tc1 ha1 x.hs.length hc1 y.a y.m y.mo y.ev y.su y.mx ta2 y.ts.length tc2 ha2 y.hs.length hc2 (jw x y).ts (jw x y).hs (x.ev + y.ev) (x.su + y.su) (max x.mx y.mx) (wB x) (wB y) (wB (jw x y)) (jw x y) w hL
  (fun W hW => impl_right x.a x.m x.mo x.ev x.su x.mx x.ts x.hs ta1 tc1 ha1 hc1 W h2.sx.1 h2.sx.2.1 h2.sx.2.2.1 h2.sx.2.2.2.1 h2.sx.2.2.2.2 (hL.below hW) (hT1.below hW) (hH1.below hW))
  (fun W hW => impl_right y.a y.m y.mo y.ev y.su y.mx y.ts y.hs ta2 tc2 ha2 hc2 W h2.sy.1 h2.sy.2.1 h2.sy.2.2.1 h2.sy.2.2.2.1 h2.sy.2.2.2.2 (hL.below hW) (hT2.below hW) (hH2.below hW)) ?_
  (fun ao cc ho hcc W hW hT hH => impl_right x.a x.m x.mo _ _ _ (jw x y).ts (jw x y).hs ao cc ho hcc W h2.sx.1 h2.sx.2.1 h2.jlt h2.jts h2.jlh hW hT hH)
  (fun h ao cc ho hcc W hT hH => impl_win (jw x y) ao cc ho hcc W h2.sx.1 h2.sx.2.1 h2.jlt h2.jts h2.jlh (fit h).l1 hT hH)
 intro hx hy W hW
 have fx := fit hx
 have fy := fit hy
 exact with_in x.a x.m x.mo x.ev x.su x.mx ta1 x.ts.length tc1 ha1 x.hs.length hc1 y.a y.m y.mo y.ev y.su y.mx ta2 y.ts.length tc2 ha2 y.hs.length hc2 x.ts y.ts x.hs y.hs W rfl rfl rfl rfl
  (by have := fx.ev; omega) (by have := fy.ev; omega) (by have := fx.su; omega) (by have := fy.su; omega)
  (fun V hV => with_tags x.ts y.ts ta1 ta2 tc1 tc2 V (by have := fx.tt; have := fy.tt; omega) sT1 sT2 ((hT1.below hW).below hV) ((hT2.below hW).below hV))
  (fun V hV => with_hours x.hs y.hs ha1 ha2 hc1 hc2 V (by have := fx.lh; have := fy.lh; omega) (fun z hz => by have := fx.hs z hz; omega) (fun z hz => by have := fy.hs z hz; omega) sH1 sH2 ((hH1.below hW).below hV) ((hH2.below hW).below hV))
/-- The model's join of two windows that are right. -/
theorem spec_l07join (x y : Wd) (tb tf tc1 hb hf hc1 : Nat) (ta2 : Option Addr) (tc2 : Nat) (ha2 : Option Addr) (hc2 : Nat) (w : World) (h2 : Two x y) (hx : wB x = true) (hy : wB y = true) (hT1 : Tgs (some ⟨tb, tf, none⟩) x.ts w) (hH1 : Hrs (some ⟨hb, hf, none⟩) x.hs w) (hT2 : Tgs ta2 y.ts w) (hH2 : Hrs ha2 y.hs w) :
  Calls Tryd.prog 23 #[.agg (wcells x (some ⟨tb, tf, none⟩) tc1 (some ⟨hb, hf, none⟩) hc1), .agg (wcells y ta2 tc2 ha2 hc2)] w fun e w' => SPost w.heap.size (sameW x y) (wB (jw x y)) x.a x.m x.mo (x.ev + y.ev) (x.su + y.su) (max x.mx y.mx) (jw x y).ts (jw x y).hs e w' ∧ Below w.heap.size w w' := by
 have fx := fit hx
 have fy := fit hy
 have e1 : IntKind.i64.wrap (x.ev + y.ev) = x.ev + y.ev := IntWalk.i64_in _ ⟨by have := fx.ev; have := fy.ev; omega, by have := fx.ev; have := fy.ev; omega⟩
 have e2 : IntKind.i64.wrap (x.su + y.su) = x.su + y.su := IntWalk.i64_in _ ⟨by have := fx.su; have := fy.su; omega, by have := fx.su; have := fy.su; omega⟩
 have f1 : wrap64 (x.ev + y.ev) = x.ev + y.ev := by first | exact wrap64_in (by have := fx.ev; have := fy.ev; omega) (by have := fx.ev; have := fy.ev; omega) | (unfold wrap64; have := fx.ev; have := fy.ev; omega)
 have f2 : wrap64 (x.su + y.su) = x.su + y.su := by first | exact wrap64_in (by have := fx.su; have := fy.su; omega) (by have := fx.su; have := fy.su; omega) | (unfold wrap64; have := fx.su; have := fy.su; omega)
 have eT := lt2_is (x := x) fy.rt
 have eH := lh2_is (x := x) fy.rh
 have h := sjoin_in (x.ev + y.ev) (x.su + y.su) (max x.mx y.mx) x.a x.m x.mo x.ev x.su x.mx tb tf x.ts.length tc1 hb hf x.hs.length hc1 y.a y.m y.mo y.ev y.su y.mx ta2 y.ts.length tc2 ha2 y.hs.length hc2 x.ts y.ts x.hs y.hs w rfl rfl rfl rfl
  (by have := fx.tt; omega) (by have := fx.lh; omega) f1 e1 f2 e2 rfl hT1 hH1 hT2 hH2 (by have := fx.tt; have := fy.tt; omega) (by have := fx.lh; have := fy.lh; omega) fx.hs fy.hs fy.lh fx.l1 (wB (jw x y))
  (fun _ ta tc ha hc W hT hH => by
   rw [eT] at hT ⊢
   rw [eH] at hH ⊢
   exact spec_window_right (jw x y) ta tc ha hc W h2.sx.1 h2.sx.2.1 h2.jlt h2.jts hT hH)
 rw [eT, eH] at h
 exact h
end WinR
end Go.Proofs.YtnlmpejgiakepaaDoor
namespace Go.Proofs.YtnlmpejgiakepaaDoor
open Go.ChangeShapes Go.WideShapes Go.ChangeAt Go.RowKit
set_option linter.unusedVariables false
namespace WinR
open RowG (MadeG Rws)
open EvtR (Pt)
open LtR (lt)
open CatR (Blk Blk.new)
end WinR
end Go.Proofs.YtnlmpejgiakepaaDoor
namespace Go.Proofs.YtnlmpejgiakepaaDoor
open Go.ChangeShapes Go.WideShapes Go.ChangeAt Go.RowKit
set_option linter.unusedVariables false
namespace WinR
open RowG
open CatR (Blk Blk.new)
/-- A window of one's own: both lists stand at the start of blocks of their own, as long as their room. -/
def TwW (base : Nat) (x : Wd) (v : Value) (w : World) : Prop := ∃ g1 g2, v = .agg (wcells x (some ⟨g1, 0, none⟩) x.ts.length (some ⟨g2, 0, none⟩) x.hs.length) ∧ base ≤ g1 ∧ base ≤ g2 ∧ g1 ≠ g2 ∧ MadeG 1 tcells tz base (some ⟨g1, 0, none⟩) x.ts w ∧ MadeG 2 H.cells H.zero base (some ⟨g2, 0, none⟩) x.hs w
theorem TwW.below {base : Nat} {x : Wd} {v : Value} {w w' : World} (h : TwW base x v w) (hb : Below w.heap.size w w') : TwW base x v w' := by
 obtain ⟨g1, g2, e, l1, l2, hn, m1, m2⟩ := h
 exact ⟨g1, g2, e, l1, l2, hn, m1.below hb, m2.below hb⟩
theorem TwW.made {base : Nat} {x : Wd} {v : Value} {w : World} (h : TwW base x v w) : MadeW base x v w := by
 obtain ⟨g1, g2, e, l1, l2, hn, m1, m2⟩ := h
 exact ⟨_, _, _, _, e, m1, m2, .inr (.inr (fun b o b' o' e1 e2 => by simp at e1 e2; omega))⟩
set_option maxRecDepth 100000 in
set_option maxHeartbeats 8000000 in
theorem toTw_in (a m : ByteArray) (mo ev su mx : Int) (ta : Option Addr) (ts : List ByteArray) (tc : Nat) (ha : Option Addr) (hs : List H) (hc : Nat) (w : World) (ht : ts.length ≤ 1048576) (hh : hs.length ≤ 1048576) (hT : Tgs ta ts w) (hH : Hrs ha hs w) :
  Calls Tryd.prog 8 #[.agg #[.string a, .string m, .int .i64 mo, .int .i64 ev, .int .i64 su, .int .i64 mx, .slice ta ts.length tc, .slice ha hs.length hc]] w fun e w' => ∃ v, e = .returned v ∧ TwW w.heap.size ⟨a, m, mo, ev, su, mx, ts, hs⟩ v w' ∧ Below w.heap.size w w' := by
 have H1 := hid_intro (fun W (hW : Below w.heap.size w W) => toTs_any ta tc ts W ht (hT.below hW))
 have H2 := hid_intro (fun W (hW : Below w.heap.size w W) => toHs_any ha hc hs W hh (hH.below hW))
 have HF : Hid (∀ W g1 g2, w.heap.size ≤ g1 → w.heap.size ≤ g2 → g1 ≠ g2 → MadeG 1 tcells tz g1 (some ⟨g1, 0, none⟩) ts W → MadeG 2 H.cells H.zero g2 (some ⟨g2, 0, none⟩) hs W → TwW w.heap.size ⟨a, m, mo, ev, su, mx, ts, hs⟩ (.agg #[.string a, .string m, .int .i64 mo, .int .i64 ev, .int .i64 su, .int .i64 mx, .slice (some ⟨g1, 0, none⟩) ts.length ts.length, .slice (some ⟨g2, 0, none⟩) hs.length hs.length]) W) := hid_intro (fun W g1 g2 l1 l2 hn m1 m2 =>
  ⟨g1, g2, rfl, l1, l2, hn, m1.low l1, m2.low l2⟩)
 generalize TwW w.heap.size ⟨a, m, mo, ev, su, mx, ts, hs⟩ = M at *
 obtain ⟨tl, htl⟩ : ∃ tl, tl = ts.length := ⟨_, rfl⟩
 obtain ⟨hl, hhl⟩ : ∃ hl, hl = hs.length := ⟨_, rfl⟩
 have HTL := hid_intro htl
 have HHL := hid_intro hhl
 rw [← htl] at ht H1 HF ⊢
 rw [← hhl] at hh H2 HF ⊢
 clear hT hH htl hhl
 have HB0 : Hid (Below w.heap.size w (((w.alloc (.cells #[.string a, .string m, .int .i64 mo, .int .i64 ev, .int .i64 su, .int .i64 mx, .slice ta tl tc, .slice ha hl hc] 25)).alloc (.cells #[.string ⟨#[]⟩, .string ⟨#[]⟩, .int .i64 0, .int .i64 0, .int .i64 0, .int .i64 0, .slice none 0 0, .slice none 0 0] 32)).alloc (.cells #[.string a, .string m, .int .i64 mo, .int .i64 ev, .int .i64 su, .int .i64 mx, .slice none 0 0, .slice none 0 0] 32))) := hid_intro ((((Below.refl _ _).alloc (Nat.le_refl _) _).alloc (by simp) _).alloc (by simp; omega) _)
 have HX0 := hid_intro (((BlkW.new w [.string a, .string m, .int .i64 mo, .int .i64 ev, .int .i64 su, .int .i64 mx, .slice ta tl tc, .slice ha hl hc] 25).below ((Below.refl _ _).alloc (Nat.le_refl _) (Obj.cells #[.string ⟨#[]⟩, .string ⟨#[]⟩, .int .i64 0, .int .i64 0, .int .i64 0, .int .i64 0, .slice none 0 0, .slice none 0 0] 32))).below ((Below.refl _ _).alloc (Nat.le_refl _) (Obj.cells #[.string a, .string m, .int .i64 mo, .int .i64 ev, .int .i64 su, .int .i64 mx, .slice none 0 0, .slice none 0 0] 32)))
 have HY0 := hid_intro ((BlkW.new (w.alloc (.cells #[.string a, .string m, .int .i64 mo, .int .i64 ev, .int .i64 su, .int .i64 mx, .slice ta tl tc, .slice ha hl hc] 25)) [.string ⟨#[]⟩, .string ⟨#[]⟩, .int .i64 0, .int .i64 0, .int .i64 0, .int .i64 0, .slice none 0 0, .slice none 0 0] 32).below ((Below.refl _ _).alloc (Nat.le_refl _) (Obj.cells #[.string a, .string m, .int .i64 mo, .int .i64 ev, .int .i64 su, .int .i64 mx, .slice none 0 0, .slice none 0 0] 32)))
 have HZ0 := hid_intro (BlkW.new ((w.alloc (.cells #[.string a, .string m, .int .i64 mo, .int .i64 ev, .int .i64 su, .int .i64 mx, .slice ta tl tc, .slice ha hl hc] 25)).alloc (.cells #[.string ⟨#[]⟩, .string ⟨#[]⟩, .int .i64 0, .int .i64 0, .int .i64 0, .int .i64 0, .slice none 0 0, .slice none 0 0] 32)) [.string a, .string m, .int .i64 mo, .int .i64 ev, .int .i64 su, .int .i64 mx, .slice none 0 0, .slice none 0 0] 32)
 have e1 : (w.alloc (.cells #[.string a, .string m, .int .i64 mo, .int .i64 ev, .int .i64 su, .int .i64 mx, .slice ta tl tc, .slice ha hl hc] 25)).heap.size = w.heap.size + 1 := by simp
 have e2 : ((w.alloc (.cells #[.string a, .string m, .int .i64 mo, .int .i64 ev, .int .i64 su, .int .i64 mx, .slice ta tl tc, .slice ha hl hc] 25)).alloc (.cells #[.string ⟨#[]⟩, .string ⟨#[]⟩, .int .i64 0, .int .i64 0, .int .i64 0, .int .i64 0, .slice none 0 0, .slice none 0 0] 32)).heap.size = w.heap.size + 1 + 1 := by simp
 rw [e1] at HY0
 rw [e2] at HZ0
 clear e1 e2
 go_enter Tryd.func8, Tryd.ntmps8
 go_wp2_with fail
 refine (H1.out _ HB0.out).mono ?_
 rintro e w1 ⟨rfl, hT1, hP1, hb1⟩
 have HM1 := hid_intro (show MadeG 1 tcells tz _ _ ts w1 from ⟨hT1, .inr ⟨_, rfl, Nat.le_refl _, by rw [Nat.mul_one]; exact HTL.out ▸ hP1⟩⟩)
 obtain ⟨g1, hg1⟩ : ∃ g1, g1 = (((w.alloc (.cells #[.string a, .string m, .int .i64 mo, .int .i64 ev, .int .i64 su, .int .i64 mx, .slice ta tl tc, .slice ha hl hc] 25)).alloc (.cells #[.string ⟨#[]⟩, .string ⟨#[]⟩, .int .i64 0, .int .i64 0, .int .i64 0, .int .i64 0, .slice none 0 0, .slice none 0 0] 32)).alloc (.cells #[.string a, .string m, .int .i64 mo, .int .i64 ev, .int .i64 su, .int .i64 mx, .slice none 0 0, .slice none 0 0] 32)).heap.size := ⟨_, rfl⟩
 have HG1 : Hid (w.heap.size + 3 = g1) := hid_intro (by rw [hg1]; simp)
 have HG1b : Hid (g1 < w1.heap.size) := hid_intro (by rw [hg1]; exact hP1.lt)
 rw [← hg1] at HM1 ⊢
 clear hg1
 have HX1 := hid_intro (HX0.out.below hb1)
 have HY1 := hid_intro ((HY0.out.below hb1).other (w.heap.size + 1 + 1) 6 (.slice (some ⟨g1, 0, none⟩) tl tl) (by omega))
 have HZ1 := hid_intro ((HZ0.out.below hb1).set 6 (.slice (some ⟨g1, 0, none⟩) tl tl) (by simp))
 have HZ1' := hid_intro (HZ0.out.below hb1)
 have HB1 : Hid (Below w.heap.size w (w1.setCell ⟨w.heap.size + 1 + 1, 6, none⟩ (.slice (some ⟨g1, 0, none⟩) tl tl))) := hid_intro ((HB0.out.trans (hb1.mono HB0.out.size)).setCell (by simp; omega) _)
 obtain ⟨⟨xl, xc⟩, _⟩ := HX1.out
 have x7 : w1.cell? ⟨w.heap.size, 7, none⟩ = some (.slice ha hl hc) := xc 7 (by simp)
 obtain ⟨⟨zl, zk⟩, zf⟩ := HZ1'.out
 have z6 : w1.cell? ⟨w.heap.size + 1 + 1, 6, none⟩ = some (.slice none 0 0) := zk 6 (by simp)
 have f6 : w1.frozen? ⟨w.heap.size + 1 + 1, 6, none⟩ = false := zf 6 (by simp)
 clear xc zk zf hT1 hP1 hb1 HZ1' HX0 HY0 HZ0 HX1
 replace HM1 := hid_intro (MadeG.put HM1.out (w.heap.size + 1 + 1) 6 (.slice (some ⟨g1, 0, none⟩) tl tl) (.inr (fun b off e => by simp at e; have := HG1.out; omega)))
 go_wp2_with fail
 refine (H2.out _ HB1.out).mono ?_
 rintro e w2 ⟨rfl, hT2, hP2, hb2⟩
 have HM2 := hid_intro (show MadeG 2 H.cells H.zero _ _ hs w2 from ⟨hT2, .inr ⟨_, rfl, Nat.le_refl _, HHL.out ▸ hP2⟩⟩)
 obtain ⟨g2, hg2⟩ : ∃ g2, g2 = (w1.setCell ⟨w.heap.size + 1 + 1, 6, none⟩ (.slice (some ⟨g1, 0, none⟩) tl tl)).heap.size := ⟨_, rfl⟩
 have HG2 : Hid (g1 < g2) := hid_intro (by rw [hg2]; simpa using HG1b.out)
 rw [← hg2] at HM2 ⊢
 clear hg2
 replace HM1 := hid_intro (HM1.out.below hb2)
 replace HY1 := hid_intro (HY1.out.below hb2)
 replace HZ1 := hid_intro (HZ1.out.below hb2)
 replace HB1 := hid_intro (HB1.out.trans (hb2.mono HB1.out.size))
 clear hT2 hP2 hb2 x7 z6 f6 xl zl
 obtain ⟨⟨zl, zk⟩, zf⟩ := HZ1.out
 have z0 : w2.cell? ⟨w.heap.size + 1 + 1, 0, none⟩ = some (.string a) := zk 0 (by simp)
 have z1 : w2.cell? ⟨w.heap.size + 1 + 1, 1, none⟩ = some (.string m) := zk 1 (by simp)
 have z2 : w2.cell? ⟨w.heap.size + 1 + 1, 2, none⟩ = some (.int .i64 mo) := zk 2 (by simp)
 have z3 : w2.cell? ⟨w.heap.size + 1 + 1, 3, none⟩ = some (.int .i64 ev) := zk 3 (by simp)
 have z4 : w2.cell? ⟨w.heap.size + 1 + 1, 4, none⟩ = some (.int .i64 su) := zk 4 (by simp)
 have z5 : w2.cell? ⟨w.heap.size + 1 + 1, 5, none⟩ = some (.int .i64 mx) := zk 5 (by simp)
 have z6 : w2.cell? ⟨w.heap.size + 1 + 1, 6, none⟩ = some (.slice (some ⟨g1, 0, none⟩) tl tl) := zk 6 (by simp)
 have z7 : w2.cell? ⟨w.heap.size + 1 + 1, 7, none⟩ = some (.slice none 0 0) := zk 7 (by simp)
 have f7 : w2.frozen? ⟨w.heap.size + 1 + 1, 7, none⟩ = false := zf 7 (by simp)
 obtain ⟨⟨yl, yk⟩, yf⟩ := HY1.out
 have y0 : w2.cell? ⟨w.heap.size + 1, 0, none⟩ = some (.string ⟨#[]⟩) := yk 0 (by simp)
 have q0 : w2.frozen? ⟨w.heap.size + 1, 0, none⟩ = false := yf 0 (by simp)
 have y1 : w2.cell? ⟨w.heap.size + 1, 1, none⟩ = some (.string ⟨#[]⟩) := yk 1 (by simp)
 have q1 : w2.frozen? ⟨w.heap.size + 1, 1, none⟩ = false := yf 1 (by simp)
 have y2 : w2.cell? ⟨w.heap.size + 1, 2, none⟩ = some (.int .i64 0) := yk 2 (by simp)
 have q2 : w2.frozen? ⟨w.heap.size + 1, 2, none⟩ = false := yf 2 (by simp)
 have y3 : w2.cell? ⟨w.heap.size + 1, 3, none⟩ = some (.int .i64 0) := yk 3 (by simp)
 have q3 : w2.frozen? ⟨w.heap.size + 1, 3, none⟩ = false := yf 3 (by simp)
 have y4 : w2.cell? ⟨w.heap.size + 1, 4, none⟩ = some (.int .i64 0) := yk 4 (by simp)
 have q4 : w2.frozen? ⟨w.heap.size + 1, 4, none⟩ = false := yf 4 (by simp)
 have y5 : w2.cell? ⟨w.heap.size + 1, 5, none⟩ = some (.int .i64 0) := yk 5 (by simp)
 have q5 : w2.frozen? ⟨w.heap.size + 1, 5, none⟩ = false := yf 5 (by simp)
 have y6 : w2.cell? ⟨w.heap.size + 1, 6, none⟩ = some (.slice none 0 0) := yk 6 (by simp)
 have q6 : w2.frozen? ⟨w.heap.size + 1, 6, none⟩ = false := yf 6 (by simp)
 have y7 : w2.cell? ⟨w.heap.size + 1, 7, none⟩ = some (.slice none 0 0) := yk 7 (by simp)
 have q7 : w2.frozen? ⟨w.heap.size + 1, 7, none⟩ = false := yf 7 (by simp)
 clear zk zf yk yf HY1 HZ1
 have HN1 : Hid (∀ b off, (some ⟨g1, 0, none⟩ : Option Addr) = some ⟨b, off, none⟩ → ∀ g, g ≤ w.heap.size + 1 + 1 → b ≠ g) := hid_intro (fun b off e g hg => by simp at e; have := HG1.out; omega)
 have HN2 : Hid (∀ b off, (some ⟨g2, 0, none⟩ : Option Addr) = some ⟨b, off, none⟩ → ∀ g, g ≤ w.heap.size + 1 + 1 → b ≠ g) := hid_intro (fun b off e g hg => by simp at e; have := HG1.out; have := HG2.out; omega)
 go_wp2_with fail
 refine bodyPost_ret (v := .agg #[.string a, .string m, .int .i64 mo, .int .i64 ev, .int .i64 su, .int .i64 mx, .slice (some ⟨g1, 0, none⟩) tl tl, .slice (some ⟨g2, 0, none⟩) hl hl]) (by simp [results, Tryd.results8, go_sem, y0, y1, y2, y3, y4, y5, y6, y7]) rfl ⟨_, rfl, HF.out _ g1 g2 (by have := HG1.out; omega) (by have := HG1.out; have := HG2.out; omega) (by have := HG2.out; omega) ?_ ?_, ?_⟩
 ·exact (MadeG.put (MadeG.put (MadeG.put (MadeG.put (MadeG.put (MadeG.put (MadeG.put (MadeG.put (MadeG.put HM1.out _ _ _ (.inr (fun b off e => HN1.out b off e _ (by omega)))) _ _ _ (.inr (fun b off e => HN1.out b off e _ (by omega)))) _ _ _ (.inr (fun b off e => HN1.out b off e _ (by omega)))) _ _ _ (.inr (fun b off e => HN1.out b off e _ (by omega)))) _ _ _ (.inr (fun b off e => HN1.out b off e _ (by omega)))) _ _ _ (.inr (fun b off e => HN1.out b off e _ (by omega)))) _ _ _ (.inr (fun b off e => HN1.out b off e _ (by omega)))) _ _ _ (.inr (fun b off e => HN1.out b off e _ (by omega)))) _ _ _ (.inr (fun b off e => HN1.out b off e _ (by omega))))
 ·exact (MadeG.put (MadeG.put (MadeG.put (MadeG.put (MadeG.put (MadeG.put (MadeG.put (MadeG.put (MadeG.put HM2.out _ _ _ (.inr (fun b off e => HN2.out b off e _ (by omega)))) _ _ _ (.inr (fun b off e => HN2.out b off e _ (by omega)))) _ _ _ (.inr (fun b off e => HN2.out b off e _ (by omega)))) _ _ _ (.inr (fun b off e => HN2.out b off e _ (by omega)))) _ _ _ (.inr (fun b off e => HN2.out b off e _ (by omega)))) _ _ _ (.inr (fun b off e => HN2.out b off e _ (by omega)))) _ _ _ (.inr (fun b off e => HN2.out b off e _ (by omega)))) _ _ _ (.inr (fun b off e => HN2.out b off e _ (by omega)))) _ _ _ (.inr (fun b off e => HN2.out b off e _ (by omega))))
 ·exact (((((((((HB1.out.setCell (by simp; omega) _).setCell (by simp) _).setCell (by simp) _).setCell (by simp) _).setCell (by simp) _).setCell (by simp) _).setCell (by simp) _).setCell (by simp) _).setCell (by simp) _)
theorem toTw_any (v : Value) (x : Wd) (w : World) (ht : x.ts.length ≤ 1048576) (hh : x.hs.length ≤ 1048576) (h : IsWd v x w) :
  Calls Tryd.prog 8 #[v] w fun e w' => ∃ v', e = .returned v' ∧ TwW w.heap.size x v' w' ∧ Below w.heap.size w w' := by
 obtain ⟨ta, tc, ha, hc, rfl, hT, hH⟩ := h
 exact toTw_in x.a x.m x.mo x.ev x.su x.mx ta x.ts tc ha x.hs hc w ht hh hT hH
end WinR
end Go.Proofs.YtnlmpejgiakepaaDoor
namespace Go.Proofs.YtnlmpejgiakepaaDoor
open Go.ChangeShapes Go.WideShapes Go.ChangeAt Go.RowKit
set_option linter.unusedVariables false
namespace WinR
open RowG (MadeG Rws)
open LtR (lt)
open DateR (Laid)
open CatR (Blk Blk.new)
theorem made_out {base : Nat} {z : Wd} {cd : Int} {v : Value} {w : World} (h : MadeW base z v w) : MadeO base z cd (outW v cd) w := by
 obtain ⟨ta, tc, ha, hc, rfl, h1, h2, h3⟩ := h
 exact ⟨ta, tc, ha, hc, rfl, h1, h2, h3⟩
theorem slok (g n : Nat) (h : n ≤ 1048576) : SlOk (some ⟨g, 0, none⟩) n n := .inr ⟨g, 0, rfl, Nat.le_refl _, by unfold maxLen; omega⟩
end WinR
end Go.Proofs.YtnlmpejgiakepaaDoor
namespace Go.Proofs.YtnlmpejgiakepaaDoor
open Go.ChangeShapes Go.WideShapes Go.ChangeAt Go.RowKit
set_option linter.unusedVariables false
namespace WinR
open RowG (MadeG Rws)
open EvtR (Pt)
open CatR (Blk Blk.new)
open DateR (Laid)
def AX (w : World) (a1 m1 : ByteArray) (mo1 ev1 su1 mx1 : Int) (ta1 : Option Addr) (tl1 tc1 : Nat) (ha1 : Option Addr) (hl1 hc1 : Nat) (i2 a2 m2 : ByteArray) (n2 k2 : Int) (t2 : ByteArray) (W : World) : Prop := Below w.heap.size w W ∧ w.heap.size + 1 + 1 < W.heap.size ∧ W.cell? ⟨w.heap.size, 0, none⟩ = some (.string a1) ∧ W.cell? ⟨w.heap.size, 1, none⟩ = some (.string m1) ∧ W.cell? ⟨w.heap.size, 2, none⟩ = some (.int .i64 mo1) ∧ W.cell? ⟨w.heap.size, 3, none⟩ = some (.int .i64 ev1) ∧ W.cell? ⟨w.heap.size, 4, none⟩ = some (.int .i64 su1) ∧ W.cell? ⟨w.heap.size, 5, none⟩ = some (.int .i64 mx1) ∧ W.cell? ⟨w.heap.size, 6, none⟩ = some (.slice ta1 tl1 tc1) ∧ W.cell? ⟨w.heap.size, 7, none⟩ = some (.slice ha1 hl1 hc1) ∧ W.cell? ⟨w.heap.size + 1, 0, none⟩ = some (.string i2) ∧ W.cell? ⟨w.heap.size + 1, 1, none⟩ = some (.string a2) ∧ W.cell? ⟨w.heap.size + 1, 2, none⟩ = some (.string m2) ∧ W.cell? ⟨w.heap.size + 1, 3, none⟩ = some (.int .i64 n2) ∧ W.cell? ⟨w.heap.size + 1, 4, none⟩ = some (.int .i64 k2) ∧ W.cell? ⟨w.heap.size + 1, 5, none⟩ = some (.string t2)
theorem AX.below {w : World} {a1 m1 : ByteArray} {mo1 ev1 su1 mx1 : Int} {ta1 : Option Addr} {tl1 tc1 : Nat} {ha1 : Option Addr} {hl1 hc1 : Nat} {i2 a2 m2 : ByteArray} {n2 k2 : Int} {t2 : ByteArray} {W W' : World} (h : AX w a1 m1 mo1 ev1 su1 mx1 ta1 tl1 tc1 ha1 hl1 hc1 i2 a2 m2 n2 k2 t2 W) (hb : Below W.heap.size W W') : AX w a1 m1 mo1 ev1 su1 mx1 ta1 tl1 tc1 ha1 hl1 hc1 i2 a2 m2 n2 k2 t2 W' := by
 obtain ⟨h0, h1, c0, c1, c2, c3, c4, c5, c6, c7, d0, d1, d2, d3, d4, d5⟩ := h
 have c := fun o => hb.cell (p := ⟨w.heap.size, o, none⟩) (by show w.heap.size < _; omega)
 have d := fun o => hb.cell (p := ⟨w.heap.size + 1, o, none⟩) (by show w.heap.size + 1 < _; omega)
 have := hb.size
 exact ⟨h0.trans (hb.mono h0.size), by omega, (c 0).trans c0, (c 1).trans c1, (c 2).trans c2, (c 3).trans c3, (c 4).trans c4, (c 5).trans c5, (c 6).trans c6, (c 7).trans c7, (d 0).trans d0, (d 1).trans d1, (d 2).trans d2, (d 3).trans d3, (d 4).trans d4, (d 5).trans d5⟩
theorem AX.grown {w : World} {a1 m1 : ByteArray} {mo1 ev1 su1 mx1 : Int} {ta1 : Option Addr} {tl1 tc1 : Nat} {ha1 : Option Addr} {hl1 hc1 : Nat} {i2 a2 m2 : ByteArray} {n2 k2 : Int} {t2 : ByteArray} {W W' : World} (h : AX w a1 m1 mo1 ev1 su1 mx1 ta1 tl1 tc1 ha1 hl1 hc1 i2 a2 m2 n2 k2 t2 W) (hg : W.grownBy W' (some (w.heap.size + 1 + 1))) : AX w a1 m1 mo1 ev1 su1 mx1 ta1 tl1 tc1 ha1 hl1 hc1 i2 a2 m2 n2 k2 t2 W' := by
 obtain ⟨h0, h1, c0, c1, c2, c3, c4, c5, c6, c7, d0, d1, d2, d3, d4, d5⟩ := h
 have c := fun o => World.cell?_of_block (a := ⟨w.heap.size, o, none⟩) (hg.block w.heap.size (by omega) (by simp; omega))
 have d := fun o => World.cell?_of_block (a := ⟨w.heap.size + 1, o, none⟩) (hg.block (w.heap.size + 1) (by omega) (by simp))
 have := hg.size
 exact ⟨h0.grown hg h0.size (fun k e => by simp only [Option.some.injEq] at e; omega), by omega, (c 0).trans c0, (c 1).trans c1, (c 2).trans c2, (c 3).trans c3, (c 4).trans c4, (c 5).trans c5, (c 6).trans c6, (c 7).trans c7, (d 0).trans d0, (d 1).trans d1, (d 2).trans d2, (d 3).trans d3, (d 4).trans d4, (d 5).trans d5⟩
set_option maxRecDepth 100000 in
set_option maxHeartbeats 16000000 in
theorem iadd_in (P : Value → Nat → World → Prop) (Y : Value → World → Prop) (a1 m1 : ByteArray) (mo1 ev1 su1 mx1 : Int) (ta1 : Option Addr) (tl1 tc1 : Nat) (ha1 : Option Addr) (hl1 hc1 : Nat) (i2 a2 m2 : ByteArray) (n2 k2 : Int) (t2 : ByteArray) (w : World) (hL : Laid w)
  (hKZ : ∀ v base W W', P v base W → W.grownBy W' (some (w.heap.size + 1 + 1)) → w.heap.size + 1 + 1 < base → P v base W')
  (ho : ∀ W, Laid W → Below w.heap.size w W → Calls Tryd.prog 28 #[.agg #[.string i2, .string a2, .string m2, .int .i64 n2, .int .i64 k2, .string t2]] W fun e w' => ∃ v, e = .returned v ∧ Y v w' ∧ Below W.heap.size W w')
  (hj : ∀ v W, Laid W → Below w.heap.size w W → Y v W → Calls Tryd.prog 27 #[.agg #[.string a1, .string m1, .int .i64 mo1, .int .i64 ev1, .int .i64 su1, .int .i64 mx1, .slice ta1 tl1 tc1, .slice ha1 hl1 hc1], v] W fun e w' => ∃ A M mo ev su mx ta tl tc ha hl hc cd, e = .returned (.agg #[.string A, .string M, .int .i64 mo, .int .i64 ev, .int .i64 su, .int .i64 mx, .slice ta tl tc, .slice ha hl hc, .int .i64 cd]) ∧ P (.agg #[.string A, .string M, .int .i64 mo, .int .i64 ev, .int .i64 su, .int .i64 mx, .slice ta tl tc, .slice ha hl hc, .int .i64 cd]) W.heap.size w' ∧ Below W.heap.size W w') :
  Calls Tryd.prog 10 #[.agg #[.string a1, .string m1, .int .i64 mo1, .int .i64 ev1, .int .i64 su1, .int .i64 mx1, .slice ta1 tl1 tc1, .slice ha1 hl1 hc1], .agg #[.string i2, .string a2, .string m2, .int .i64 n2, .int .i64 k2, .string t2]] w fun e w' => ∃ v, e = .returned v ∧ (∃ base, w.heap.size ≤ base ∧ P v base w') ∧ Below w.heap.size w w' := by
 have HL := hid_intro hL
 have HKZ := hid_intro hKZ
 have HO := hid_intro ho
 have HJ := hid_intro hj
 clear hL hKZ ho hj
 obtain ⟨W0, hW0⟩ : ∃ W0, W0 = (((w.alloc (.cells #[.string a1, .string m1, .int .i64 mo1, .int .i64 ev1, .int .i64 su1, .int .i64 mx1, .slice ta1 tl1 tc1, .slice ha1 hl1 hc1] 32)).alloc (.cells #[.string i2, .string a2, .string m2, .int .i64 n2, .int .i64 k2, .string t2] 37)).alloc (.cells #[.string ⟨#[]⟩, .string ⟨#[]⟩, .int .i64 0, .int .i64 0, .int .i64 0, .int .i64 0, .slice none 0 0, .slice none 0 0, .int .i64 0] 34)) := ⟨_, rfl⟩
 have HB0 : Hid (Below w.heap.size w W0) := hid_intro (by rw [hW0]; exact (((Below.refl _ _).alloc (by simp; try omega) _).alloc (by simp; try omega) _).alloc (by simp; try omega) _)
 have HA0 : Hid (Blk w.heap.size [.string a1, .string m1, .int .i64 mo1, .int .i64 ev1, .int .i64 su1, .int .i64 mx1, .slice ta1 tl1 tc1, .slice ha1 hl1 hc1] W0) := hid_intro (by
  rw [hW0]
  exact ((Blk.new w [.string a1, .string m1, .int .i64 mo1, .int .i64 ev1, .int .i64 su1, .int .i64 mx1, .slice ta1 tl1 tc1, .slice ha1 hl1 hc1] 32).below ((Below.refl _ _).alloc (Nat.le_refl _) _)).below ((Below.refl _ _).alloc (Nat.le_refl _) _))
 have HC0 : Hid (Blk (w.heap.size + 1) [.string i2, .string a2, .string m2, .int .i64 n2, .int .i64 k2, .string t2] W0) := hid_intro (by
  have := (Blk.new (w.alloc (.cells #[.string a1, .string m1, .int .i64 mo1, .int .i64 ev1, .int .i64 su1, .int .i64 mx1, .slice ta1 tl1 tc1, .slice ha1 hl1 hc1] 32)) [.string i2, .string a2, .string m2, .int .i64 n2, .int .i64 k2, .string t2] 37).below ((Below.refl _ _).alloc (Nat.le_refl _) (.cells #[.string ⟨#[]⟩, .string ⟨#[]⟩, .int .i64 0, .int .i64 0, .int .i64 0, .int .i64 0, .slice none 0 0, .slice none 0 0, .int .i64 0] 34))
  rw [hW0]
  simp only [World.size_alloc] at this
  exact this)
 have HP0 : Hid (Pt (w.heap.size + 1 + 1) 9 W0) := hid_intro (by
  have := StR.pt_new ((w.alloc (.cells #[.string a1, .string m1, .int .i64 mo1, .int .i64 ev1, .int .i64 su1, .int .i64 mx1, .slice ta1 tl1 tc1, .slice ha1 hl1 hc1] 32)).alloc (.cells #[.string i2, .string a2, .string m2, .int .i64 n2, .int .i64 k2, .string t2] 37)) [.string ⟨#[]⟩, .string ⟨#[]⟩, .int .i64 0, .int .i64 0, .int .i64 0, .int .i64 0, .slice none 0 0, .slice none 0 0, .int .i64 0] 34
  rw [hW0]
  simp only [World.size_alloc] at this
  exact this)
 have HW := hid_intro hW0
 clear hW0
 have HX1 := hid_intro (show AX w a1 m1 mo1 ev1 su1 mx1 ta1 tl1 tc1 ha1 hl1 hc1 i2 a2 m2 n2 k2 t2 W0 from ⟨HB0.out, HP0.out.lt, HA0.out.2 0 (by simp), HA0.out.2 1 (by simp), HA0.out.2 2 (by simp), HA0.out.2 3 (by simp), HA0.out.2 4 (by simp), HA0.out.2 5 (by simp), HA0.out.2 6 (by simp), HA0.out.2 7 (by simp), HC0.out.2 0 (by simp), HC0.out.2 1 (by simp), HC0.out.2 2 (by simp), HC0.out.2 3 (by simp), HC0.out.2 4 (by simp), HC0.out.2 5 (by simp)⟩)
 have HP1 := HP0
 clear HA0 HC0 HP0 HB0
 go_enter Tryd.func10, Tryd.ntmps10
 go_wp2_with fail
 rw [← HW.out]
 clear HW
 obtain ⟨W1, hW1⟩ : ∃ W1, W1 = W0 := ⟨_, rfl⟩
 subst hW1
 have HX2 : Hid (AX w a1 m1 mo1 ev1 su1 mx1 ta1 tl1 tc1 ha1 hl1 hc1 i2 a2 m2 n2 k2 t2 W1.drew) := hid_intro (@AX.below w a1 m1 mo1 ev1 su1 mx1 ta1 tl1 tc1 ha1 hl1 hc1 i2 a2 m2 n2 k2 t2 _ _ HX1.out (Below.refl _ _).drew)
 have HP2 : Hid (Pt (w.heap.size + 1 + 1) 9 W1.drew) := hid_intro (HP1.out.below (Below.refl _ _).drew)
 clear HX1 HP1
 refine wp_region_held_drew (S := (fun W => Below w.heap.size w W ∧ w.heap.size + 1 + 1 < W.heap.size ∧ W.cell? ⟨w.heap.size, 0, none⟩ = some (.string a1) ∧ W.cell? ⟨w.heap.size, 1, none⟩ = some (.string m1) ∧ W.cell? ⟨w.heap.size, 2, none⟩ = some (.int .i64 mo1) ∧ W.cell? ⟨w.heap.size, 3, none⟩ = some (.int .i64 ev1) ∧ W.cell? ⟨w.heap.size, 4, none⟩ = some (.int .i64 su1) ∧ W.cell? ⟨w.heap.size, 5, none⟩ = some (.int .i64 mx1) ∧ W.cell? ⟨w.heap.size, 6, none⟩ = some (.slice ta1 tl1 tc1) ∧ W.cell? ⟨w.heap.size, 7, none⟩ = some (.slice ha1 hl1 hc1) ∧ W.cell? ⟨w.heap.size + 1, 0, none⟩ = some (.string i2) ∧ W.cell? ⟨w.heap.size + 1, 1, none⟩ = some (.string a2) ∧ W.cell? ⟨w.heap.size + 1, 2, none⟩ = some (.string m2) ∧ W.cell? ⟨w.heap.size + 1, 3, none⟩ = some (.int .i64 n2) ∧ W.cell? ⟨w.heap.size + 1, 4, none⟩ = some (.int .i64 k2) ∧ W.cell? ⟨w.heap.size + 1, 5, none⟩ = some (.string t2))) (by kernel_rfl) HX2.out (fun hHeld => ?_)
 generalize W1.drew = kd at *
 refine tk (i := 0) (oi := { dst := some 5, op := Op.load 32 (Operand.tmp 2), type := 32, pos := "l07_window.go:257", after := #[], guard := none }) (v := ?_) ?_ ?_
 rotate_left
 ·(intro w hSw; (try dsimp only at hSw); go_simp) <;> with_reducible rfl
 try simp only [Act.put, SL]
 refine tk (i := 1) (oi := { dst := some 6, op := Op.load 37 (Operand.tmp 3), type := 37, pos := "l07_window.go:257", after := #[], guard := none }) (v := ?_) ?_ ?_
 rotate_left
 ·(intro w hSw; (try dsimp only at hSw); go_simp) <;> with_reducible rfl
 try simp only [Act.put, SL]
 refine wpAnyH_ready (rs := [2]) (by kernel_rfl) (by simp) ?_
 refine AllReadyH.cons (o := { dst := some 7, op := Op.call { callee := Callee.value (Operand.func 28), args := #[Operand.tmp 6], argTypes := #[37] }, type := 32, pos := "l07_window.go:257", after := #[{ on := 1, ground := Ground.data }], guard := none }) rfl (fun K hK => ?_) AllReadyH.nil
 go_simp
 go_at_call 28
 refine (HO.out _ (HL.out.below HX2.out.1) HX2.out.1).mono ?_
 rintro e q1 ⟨v2, rfl, hy1, hq1⟩
 try go_wp2_with fail
 have hx1 := @AX.below w a1 m1 mo1 ev1 su1 mx1 ta1 tl1 tc1 ha1 hl1 hc1 i2 a2 m2 n2 k2 t2 _ _ HX2.out hq1
 have hp1 := HP2.out.below hq1
 refine hK.out _ _ hx1 (fun _ => ?_)
 clear hK K
 try simp only [Act.put, SL]
 refine wpAnyH_ready (rs := [3]) (by kernel_rfl) (by simp) ?_
 refine AllReadyH.cons (o := { dst := some 8, op := Op.call { callee := Callee.value (Operand.func 27), args := #[Operand.tmp 5, Operand.tmp 7], argTypes := #[32, 32] }, type := 34, pos := "l07_window.go:257", after := #[{ on := 0, ground := Ground.data }, { on := 2, ground := Ground.data }, { on := 2, ground := Ground.chain }], guard := none }) rfl (fun K hK => ?_) AllReadyH.nil
 go_simp
 go_at_call 27
 refine (HJ.out _ _ (HL.out.below hx1.1) hx1.1 hy1).mono ?_
 rintro e q2 ⟨A, M, mo, ev, su, mx, ta, tl, tc, ha, hl, hc, cd, rfl, hz2, hq2⟩
 try go_wp2_with fail
 have hx2 := @AX.below w a1 m1 mo1 ev1 su1 mx1 ta1 tl1 tc1 ha1 hl1 hc1 i2 a2 m2 n2 k2 t2 _ _ hx1 hq2
 have hp2 := hp1.below hq2
 have hs1 : w.heap.size + 1 + 1 < q1.heap.size := hp1.lt
 refine hK.out _ _ hx2 (fun _ => ?_)
 clear hK K
 try simp only [Act.put, SL]
 refine wpAnyH_ready (rs := [4]) (by kernel_rfl) (by simp) ?_
 refine AllReadyH.cons (o := { dst := none, op := Op.store 34 (Operand.tmp 4) (Operand.tmp 8), type := 0, pos := "l07_window.go:257", after := #[{ on := 3, ground := Ground.data }, { on := 3, ground := Ground.chain }, { on := 0, ground := Ground.phase }, { on := 1, ground := Ground.phase }, { on := 2, ground := Ground.phase }, { on := 3, ground := Ground.phase }], guard := none }) rfl (fun K hK => ?_) AllReadyH.nil
 have zl := hp2.lt
 obtain ⟨e_0, y_0⟩ := hp2.has 0 (by omega)
 have z_0 := hp2.free 0 (by omega)
 obtain ⟨e_1, y_1⟩ := hp2.has 1 (by omega)
 have z_1 := hp2.free 1 (by omega)
 obtain ⟨e_2, y_2⟩ := hp2.has 2 (by omega)
 have z_2 := hp2.free 2 (by omega)
 obtain ⟨e_3, y_3⟩ := hp2.has 3 (by omega)
 have z_3 := hp2.free 3 (by omega)
 obtain ⟨e_4, y_4⟩ := hp2.has 4 (by omega)
 have z_4 := hp2.free 4 (by omega)
 obtain ⟨e_5, y_5⟩ := hp2.has 5 (by omega)
 have z_5 := hp2.free 5 (by omega)
 obtain ⟨e_6, y_6⟩ := hp2.has 6 (by omega)
 have z_6 := hp2.free 6 (by omega)
 obtain ⟨e_7, y_7⟩ := hp2.has 7 (by omega)
 have z_7 := hp2.free 7 (by omega)
 obtain ⟨e_8, y_8⟩ := hp2.has 8 (by omega)
 have z_8 := hp2.free 8 (by omega)
 go_simp
 try go_wp2_with fail
 have hg3 := StR.stL_grown (w.heap.size + 1 + 1) [.string A, .string M, .int .i64 mo, .int .i64 ev, .int .i64 su, .int .i64 mx, .slice ta tl tc, .slice ha hl hc, .int .i64 cd] 0 q2
 have hb3 := StR.stL_blk (vs := [.string A, .string M, .int .i64 mo, .int .i64 ev, .int .i64 su, .int .i64 mx, .slice ta tl tc, .slice ha hl hc, .int .i64 cd]) (W := q2) hp2 (by simp)
 have hx3 := @AX.grown w a1 m1 mo1 ev1 su1 mx1 ta1 tl1 tc1 ha1 hl1 hc1 i2 a2 m2 n2 k2 t2 _ _ hx2 hg3
 have hz3 := HKZ.out _ _ _ _ hz2 hg3 hs1
 simp only [StR.stL, Nat.zero_add, Nat.reduceAdd] at hx3 hb3 hz3
 refine hK.out _ _ hx3 (fun _ => ?_)
 clear hK K
 try simp only [Act.put, SL]
 generalize (((((((((q2.setCell ⟨w.heap.size + 1 + 1, 0, none⟩ (.string A)).setCell ⟨w.heap.size + 1 + 1, 1, none⟩ (.string M)).setCell ⟨w.heap.size + 1 + 1, 2, none⟩ (.int .i64 mo)).setCell ⟨w.heap.size + 1 + 1, 3, none⟩ (.int .i64 ev)).setCell ⟨w.heap.size + 1 + 1, 4, none⟩ (.int .i64 su)).setCell ⟨w.heap.size + 1 + 1, 5, none⟩ (.int .i64 mx)).setCell ⟨w.heap.size + 1 + 1, 6, none⟩ (.slice ta tl tc)).setCell ⟨w.heap.size + 1 + 1, 7, none⟩ (.slice ha hl hc)).setCell ⟨w.heap.size + 1 + 1, 8, none⟩ (.int .i64 cd)) = k9 at *
 refine wpAnyH_done (by kernel_rfl) ?_ _
 have HBF := hid_intro hx3.1
 have HZ3 := hid_intro hz3
 have HSQ : Hid (w.heap.size ≤ q1.heap.size) := hid_intro hx1.1.size
 have r0 : k9.cell? ⟨w.heap.size + 1 + 1, 0, none⟩ = some (.string A) := hb3.2 0 (by simp)
 have r1 : k9.cell? ⟨w.heap.size + 1 + 1, 1, none⟩ = some (.string M) := hb3.2 1 (by simp)
 have r2 : k9.cell? ⟨w.heap.size + 1 + 1, 2, none⟩ = some (.int .i64 mo) := hb3.2 2 (by simp)
 have r3 : k9.cell? ⟨w.heap.size + 1 + 1, 3, none⟩ = some (.int .i64 ev) := hb3.2 3 (by simp)
 have r4 : k9.cell? ⟨w.heap.size + 1 + 1, 4, none⟩ = some (.int .i64 su) := hb3.2 4 (by simp)
 have r5 : k9.cell? ⟨w.heap.size + 1 + 1, 5, none⟩ = some (.int .i64 mx) := hb3.2 5 (by simp)
 have r6 : k9.cell? ⟨w.heap.size + 1 + 1, 6, none⟩ = some (.slice ta tl tc) := hb3.2 6 (by simp)
 have r7 : k9.cell? ⟨w.heap.size + 1 + 1, 7, none⟩ = some (.slice ha hl hc) := hb3.2 7 (by simp)
 have r8 : k9.cell? ⟨w.heap.size + 1 + 1, 8, none⟩ = some (.int .i64 cd) := hb3.2 8 (by simp)
 have rl := hb3.1
 clear hx1 hx2 hx3 hp1 hp2 hq1 hq2 hy1 hz2 hz3 hg3 hb3 zl y_0 z_0 y_1 z_1 y_2 z_2 y_3 z_3 y_4 z_4 y_5 z_5 y_6 z_6 y_7 z_7 y_8 z_8
 go_wp2_with fail
 refine bodyPost_ret (v := .agg #[.string A, .string M, .int .i64 mo, .int .i64 ev, .int .i64 su, .int .i64 mx, .slice ta tl tc, .slice ha hl hc, .int .i64 cd]) (by simp [results, Tryd.results10, go_sem, r0, r1, r2, r3, r4, r5, r6, r7, r8]) rfl ⟨_, rfl, ⟨_, HSQ.out, HZ3.out⟩, HBF.out⟩
set_option maxRecDepth 100000 in
set_option maxHeartbeats 16000000 in
theorem sadd_in (P : Value → Nat → World → Prop) (Y : Value → World → Prop) (r1 r2 : Bool) (a1 m1 : ByteArray) (mo1 ev1 su1 mx1 : Int) (ta1 : Option Addr) (tl1 tc1 : Nat) (ha1 : Option Addr) (hl1 hc1 : Nat) (i2 a2 m2 : ByteArray) (n2 k2 : Int) (t2 : ByteArray) (w : World)
  (hKZ : ∀ v base W W', P v base W → W.grownBy W' (some (w.heap.size + 1 + 1)) → w.heap.size + 1 + 1 < base → P v base W')
  (hr1 : ∀ W, Below w.heap.size w W → Calls Tryd.prog 20 #[.agg #[.string a1, .string m1, .int .i64 mo1, .int .i64 ev1, .int .i64 su1, .int .i64 mx1, .slice ta1 tl1 tc1, .slice ha1 hl1 hc1]] W fun e w' => e = .returned (.bool r1) ∧ Below W.heap.size W w')
  (hr2 : ∀ W, Below w.heap.size w W → Calls Tryd.prog 21 #[.agg #[.string i2, .string a2, .string m2, .int .i64 n2, .int .i64 k2, .string t2]] W fun e w' => e = .returned (.bool r2) ∧ Below W.heap.size W w')
  (ho : r2 = true → ∀ W, Below w.heap.size w W → Calls Tryd.prog 24 #[.agg #[.string i2, .string a2, .string m2, .int .i64 n2, .int .i64 k2, .string t2]] W fun e w' => ∃ v, e = .returned v ∧ Y v w' ∧ Below W.heap.size W w')
  (hj : r1 = true → r2 = true → ∀ v W, Below w.heap.size w W → Y v W → Calls Tryd.prog 23 #[.agg #[.string a1, .string m1, .int .i64 mo1, .int .i64 ev1, .int .i64 su1, .int .i64 mx1, .slice ta1 tl1 tc1, .slice ha1 hl1 hc1], v] W fun e w' => ∃ A M mo ev su mx ta tl tc ha hl hc cd, e = .returned (.agg #[.string A, .string M, .int .i64 mo, .int .i64 ev, .int .i64 su, .int .i64 mx, .slice ta tl tc, .slice ha hl hc, .int .i64 cd]) ∧ P (.agg #[.string A, .string M, .int .i64 mo, .int .i64 ev, .int .i64 su, .int .i64 mx, .slice ta tl tc, .slice ha hl hc, .int .i64 cd]) W.heap.size w' ∧ Below W.heap.size W w') :
  Calls Tryd.prog 7 #[.agg #[.string a1, .string m1, .int .i64 mo1, .int .i64 ev1, .int .i64 su1, .int .i64 mx1, .slice ta1 tl1 tc1, .slice ha1 hl1 hc1], .agg #[.string i2, .string a2, .string m2, .int .i64 n2, .int .i64 k2, .string t2]] w fun e w' => ∃ v, e = .returned v ∧ (((r1 && r2) = false ∧ v = .agg #[.string ⟨#[]⟩, .string ⟨#[]⟩, .int .i64 0, .int .i64 0, .int .i64 0, .int .i64 0, .slice none 0 0, .slice none 0 0, .int .i64 1]) ∨ ((r1 && r2) = true ∧ ∃ base, w.heap.size ≤ base ∧ P v base w')) ∧ Below w.heap.size w w' := by
 have HKZ := hid_intro hKZ
 have HR1 := hid_intro hr1
 have HR2 := hid_intro hr2
 have HO := hid_intro ho
 have HJ := hid_intro hj
 have HIL := hid_intro sill
 clear hKZ hr1 hr2 ho hj
 obtain ⟨W0, hW0⟩ : ∃ W0, W0 = (((w.alloc (.cells #[.string a1, .string m1, .int .i64 mo1, .int .i64 ev1, .int .i64 su1, .int .i64 mx1, .slice ta1 tl1 tc1, .slice ha1 hl1 hc1] 32)).alloc (.cells #[.string i2, .string a2, .string m2, .int .i64 n2, .int .i64 k2, .string t2] 37)).alloc (.cells #[.string ⟨#[]⟩, .string ⟨#[]⟩, .int .i64 0, .int .i64 0, .int .i64 0, .int .i64 0, .slice none 0 0, .slice none 0 0, .int .i64 0] 34)) := ⟨_, rfl⟩
 have HB0 : Hid (Below w.heap.size w W0) := hid_intro (by rw [hW0]; exact (((Below.refl _ _).alloc (by simp; try omega) _).alloc (by simp; try omega) _).alloc (by simp; try omega) _)
 have HA0 : Hid (Blk w.heap.size [.string a1, .string m1, .int .i64 mo1, .int .i64 ev1, .int .i64 su1, .int .i64 mx1, .slice ta1 tl1 tc1, .slice ha1 hl1 hc1] W0) := hid_intro (by
  rw [hW0]
  exact ((Blk.new w [.string a1, .string m1, .int .i64 mo1, .int .i64 ev1, .int .i64 su1, .int .i64 mx1, .slice ta1 tl1 tc1, .slice ha1 hl1 hc1] 32).below ((Below.refl _ _).alloc (Nat.le_refl _) _)).below ((Below.refl _ _).alloc (Nat.le_refl _) _))
 have HC0 : Hid (Blk (w.heap.size + 1) [.string i2, .string a2, .string m2, .int .i64 n2, .int .i64 k2, .string t2] W0) := hid_intro (by
  have := (Blk.new (w.alloc (.cells #[.string a1, .string m1, .int .i64 mo1, .int .i64 ev1, .int .i64 su1, .int .i64 mx1, .slice ta1 tl1 tc1, .slice ha1 hl1 hc1] 32)) [.string i2, .string a2, .string m2, .int .i64 n2, .int .i64 k2, .string t2] 37).below ((Below.refl _ _).alloc (Nat.le_refl _) (.cells #[.string ⟨#[]⟩, .string ⟨#[]⟩, .int .i64 0, .int .i64 0, .int .i64 0, .int .i64 0, .slice none 0 0, .slice none 0 0, .int .i64 0] 34))
  rw [hW0]
  simp only [World.size_alloc] at this
  exact this)
 have HP0 : Hid (Pt (w.heap.size + 1 + 1) 9 W0) := hid_intro (by
  have := StR.pt_new ((w.alloc (.cells #[.string a1, .string m1, .int .i64 mo1, .int .i64 ev1, .int .i64 su1, .int .i64 mx1, .slice ta1 tl1 tc1, .slice ha1 hl1 hc1] 32)).alloc (.cells #[.string i2, .string a2, .string m2, .int .i64 n2, .int .i64 k2, .string t2] 37)) [.string ⟨#[]⟩, .string ⟨#[]⟩, .int .i64 0, .int .i64 0, .int .i64 0, .int .i64 0, .slice none 0 0, .slice none 0 0, .int .i64 0] 34
  rw [hW0]
  simp only [World.size_alloc] at this
  exact this)
 have HW := hid_intro hW0
 clear hW0
 go_enter Tryd.func7, Tryd.ntmps7
 have p0 : W0.cell? ⟨w.heap.size, 0, none⟩ = some (.string a1) := HA0.out.2 0 (by simp)
 have p1 : W0.cell? ⟨w.heap.size, 1, none⟩ = some (.string m1) := HA0.out.2 1 (by simp)
 have p2 : W0.cell? ⟨w.heap.size, 2, none⟩ = some (.int .i64 mo1) := HA0.out.2 2 (by simp)
 have p3 : W0.cell? ⟨w.heap.size, 3, none⟩ = some (.int .i64 ev1) := HA0.out.2 3 (by simp)
 have p4 : W0.cell? ⟨w.heap.size, 4, none⟩ = some (.int .i64 su1) := HA0.out.2 4 (by simp)
 have p5 : W0.cell? ⟨w.heap.size, 5, none⟩ = some (.int .i64 mx1) := HA0.out.2 5 (by simp)
 have p6 : W0.cell? ⟨w.heap.size, 6, none⟩ = some (.slice ta1 tl1 tc1) := HA0.out.2 6 (by simp)
 have p7 : W0.cell? ⟨w.heap.size, 7, none⟩ = some (.slice ha1 hl1 hc1) := HA0.out.2 7 (by simp)
 have pl := HA0.out.1
 go_wp2_with fail
 rw [← HW.out]
 refine (HR1.out _ HB0.out).mono ?_
 rintro e w1 ⟨rfl, hb1⟩
 have HB1 := hid_intro (HB0.out.trans (hb1.mono HB0.out.size))
 have HA1 := hid_intro (HA0.out.below hb1)
 have HC1 := hid_intro (HC0.out.below hb1)
 have HP1 := hid_intro (HP0.out.below hb1)
 clear hb1 HB0 HA0 HC0 HP0
 clear p0 p1 p2 p3 p4 p5 p6 p7 pl
 cases r1
 ·go_wp2_with fail
  refine (HIL.out 1 _).mono ?_
  rintro e w6 ⟨rfl, hb6⟩
  have HB6 := hid_intro (HB1.out.trans (hb6.mono HB1.out.size))
  have HP6 := hid_intro (HP1.out.below hb6)
  clear hb6
  have hp9 := HP6.out
  have hl9 := hp9.lt
  obtain ⟨ov0, r0⟩ := hp9.has 0 (by omega)
  have f0 := hp9.free 0 (by omega)
  obtain ⟨ov1, r1⟩ := hp9.has 1 (by omega)
  have f1 := hp9.free 1 (by omega)
  obtain ⟨ov2, r2⟩ := hp9.has 2 (by omega)
  have f2 := hp9.free 2 (by omega)
  obtain ⟨ov3, r3⟩ := hp9.has 3 (by omega)
  have f3 := hp9.free 3 (by omega)
  obtain ⟨ov4, r4⟩ := hp9.has 4 (by omega)
  have f4 := hp9.free 4 (by omega)
  obtain ⟨ov5, r5⟩ := hp9.has 5 (by omega)
  have f5 := hp9.free 5 (by omega)
  obtain ⟨ov6, r6⟩ := hp9.has 6 (by omega)
  have f6 := hp9.free 6 (by omega)
  obtain ⟨ov7, r7⟩ := hp9.has 7 (by omega)
  have f7 := hp9.free 7 (by omega)
  obtain ⟨ov8, r8⟩ := hp9.has 8 (by omega)
  have f8 := hp9.free 8 (by omega)
  have hgf := StR.stL_grown (w.heap.size + 1 + 1) [.string ⟨#[]⟩, .string ⟨#[]⟩, .int .i64 0, .int .i64 0, .int .i64 0, .int .i64 0, .slice none 0 0, .slice none 0 0, .int .i64 1] 0 w6
  have HBF := hid_intro (HB6.out.grown hgf HB6.out.size (fun k e => by simp only [Option.some.injEq] at e; omega))
  simp only [StR.stL, Nat.zero_add, Nat.reduceAdd] at HBF
  clear hgf hp9
  go_wp2_with fail
  refine bodyPost_ret (v := .agg #[.string ⟨#[]⟩, .string ⟨#[]⟩, .int .i64 0, .int .i64 0, .int .i64 0, .int .i64 0, .slice none 0 0, .slice none 0 0, .int .i64 1]) (by simp [results, Tryd.results7, go_sem, r0, r1, r2, r3, r4, r5, r6, r7, r8]) rfl ⟨_, rfl, .inl ⟨rfl, rfl⟩, HBF.out⟩
 have p0 : w1.cell? ⟨w.heap.size + 1, 0, none⟩ = some (.string i2) := HC1.out.2 0 (by simp)
 have p1 : w1.cell? ⟨w.heap.size + 1, 1, none⟩ = some (.string a2) := HC1.out.2 1 (by simp)
 have p2 : w1.cell? ⟨w.heap.size + 1, 2, none⟩ = some (.string m2) := HC1.out.2 2 (by simp)
 have p3 : w1.cell? ⟨w.heap.size + 1, 3, none⟩ = some (.int .i64 n2) := HC1.out.2 3 (by simp)
 have p4 : w1.cell? ⟨w.heap.size + 1, 4, none⟩ = some (.int .i64 k2) := HC1.out.2 4 (by simp)
 have p5 : w1.cell? ⟨w.heap.size + 1, 5, none⟩ = some (.string t2) := HC1.out.2 5 (by simp)
 have pl := HC1.out.1
 go_wp2_with fail
 refine (HR2.out _ HB1.out).mono ?_
 rintro e w2 ⟨rfl, hb2⟩
 have HB2 := hid_intro (HB1.out.trans (hb2.mono HB1.out.size))
 have HA2 := hid_intro (HA1.out.below hb2)
 have HC2 := hid_intro (HC1.out.below hb2)
 have HP2 := hid_intro (HP1.out.below hb2)
 clear hb2 HB1 HA1 HC1 HP1
 clear p0 p1 p2 p3 p4 p5 pl
 cases r2
 ·go_wp2_with fail
  refine (HIL.out 1 _).mono ?_
  rintro e w6 ⟨rfl, hb6⟩
  have HB6 := hid_intro (HB2.out.trans (hb6.mono HB2.out.size))
  have HP6 := hid_intro (HP2.out.below hb6)
  clear hb6
  have hp9 := HP6.out
  have hl9 := hp9.lt
  obtain ⟨ov0, r0⟩ := hp9.has 0 (by omega)
  have f0 := hp9.free 0 (by omega)
  obtain ⟨ov1, r1⟩ := hp9.has 1 (by omega)
  have f1 := hp9.free 1 (by omega)
  obtain ⟨ov2, r2⟩ := hp9.has 2 (by omega)
  have f2 := hp9.free 2 (by omega)
  obtain ⟨ov3, r3⟩ := hp9.has 3 (by omega)
  have f3 := hp9.free 3 (by omega)
  obtain ⟨ov4, r4⟩ := hp9.has 4 (by omega)
  have f4 := hp9.free 4 (by omega)
  obtain ⟨ov5, r5⟩ := hp9.has 5 (by omega)
  have f5 := hp9.free 5 (by omega)
  obtain ⟨ov6, r6⟩ := hp9.has 6 (by omega)
  have f6 := hp9.free 6 (by omega)
  obtain ⟨ov7, r7⟩ := hp9.has 7 (by omega)
  have f7 := hp9.free 7 (by omega)
  obtain ⟨ov8, r8⟩ := hp9.has 8 (by omega)
  have f8 := hp9.free 8 (by omega)
  have hgf := StR.stL_grown (w.heap.size + 1 + 1) [.string ⟨#[]⟩, .string ⟨#[]⟩, .int .i64 0, .int .i64 0, .int .i64 0, .int .i64 0, .slice none 0 0, .slice none 0 0, .int .i64 1] 0 w6
  have HBF := hid_intro (HB6.out.grown hgf HB6.out.size (fun k e => by simp only [Option.some.injEq] at e; omega))
  simp only [StR.stL, Nat.zero_add, Nat.reduceAdd] at HBF
  clear hgf hp9
  go_wp2_with fail
  refine bodyPost_ret (v := .agg #[.string ⟨#[]⟩, .string ⟨#[]⟩, .int .i64 0, .int .i64 0, .int .i64 0, .int .i64 0, .slice none 0 0, .slice none 0 0, .int .i64 1]) (by simp [results, Tryd.results7, go_sem, r0, r1, r2, r3, r4, r5, r6, r7, r8]) rfl ⟨_, rfl, .inl ⟨rfl, rfl⟩, HBF.out⟩
 have HX1 := hid_intro (show AX w a1 m1 mo1 ev1 su1 mx1 ta1 tl1 tc1 ha1 hl1 hc1 i2 a2 m2 n2 k2 t2 w2 from ⟨HB2.out, HP2.out.lt, HA2.out.2 0 (by simp), HA2.out.2 1 (by simp), HA2.out.2 2 (by simp), HA2.out.2 3 (by simp), HA2.out.2 4 (by simp), HA2.out.2 5 (by simp), HA2.out.2 6 (by simp), HA2.out.2 7 (by simp), HC2.out.2 0 (by simp), HC2.out.2 1 (by simp), HC2.out.2 2 (by simp), HC2.out.2 3 (by simp), HC2.out.2 4 (by simp), HC2.out.2 5 (by simp)⟩)
 have HP1 := HP2
 clear HA2 HC2 HP2 HB2 HIL HR1 HR2 HW
 replace HO := hid_intro (HO.out (by trivial))
 replace HJ := hid_intro (HJ.out (by trivial) (by trivial))
 go_wp2_with fail
 obtain ⟨W1, hW1⟩ : ∃ W1, W1 = w2 := ⟨_, rfl⟩
 subst hW1
 have HX2 : Hid (AX w a1 m1 mo1 ev1 su1 mx1 ta1 tl1 tc1 ha1 hl1 hc1 i2 a2 m2 n2 k2 t2 W1.drew) := hid_intro (@AX.below w a1 m1 mo1 ev1 su1 mx1 ta1 tl1 tc1 ha1 hl1 hc1 i2 a2 m2 n2 k2 t2 _ _ HX1.out (Below.refl _ _).drew)
 have HP2 : Hid (Pt (w.heap.size + 1 + 1) 9 W1.drew) := hid_intro (HP1.out.below (Below.refl _ _).drew)
 clear HX1 HP1
 refine wp_region_held_drew (S := (fun W => Below w.heap.size w W ∧ w.heap.size + 1 + 1 < W.heap.size ∧ W.cell? ⟨w.heap.size, 0, none⟩ = some (.string a1) ∧ W.cell? ⟨w.heap.size, 1, none⟩ = some (.string m1) ∧ W.cell? ⟨w.heap.size, 2, none⟩ = some (.int .i64 mo1) ∧ W.cell? ⟨w.heap.size, 3, none⟩ = some (.int .i64 ev1) ∧ W.cell? ⟨w.heap.size, 4, none⟩ = some (.int .i64 su1) ∧ W.cell? ⟨w.heap.size, 5, none⟩ = some (.int .i64 mx1) ∧ W.cell? ⟨w.heap.size, 6, none⟩ = some (.slice ta1 tl1 tc1) ∧ W.cell? ⟨w.heap.size, 7, none⟩ = some (.slice ha1 hl1 hc1) ∧ W.cell? ⟨w.heap.size + 1, 0, none⟩ = some (.string i2) ∧ W.cell? ⟨w.heap.size + 1, 1, none⟩ = some (.string a2) ∧ W.cell? ⟨w.heap.size + 1, 2, none⟩ = some (.string m2) ∧ W.cell? ⟨w.heap.size + 1, 3, none⟩ = some (.int .i64 n2) ∧ W.cell? ⟨w.heap.size + 1, 4, none⟩ = some (.int .i64 k2) ∧ W.cell? ⟨w.heap.size + 1, 5, none⟩ = some (.string t2))) (by kernel_rfl) HX2.out (fun hHeld => ?_)
 generalize W1.drew = kd at *
 refine tk (i := 0) (oi := { dst := some 14, op := Op.load 32 (Operand.tmp 2), type := 32, pos := "l07_window.go:109", after := #[], guard := none }) (v := ?_) ?_ ?_
 rotate_left
 ·(intro w hSw; (try dsimp only at hSw); go_simp) <;> with_reducible rfl
 try simp only [Act.put, SL]
 refine tk (i := 1) (oi := { dst := some 15, op := Op.load 37 (Operand.tmp 3), type := 37, pos := "l07_window.go:109", after := #[], guard := none }) (v := ?_) ?_ ?_
 rotate_left
 ·(intro w hSw; (try dsimp only at hSw); go_simp) <;> with_reducible rfl
 try simp only [Act.put, SL]
 refine wpAnyH_ready (rs := [2]) (by kernel_rfl) (by simp) ?_
 refine AllReadyH.cons (o := { dst := some 16, op := Op.call { callee := Callee.value (Operand.func 24), args := #[Operand.tmp 15], argTypes := #[37] }, type := 32, pos := "l07_window.go:109", after := #[{ on := 1, ground := Ground.data }], guard := none }) rfl (fun K hK => ?_) AllReadyH.nil
 go_simp
 go_at_call 24
 refine (HO.out _ HX2.out.1).mono ?_
 rintro e q1 ⟨v2, rfl, hy1, hq1⟩
 try go_wp2_with fail
 have hx1 := @AX.below w a1 m1 mo1 ev1 su1 mx1 ta1 tl1 tc1 ha1 hl1 hc1 i2 a2 m2 n2 k2 t2 _ _ HX2.out hq1
 have hp1 := HP2.out.below hq1
 refine hK.out _ _ hx1 (fun _ => ?_)
 clear hK K
 try simp only [Act.put, SL]
 refine wpAnyH_ready (rs := [3]) (by kernel_rfl) (by simp) ?_
 refine AllReadyH.cons (o := { dst := some 17, op := Op.call { callee := Callee.value (Operand.func 23), args := #[Operand.tmp 14, Operand.tmp 16], argTypes := #[32, 32] }, type := 34, pos := "l07_window.go:109", after := #[{ on := 0, ground := Ground.data }, { on := 2, ground := Ground.data }, { on := 2, ground := Ground.chain }], guard := none }) rfl (fun K hK => ?_) AllReadyH.nil
 go_simp
 go_at_call 23
 refine (HJ.out _ _ hx1.1 hy1).mono ?_
 rintro e q2 ⟨A, M, mo, ev, su, mx, ta, tl, tc, ha, hl, hc, cd, rfl, hz2, hq2⟩
 try go_wp2_with fail
 have hx2 := @AX.below w a1 m1 mo1 ev1 su1 mx1 ta1 tl1 tc1 ha1 hl1 hc1 i2 a2 m2 n2 k2 t2 _ _ hx1 hq2
 have hp2 := hp1.below hq2
 have hs1 : w.heap.size + 1 + 1 < q1.heap.size := hp1.lt
 refine hK.out _ _ hx2 (fun _ => ?_)
 clear hK K
 try simp only [Act.put, SL]
 refine wpAnyH_ready (rs := [4]) (by kernel_rfl) (by simp) ?_
 refine AllReadyH.cons (o := { dst := none, op := Op.store 34 (Operand.tmp 4) (Operand.tmp 17), type := 0, pos := "l07_window.go:109", after := #[{ on := 3, ground := Ground.data }, { on := 3, ground := Ground.chain }, { on := 0, ground := Ground.phase }, { on := 1, ground := Ground.phase }, { on := 2, ground := Ground.phase }, { on := 3, ground := Ground.phase }], guard := none }) rfl (fun K hK => ?_) AllReadyH.nil
 have zl := hp2.lt
 obtain ⟨e_0, y_0⟩ := hp2.has 0 (by omega)
 have z_0 := hp2.free 0 (by omega)
 obtain ⟨e_1, y_1⟩ := hp2.has 1 (by omega)
 have z_1 := hp2.free 1 (by omega)
 obtain ⟨e_2, y_2⟩ := hp2.has 2 (by omega)
 have z_2 := hp2.free 2 (by omega)
 obtain ⟨e_3, y_3⟩ := hp2.has 3 (by omega)
 have z_3 := hp2.free 3 (by omega)
 obtain ⟨e_4, y_4⟩ := hp2.has 4 (by omega)
 have z_4 := hp2.free 4 (by omega)
 obtain ⟨e_5, y_5⟩ := hp2.has 5 (by omega)
 have z_5 := hp2.free 5 (by omega)
 obtain ⟨e_6, y_6⟩ := hp2.has 6 (by omega)
 have z_6 := hp2.free 6 (by omega)
 obtain ⟨e_7, y_7⟩ := hp2.has 7 (by omega)
 have z_7 := hp2.free 7 (by omega)
 obtain ⟨e_8, y_8⟩ := hp2.has 8 (by omega)
 have z_8 := hp2.free 8 (by omega)
 go_simp
 try go_wp2_with fail
 have hg3 := StR.stL_grown (w.heap.size + 1 + 1) [.string A, .string M, .int .i64 mo, .int .i64 ev, .int .i64 su, .int .i64 mx, .slice ta tl tc, .slice ha hl hc, .int .i64 cd] 0 q2
 have hb3 := StR.stL_blk (vs := [.string A, .string M, .int .i64 mo, .int .i64 ev, .int .i64 su, .int .i64 mx, .slice ta tl tc, .slice ha hl hc, .int .i64 cd]) (W := q2) hp2 (by simp)
 have hx3 := @AX.grown w a1 m1 mo1 ev1 su1 mx1 ta1 tl1 tc1 ha1 hl1 hc1 i2 a2 m2 n2 k2 t2 _ _ hx2 hg3
 have hz3 := HKZ.out _ _ _ _ hz2 hg3 hs1
 simp only [StR.stL, Nat.zero_add, Nat.reduceAdd] at hx3 hb3 hz3
 refine hK.out _ _ hx3 (fun _ => ?_)
 clear hK K
 try simp only [Act.put, SL]
 generalize (((((((((q2.setCell ⟨w.heap.size + 1 + 1, 0, none⟩ (.string A)).setCell ⟨w.heap.size + 1 + 1, 1, none⟩ (.string M)).setCell ⟨w.heap.size + 1 + 1, 2, none⟩ (.int .i64 mo)).setCell ⟨w.heap.size + 1 + 1, 3, none⟩ (.int .i64 ev)).setCell ⟨w.heap.size + 1 + 1, 4, none⟩ (.int .i64 su)).setCell ⟨w.heap.size + 1 + 1, 5, none⟩ (.int .i64 mx)).setCell ⟨w.heap.size + 1 + 1, 6, none⟩ (.slice ta tl tc)).setCell ⟨w.heap.size + 1 + 1, 7, none⟩ (.slice ha hl hc)).setCell ⟨w.heap.size + 1 + 1, 8, none⟩ (.int .i64 cd)) = k9 at *
 refine wpAnyH_done (by kernel_rfl) ?_ _
 have HBF := hid_intro hx3.1
 have HZ3 := hid_intro hz3
 have HSQ : Hid (w.heap.size ≤ q1.heap.size) := hid_intro hx1.1.size
 have r0 : k9.cell? ⟨w.heap.size + 1 + 1, 0, none⟩ = some (.string A) := hb3.2 0 (by simp)
 have r1 : k9.cell? ⟨w.heap.size + 1 + 1, 1, none⟩ = some (.string M) := hb3.2 1 (by simp)
 have r2 : k9.cell? ⟨w.heap.size + 1 + 1, 2, none⟩ = some (.int .i64 mo) := hb3.2 2 (by simp)
 have r3 : k9.cell? ⟨w.heap.size + 1 + 1, 3, none⟩ = some (.int .i64 ev) := hb3.2 3 (by simp)
 have r4 : k9.cell? ⟨w.heap.size + 1 + 1, 4, none⟩ = some (.int .i64 su) := hb3.2 4 (by simp)
 have r5 : k9.cell? ⟨w.heap.size + 1 + 1, 5, none⟩ = some (.int .i64 mx) := hb3.2 5 (by simp)
 have r6 : k9.cell? ⟨w.heap.size + 1 + 1, 6, none⟩ = some (.slice ta tl tc) := hb3.2 6 (by simp)
 have r7 : k9.cell? ⟨w.heap.size + 1 + 1, 7, none⟩ = some (.slice ha hl hc) := hb3.2 7 (by simp)
 have r8 : k9.cell? ⟨w.heap.size + 1 + 1, 8, none⟩ = some (.int .i64 cd) := hb3.2 8 (by simp)
 have rl := hb3.1
 clear hx1 hx2 hx3 hp1 hp2 hq1 hq2 hy1 hz2 hz3 hg3 hb3 zl y_0 z_0 y_1 z_1 y_2 z_2 y_3 z_3 y_4 z_4 y_5 z_5 y_6 z_6 y_7 z_7 y_8 z_8
 go_wp2_with fail
 refine bodyPost_ret (v := .agg #[.string A, .string M, .int .i64 mo, .int .i64 ev, .int .i64 su, .int .i64 mx, .slice ta tl tc, .slice ha hl hc, .int .i64 cd]) (by simp [results, Tryd.results7, go_sem, r0, r1, r2, r3, r4, r5, r6, r7, r8]) rfl ⟨_, rfl, .inr ⟨rfl, _, HSQ.out, HZ3.out⟩, HBF.out⟩
end WinR
end Go.Proofs.YtnlmpejgiakepaaDoor
namespace Go.Proofs.YtnlmpejgiakepaaDoor
open Go.ChangeShapes Go.WideShapes Go.ChangeAt Go.RowKit
set_option linter.unusedVariables false
namespace HourR
/-- Either answer. -/
def hourV (n : Int) : Int := if 0 ≤ n ∧ n ≤ 121000000 then n.tdiv 60 else -1
theorem hour_key (n : Int) : (0 ≤ n ∧ n ≤ 121000000) ∨ (¬ 0 ≤ n) ∨ (0 ≤ n ∧ ¬ n ≤ 121000000) := by omega
theorem hour_bd (n : Int) (h1 : 0 ≤ n) (h2 : n ≤ 121000000) : 0 ≤ n.tdiv 60 ∧ n.tdiv 60 ≤ 121000000 := by
 rw [Int.tdiv_eq_ediv_of_nonneg h1]; omega
theorem impl_hour (n : Int) (w : World) : Calls Tryd.prog 61 #[.int .i64 n] w fun e w' => e = .returned (.int .i64 (hourV n)) ∧ w' = w := by
 unfold hourV
 rcases hour_key n with ⟨h1, h2⟩ | h1 | ⟨h1, h2⟩
 ·obtain ⟨b1, b2⟩ := hour_bd n h1 h2
  rw [if_pos ⟨h1, h2⟩]
  generalize hq : n.tdiv 60 = q at *
  go_enter Tryd.func61, Tryd.ntmps61
  go_wp2
  go_ret
  first | exact ⟨rfl, rfl⟩ | exact ⟨by rw [← hq], rfl⟩
 all_goals
  rw [if_neg (by omega)]
  go_enter Tryd.func61, Tryd.ntmps61
  go_wp2
  go_ret
  exact ⟨rfl, rfl⟩
end HourR
end Go.Proofs.YtnlmpejgiakepaaDoor
namespace Go.Proofs.YtnlmpejgiakepaaDoor
open Go.ChangeShapes Go.WideShapes Go.ChangeAt Go.RowKit
set_option linter.unusedVariables false
namespace WinR
open RowG (MadeG Rws)
open EvtR (Pt ev evB empty_of full_of)
open CatR (Blk Blk.new)
open DateR (Laid)
/-- An event's tags. -/
def tgl (t : ByteArray) : List ByteArray := if t.size = 0 then [] else [t]
theorem tgl_no {t : ByteArray} (h : t.size = 0) : tgl t = [] := by unfold tgl; rw [if_pos h]
theorem tgl_yes {t : ByteArray} (h : ¬ t.size = 0) : tgl t = [t] := by unfold tgl; rw [if_neg h]
theorem tgs_one (t : ByteArray) (w : World) (T : TypeId) : Tgs (some ⟨w.heap.size, 0, none⟩) [t] (w.alloc (.cells #[.string t] T)) :=
 .inr ⟨_, _, rfl, by simp, fun j hj => by
  obtain rfl : j = 0 := by simpa using hj
  intro c hc
  obtain rfl : c = 0 := by omega
  simp [go_sem, tcells]⟩
theorem hrs_one1 (x y : Int) (w : World) (T : TypeId) : Hrs (some ⟨w.heap.size, 0, none⟩) [⟨x, y⟩] (w.alloc (.cells #[.int .i64 x, .int .i64 y] T)) :=
 .inr ⟨_, _, rfl, by simp, fun j hj => by
  obtain rfl : j = 0 := by simpa using hj
  intro c hc
  match c, hc with
  | 0, _ => simp [go_sem, H.cells]
  | 1, _ => simp [go_sem, H.cells]⟩
/-- What the region reads. -/
def UOx (B : Nat) (W0 : World) (a m : ByteArray) (n k : Int) (W : World) : Prop := Below W0.heap.size W0 W ∧ B < W0.heap.size ∧ W.cell? ⟨B, 1, none⟩ = some (.string a) ∧ W.cell? ⟨B, 2, none⟩ = some (.string m) ∧ W.cell? ⟨B, 3, none⟩ = some (.int .i64 n) ∧ W.cell? ⟨B, 4, none⟩ = some (.int .i64 k)
theorem UOx.below {B : Nat} {W0 : World} {a m : ByteArray} {n k : Int} {W W' : World} (h : UOx B W0 a m n k W) (hb : Below W.heap.size W W') : UOx B W0 a m n k W' := by
 obtain ⟨h0, h1, c1, c2, c3, c4⟩ := h
 have c := fun o => hb.cell (p := ⟨B, o, none⟩) (Nat.lt_of_lt_of_le h1 h0.size)
 exact ⟨h0.trans (hb.mono h0.size), h1, (c 1).trans c1, (c 2).trans c2, (c 3).trans c3, (c 4).trans c4⟩
theorem UOx.put {B : Nat} {W0 : World} {a m : ByteArray} {n k : Int} {W : World} (h : UOx B W0 a m n k W) (V o : Nat) (v : Value) (hV : W0.heap.size ≤ V) : UOx B W0 a m n k (W.setCell ⟨V, o, none⟩ v) := by
 obtain ⟨h0, h1, c1, c2, c3, c4⟩ := h
 have e := (RowG.grown_set W V o v).block B (Nat.lt_of_lt_of_le h1 h0.size) (by simp; omega)
 have c := fun k => World.cell?_of_block (a := ⟨B, k, none⟩) e
 exact ⟨h0.setCell hV _, h1, (c 1).trans c1, (c 2).trans c2, (c 3).trans c3, (c 4).trans c4⟩
theorem Hrs.put {ao : Option Addr} {hs : List H} {w : World} (h : Hrs ao hs w) (g o : Nat) (v : Value) (hne : ∀ b off, ao = some ⟨b, off, none⟩ → b ≠ g) : Hrs ao hs (w.setCell ⟨g, o, none⟩ v) := Rws.put h g o v (.inr hne)
set_option maxRecDepth 100000 in
set_option maxHeartbeats 16000000 in
theorem of_in_s (i a m t : ByteArray) (n k mo : Int) (w : World) (li : i.size ≤ 1048576) (la : a.size ≤ 1048576) (lm : m.size ≤ 1048576) (lt : t.size ≤ 1048576) (hev : evB i a m n k t = true) (hmo : ∀ w, Laid w → Calls Tryd.prog 58 #[.int .i64 n] w fun e w' => e = .returned (.int .i64 mo) ∧ Below w.heap.size w w') (hL : Laid w) :
  Calls Tryd.prog 28 #[ev i a m n k t] w fun e w' => ∃ v, e = .returned v ∧ MadeWS w.heap.size ⟨a, m, mo, 1, k, k, tgl t, [⟨HourR.hourV n, k⟩]⟩ v w' ∧ Below w.heap.size w w' := by
 have HE := hid_intro (fun w => EvtR.impl_event i a m n k t li la lm lt w)
 rw [hev] at HE
 have HMo := hid_intro hmo
 have HHo := hid_intro (fun w => HourR.impl_hour n w)
 generalize HourR.hourV n = hq at *
 have HWi : Hid (∀ W ta tc HB, Tgs ta (tgl t) W → Hrs (some ⟨HB, 0, none⟩) [⟨hq, k⟩] W → Calls Tryd.prog 56 #[.agg #[.string a, .string m, .int .i64 mo, .int .i64 1, .int .i64 k, .int .i64 k, .slice ta (tgl t).length tc, .func (.func 88) #[] #[], .func (.func 89) #[] #[], .slice (some ⟨HB, 0, none⟩) 1 1, .func (.func 90) #[] #[], .func (.func 91) #[] #[]]] W fun e w' => ∃ v, e = .returned v ∧ MadeWS W.heap.size ⟨a, m, mo, 1, k, k, tgl t, [⟨hq, k⟩]⟩ v w' ∧ Below W.heap.size W w') := hid_intro (fun W ta tc HB h1 h2 => by
  have l1 : (tgl t).length ≤ 1 := by unfold tgl; split <;> simp
  have l2 : ∀ s ∈ tgl t, s.size ≤ 1048576 := by unfold tgl; split <;> simp [lt]
  exact impl_win_s ⟨a, m, mo, 1, k, k, tgl t, [⟨hq, k⟩]⟩ ta tc _ 1 W la lm (by show (tgl t).length ≤ _; omega) l2 (by simp) (by simp) h1 h2)
 have HT0 := hid_intro (fun (h : t.size = 0) => tgl_no h)
 have HT1 := hid_intro (fun (h : ¬ t.size = 0) => tgl_yes h)
 generalize tgl t = ts at *
 obtain ⟨tl, htl⟩ : ∃ tl, tl = ts.length := ⟨_, rfl⟩
 rw [← htl] at HWi
 have HTL := hid_intro htl
 have HL := hid_intro hL
 clear htl hL hmo hev
 unfold ev
 have HB0 : Hid (Below w.heap.size w ((w.alloc (.cells #[.string i, .string a, .string m, .int .i64 n, .int .i64 k, .string t] 37)).alloc (.cells #[.string ⟨#[]⟩, .string ⟨#[]⟩, .int .i64 0, .int .i64 0, .int .i64 0, .int .i64 0, .slice none 0 0, .slice none 0 0] 32))) := hid_intro (((Below.refl _ _).alloc (Nat.le_refl _) _).alloc (by simp) _)
 have HX0 := hid_intro ((Blk.new w [.string i, .string a, .string m, .int .i64 n, .int .i64 k, .string t] 37).below ((Below.refl _ _).alloc (Nat.le_refl _) (Obj.cells #[.string ⟨#[]⟩, .string ⟨#[]⟩, .int .i64 0, .int .i64 0, .int .i64 0, .int .i64 0, .slice none 0 0, .slice none 0 0] 32)))
 have HY0 := hid_intro (BlkW.new (w.alloc (.cells #[.string i, .string a, .string m, .int .i64 n, .int .i64 k, .string t] 37)) [.string ⟨#[]⟩, .string ⟨#[]⟩, .int .i64 0, .int .i64 0, .int .i64 0, .int .i64 0, .slice none 0 0, .slice none 0 0] 32)
 rw [show (w.alloc (.cells #[.string i, .string a, .string m, .int .i64 n, .int .i64 k, .string t] 37)).heap.size = w.heap.size + 1 by simp] at HY0
 go_enter Tryd.func28, Tryd.ntmps28
 go_wp2_with fail
 refine (HE.out _).mono ?_
 rintro e w1 ⟨rfl, hb1⟩
 have HX1 := hid_intro (HX0.out.below hb1)
 have HY1 := hid_intro (HY0.out.below hb1)
 have HB1 := hid_intro (HB0.out.trans (hb1.mono HB0.out.size))
 clear HX0 HY0 HB0 hb1
 have x5 : w1.cell? ⟨w.heap.size, 5, none⟩ = some (.string t) := HX1.out.2 5 (by simp)
 have xl := HX1.out.1
 go_upto_if 11 with fail
 go_cut [3] from 5 to 14 (fun v wx => ∃ ta tc, v = .slice ta tl tc ∧ Hid (Below w1.heap.size w1 wx) ∧ Hid (Tgs ta ts wx))
 case first =>
  go_wp2_with fail
  ·rename_i hh
   have ht : ¬ t.size = 0 := fun e => by rw [empty_of t e] at hh; simp at hh
   have hts := HT1.out ht
   have h0 : tl = 1 := by rw [HTL.out, hts]; rfl
   have HG : Hid (Tgs (some ⟨w1.heap.size, 0, none⟩) ts (w1.alloc (.cells #[.string t] 9))) := hid_intro (by rw [hts]; exact tgs_one t w1 _)
   have HBN := hid_intro ((Below.refl w1.heap.size w1).alloc (Nat.le_refl _) (.cells #[.string t] 9))
   subst h0
   go_meet
   case rel => exact ⟨_, 1, rfl, HBN, HG⟩
  ·rename_i hh
   have ht : t.size = 0 := by
    by_cases e : t.size = 0
    ·exact e
    ·rw [(full_of t e).2] at hh; simp at hh
   have hts := HT0.out ht
   have h0 : tl = 0 := by rw [HTL.out, hts]; rfl
   have HG : Hid (Tgs none ts w1) := hid_intro (by rw [hts]; exact .inl rfl)
   subst h0
   go_meet
   case rel => exact ⟨none, 0, rfl, hid_intro (Below.refl _ _), HG⟩
 case rest =>
  obtain ⟨ta, tc, rfl, HBc, HTc⟩ := hcut
  obtain ⟨W0, hW0⟩ : ∃ W0, W0 = wc := ⟨_, rfl⟩
  subst hW0
  have HX2 := hid_intro (HX1.out.below HBc.out)
  have HY2 := hid_intro (HY1.out.below HBc.out)
  have HB2 := hid_intro (HB1.out.trans (HBc.out.mono HB1.out.size))
  have HLa : Hid (∀ W, Below W0.heap.size W0 W → Laid W) := hid_intro (fun W hW => HL.out.below (HB2.out.trans (hW.mono HB2.out.size)))
  clear HX1 HY1 HB1 HBc x5 xl
  have HS0 : Hid (UOx w.heap.size W0 a m n k W0.drew) := hid_intro (UOx.below ⟨Below.refl _ _, HX2.out.1, HX2.out.2 1 (by simp), HX2.out.2 2 (by simp), HX2.out.2 3 (by simp), HX2.out.2 4 (by simp)⟩ (Below.refl _ _).drew)
  go_wp2_with fail
  go_cut [4] from 15 to 38 (fun v wx => ∃ V HB, v = .pointer (some ⟨V, 0, none⟩) ∧ Hid (Below W0.heap.size W0 wx) ∧ Hid (BlkW V [.string a, .string m, .int .i64 mo, .int .i64 1, .int .i64 k, .int .i64 k, .slice ta tl tc, .func (.func 88) #[] #[], .func (.func 89) #[] #[], .slice (some ⟨HB, 0, none⟩) 1 1, .func (.func 90) #[] #[], .func (.func 91) #[] #[]] wx) ∧ Hid (Hrs (some ⟨HB, 0, none⟩) [⟨hq, k⟩] wx))
  case first =>
   refine wp_region_held_drew (S := (fun W => Below W0.heap.size W0 W ∧ w.heap.size < W0.heap.size ∧ W.cell? ⟨w.heap.size, 1, none⟩ = some (.string a) ∧ W.cell? ⟨w.heap.size, 2, none⟩ = some (.string m) ∧ W.cell? ⟨w.heap.size, 3, none⟩ = some (.int .i64 n) ∧ W.cell? ⟨w.heap.size, 4, none⟩ = some (.int .i64 k))) (by kernel_rfl) HS0.out (fun hHeld => ?_)
   obtain ⟨Wd, hWd⟩ : ∃ Wd, Wd = W0.drew := ⟨_, rfl⟩
   rw [← hWd] at HS0 ⊢
   try rw [← hWd] at hHeld
   clear hWd
   refine tk (i := 0) (oi := { dst := some 15, op := Op.fieldAddr 37 (Operand.tmp 1) 1, type := 0, pos := "l07_window.go:246", after := #[], guard := none }) (v := ?_) ?_ ?_
   rotate_left
   ·(intro w hSw; (try dsimp only at hSw); go_simp) <;> with_reducible rfl
   try simp only [Act.put, SL]
   refine tk (i := 1) (oi := { dst := some 16, op := Op.load 9 (Operand.tmp 15), type := 9, pos := "l07_window.go:246", after := #[{ on := 0, ground := Ground.data }], guard := none }) (v := ?_) ?_ ?_
   rotate_left
   ·(intro w hSw; (try dsimp only at hSw); go_simp) <;> with_reducible rfl
   try simp only [Act.put, SL]
   refine tk (i := 2) (oi := { dst := some 17, op := Op.fieldAddr 37 (Operand.tmp 1) 2, type := 0, pos := "l07_window.go:246", after := #[], guard := none }) (v := ?_) ?_ ?_
   rotate_left
   ·(intro w hSw; (try dsimp only at hSw); go_simp) <;> with_reducible rfl
   try simp only [Act.put, SL]
   refine tk (i := 3) (oi := { dst := some 18, op := Op.load 9 (Operand.tmp 17), type := 9, pos := "l07_window.go:246", after := #[{ on := 2, ground := Ground.data }], guard := none }) (v := ?_) ?_ ?_
   rotate_left
   ·(intro w hSw; (try dsimp only at hSw); go_simp) <;> with_reducible rfl
   try simp only [Act.put, SL]
   refine tk (i := 4) (oi := { dst := some 19, op := Op.fieldAddr 37 (Operand.tmp 1) 3, type := 0, pos := "l07_window.go:246", after := #[], guard := none }) (v := ?_) ?_ ?_
   rotate_left
   ·(intro w hSw; (try dsimp only at hSw); go_simp) <;> with_reducible rfl
   try simp only [Act.put, SL]
   refine tk (i := 5) (oi := { dst := some 20, op := Op.load 2 (Operand.tmp 19), type := 2, pos := "l07_window.go:246", after := #[{ on := 4, ground := Ground.data }], guard := none }) (v := ?_) ?_ ?_
   rotate_left
   ·(intro w hSw; (try dsimp only at hSw); go_simp) <;> with_reducible rfl
   try simp only [Act.put, SL]
   refine tk (i := 8) (oi := { dst := some 23, op := Op.fieldAddr 37 (Operand.tmp 1) 4, type := 0, pos := "l07_window.go:246", after := #[], guard := none }) (v := ?_) ?_ ?_
   rotate_left
   ·(intro w hSw; (try dsimp only at hSw); go_simp) <;> with_reducible rfl
   try simp only [Act.put, SL]
   refine tk (i := 9) (oi := { dst := some 24, op := Op.load 2 (Operand.tmp 23), type := 2, pos := "l07_window.go:246", after := #[{ on := 8, ground := Ground.data }], guard := none }) (v := ?_) ?_ ?_
   rotate_left
   ·(intro w hSw; (try dsimp only at hSw); go_simp) <;> with_reducible rfl
   try simp only [Act.put, SL]
   refine tk (i := 10) (oi := { dst := some 25, op := Op.fieldAddr 37 (Operand.tmp 1) 4, type := 0, pos := "l07_window.go:246", after := #[], guard := none }) (v := ?_) ?_ ?_
   rotate_left
   ·(intro w hSw; (try dsimp only at hSw); go_simp) <;> with_reducible rfl
   try simp only [Act.put, SL]
   refine tk (i := 11) (oi := { dst := some 26, op := Op.load 2 (Operand.tmp 25), type := 2, pos := "l07_window.go:246", after := #[{ on := 10, ground := Ground.data }], guard := none }) (v := ?_) ?_ ?_
   rotate_left
   ·(intro w hSw; (try dsimp only at hSw); go_simp) <;> with_reducible rfl
   try simp only [Act.put, SL]
   refine tk (i := 12) (oi := { dst := some 27, op := Op.build 87 #[(0, Operand.const (Value.int IntKind.i64 1)), (1, Operand.tmp 24), (2, Operand.tmp 26)], type := 87, pos := "l07_window.go:246", after := #[{ on := 9, ground := Ground.data }, { on := 11, ground := Ground.data }], guard := none }) (v := ?_) ?_ ?_
   rotate_left
   ·(intro w hSw; (try dsimp only at hSw); go_simp) <;> with_reducible rfl
   try simp only [Act.put, SL]
   refine tk (i := 13) (oi := { dst := some 28, op := Op.move (Operand.tmp 3), type := 22, pos := "l07_window.go:246", after := #[], guard := none }) (v := ?_) ?_ ?_
   rotate_left
   ·(intro w hSw; (try dsimp only at hSw); go_simp) <;> with_reducible rfl
   try simp only [Act.put, SL]
   refine tk (i := 15) (oi := { dst := some 30, op := Op.fieldAddr 37 (Operand.tmp 1) 3, type := 0, pos := "l07_window.go:246", after := #[], guard := none }) (v := ?_) ?_ ?_
   rotate_left
   ·(intro w hSw; (try dsimp only at hSw); go_simp) <;> with_reducible rfl
   try simp only [Act.put, SL]
   refine tk (i := 16) (oi := { dst := some 31, op := Op.load 2 (Operand.tmp 30), type := 2, pos := "l07_window.go:246", after := #[{ on := 15, ground := Ground.data }], guard := none }) (v := ?_) ?_ ?_
   rotate_left
   ·(intro w hSw; (try dsimp only at hSw); go_simp) <;> with_reducible rfl
   try simp only [Act.put, SL]
   refine tk (i := 18) (oi := { dst := some 33, op := Op.fieldAddr 37 (Operand.tmp 1) 4, type := 0, pos := "l07_window.go:246", after := #[], guard := none }) (v := ?_) ?_ ?_
   rotate_left
   ·(intro w hSw; (try dsimp only at hSw); go_simp) <;> with_reducible rfl
   try simp only [Act.put, SL]
   refine tk (i := 19) (oi := { dst := some 34, op := Op.load 2 (Operand.tmp 33), type := 2, pos := "l07_window.go:246", after := #[{ on := 18, ground := Ground.data }], guard := none }) (v := ?_) ?_ ?_
   rotate_left
   ·(intro w hSw; (try dsimp only at hSw); go_simp) <;> with_reducible rfl
   try simp only [Act.put, SL]
   refine wpAnyH_ready (rs := [6, 24]) (by kernel_rfl) (by simp) ?_
   refine AllReadyH.cons (o := { dst := some 21, op := Op.call { callee := Callee.value (Operand.func 58), args := #[Operand.tmp 20], argTypes := #[2] }, type := 2, pos := "l07_window.go:247", after := #[{ on := 5, ground := Ground.data }], guard := none }) rfl (fun K hK => ?_) (AllReadyH.cons (o := { dst := some 4, op := Op.alloc 97, type := 0, pos := "l07_window.go:246", after := #[], guard := none }) rfl (fun K hK => ?_) AllReadyH.nil)
   ·go_simp
    go_at_call 58
    refine (HMo.out _ (HLa.out _ HS0.out.1)).mono ?_
    rintro e q1 ⟨rfl, hq1⟩
    try go_wp2_with fail
    have hkq1 := @UOx.below (w.heap.size) W0 a m n k _ _ HS0.out hq1
    refine hK.out _ _ hkq1 (fun _ => ?_)
    clear hK K
    try simp only [Act.put, SL]
    refine tk (i := 7) (oi := { dst := some 22, op := Op.build 85 #[(0, Operand.tmp 16), (1, Operand.tmp 18), (2, Operand.tmp 21)], type := 85, pos := "l07_window.go:246", after := #[{ on := 1, ground := Ground.data }, { on := 3, ground := Ground.data }, { on := 6, ground := Ground.data }], guard := none }) (v := ?_) ?_ ?_
    rotate_left
    ·(intro w hSw; (try dsimp only at hSw); go_simp) <;> with_reducible rfl
    try simp only [Act.put, SL]
    refine wpAnyH_ready (rs := [14, 24]) (by kernel_rfl) (by simp) ?_
    refine AllReadyH.cons (o := { dst := some 29, op := Op.call { callee := Callee.value (Operand.func 59), args := #[Operand.tmp 28], argTypes := #[22] }, type := 91, pos := "l07_window.go:249", after := #[{ on := 13, ground := Ground.data }, { on := 6, ground := Ground.chain }], guard := none }) rfl (fun K hK => ?_) (AllReadyH.cons (o := { dst := some 4, op := Op.alloc 97, type := 0, pos := "l07_window.go:246", after := #[], guard := none }) rfl (fun K hK => ?_) AllReadyH.nil)
    ·go_simp
     go_at_call 59
     refine (impl_rtags _ _ _ _).mono ?_
     rintro e q2 ⟨rfl, hq2⟩
     try go_wp2_with fail
     have hkq2 := @UOx.below (w.heap.size) W0 a m n k _ _ hkq1 hq2
     refine hK.out _ _ hkq2 (fun _ => ?_)
     clear hK K
     try simp only [Act.put, SL]
     refine wpAnyH_ready (rs := [17, 24]) (by kernel_rfl) (by simp) ?_
     refine AllReadyH.cons (o := { dst := some 32, op := Op.call { callee := Callee.value (Operand.func 61), args := #[Operand.tmp 31], argTypes := #[2] }, type := 2, pos := "l07_window.go:250", after := #[{ on := 16, ground := Ground.data }, { on := 14, ground := Ground.chain }], guard := none }) rfl (fun K hK => ?_) (AllReadyH.cons (o := { dst := some 4, op := Op.alloc 97, type := 0, pos := "l07_window.go:246", after := #[], guard := none }) rfl (fun K hK => ?_) AllReadyH.nil)
     ·go_simp
      go_at_call 61
      refine (HHo.out _).mono ?_
      rintro e wh ⟨rfl, hwh⟩
      rw [hwh]
      clear hwh wh
      try go_wp2_with fail
      refine hK.out _ _ hkq2 (fun _ => ?_)
      clear hK K
      try simp only [Act.put, SL]
      refine tk (i := 20) (oi := { dst := some 35, op := Op.build 65 #[(0, Operand.tmp 32), (1, Operand.tmp 34)], type := 65, pos := "l07_window.go:246", after := #[{ on := 17, ground := Ground.data }, { on := 19, ground := Ground.data }], guard := none }) (v := ?_) ?_ ?_
      rotate_left
      ·(intro w hSw; (try dsimp only at hSw); go_simp) <;> with_reducible rfl
      try simp only [Act.put, SL]
      refine wpAnyH_ready (rs := [21, 24]) (by kernel_rfl) (by simp) ?_
      refine AllReadyH.cons (o := { dst := some 36, op := Op.buildSlice 30 1 #[(0, Operand.tmp 35)], type := 30, pos := "l07_window.go:246", after := #[{ on := 20, ground := Ground.data }], guard := none }) rfl (fun K hK => ?_) (AllReadyH.cons (o := { dst := some 4, op := Op.alloc 97, type := 0, pos := "l07_window.go:246", after := #[], guard := none }) rfl (fun K hK => ?_) AllReadyH.nil)
      ·go_simp
       try go_wp2_with fail
       have hkb := @UOx.below (w.heap.size) W0 a m n k _ _ hkq2 ((Below.refl q2.heap.size q2).alloc (Nat.le_refl _) (Obj.cells #[.int .i64 hq, .int .i64 k] 65))
       have hrb := hrs_one1 hq k q2 65
       refine hK.out _ _ hkb (fun _ => ?_)
       clear hK K
       try simp only [Act.put, SL]
       obtain ⟨HB, hHB⟩ : ∃ HB, HB = q2.heap.size := ⟨_, rfl⟩
       obtain ⟨Wb, hWb⟩ : ∃ Wb, Wb = q2.alloc (Obj.cells #[.int .i64 hq, .int .i64 k] 65) := ⟨_, rfl⟩
       have hxb : HB < Wb.heap.size := by rw [hWb, hHB]; simp
       rw [← hWb] at hkb hrb ⊢
       rw [← hHB] at hrb ⊢
       clear hWb hHB
       refine wpAnyH_ready (rs := [22, 24]) (by kernel_rfl) (by simp) ?_
       refine AllReadyH.cons (o := { dst := some 37, op := Op.call { callee := Callee.value (Operand.func 60), args := #[Operand.tmp 36], argTypes := #[30] }, type := 95, pos := "l07_window.go:250", after := #[{ on := 21, ground := Ground.data }, { on := 17, ground := Ground.chain }], guard := none }) rfl (fun K hK => ?_) (AllReadyH.cons (o := { dst := some 4, op := Op.alloc 97, type := 0, pos := "l07_window.go:246", after := #[], guard := none }) rfl (fun K hK => ?_) AllReadyH.nil)
       ·go_simp
        go_at_call 60
        refine (impl_rhours _ _ _ _).mono ?_
        rintro e q3 ⟨rfl, hq3⟩
        try go_wp2_with fail
        have hkq3 := @UOx.below (w.heap.size) W0 a m n k _ _ hkb hq3
        have hrq3 := Hrs.below hrb hq3
        have hxq3 : HB < q3.heap.size := Nat.lt_of_lt_of_le hxb hq3.size
        refine hK.out _ _ hkq3 (fun _ => ?_)
        clear hK K
        try simp only [Act.put, SL]
        refine tk (i := 23) (oi := { dst := some 38, op := Op.build 97 #[(0, Operand.tmp 22), (1, Operand.tmp 27), (2, Operand.tmp 29), (3, Operand.tmp 37)], type := 97, pos := "l07_window.go:246", after := #[{ on := 7, ground := Ground.data }, { on := 12, ground := Ground.data }, { on := 14, ground := Ground.data }, { on := 22, ground := Ground.data }], guard := none }) (v := ?_) ?_ ?_
        rotate_left
        ·(intro w hSw; (try dsimp only at hSw); go_simp) <;> with_reducible rfl
        try simp only [Act.put, SL]
        refine wpAnyH_ready (rs := [24]) (by kernel_rfl) (by simp) ?_
        refine AllReadyH.cons (o := { dst := some 4, op := Op.alloc 97, type := 0, pos := "l07_window.go:246", after := #[], guard := none }) rfl (fun K hK => ?_) AllReadyH.nil
        go_simp
        try go_wp2_with fail
        have hka := @UOx.below (w.heap.size) W0 a m n k _ _ hkq3 ((Below.refl q3.heap.size q3).alloc (Nat.le_refl _) (Obj.cells #[.string ⟨#[]⟩, .string ⟨#[]⟩, .int .i64 0, .int .i64 0, .int .i64 0, .int .i64 0, .slice none 0 0, .nilFunc, .nilFunc, .slice none 0 0, .nilFunc, .nilFunc] 97))
        have hva := BlkW.new q3 [.string ⟨#[]⟩, .string ⟨#[]⟩, .int .i64 0, .int .i64 0, .int .i64 0, .int .i64 0, .slice none 0 0, .nilFunc, .nilFunc, .slice none 0 0, .nilFunc, .nilFunc] 97
        have hle := hkq3.1.size
        have hra := Hrs.below hrq3 ((Below.refl q3.heap.size q3).alloc (Nat.le_refl _) (Obj.cells #[.string ⟨#[]⟩, .string ⟨#[]⟩, .int .i64 0, .int .i64 0, .int .i64 0, .int .i64 0, .slice none 0 0, .nilFunc, .nilFunc, .slice none 0 0, .nilFunc, .nilFunc] 97))
        refine hK.out _ _ hka (fun _ => ?_)
        clear hK K
        try simp only [Act.put, SL]
        obtain ⟨VB, hVB⟩ : ∃ VB, VB = q3.heap.size := ⟨_, rfl⟩
        obtain ⟨Wa, hWa⟩ : ∃ Wa, Wa = q3.alloc (Obj.cells #[.string ⟨#[]⟩, .string ⟨#[]⟩, .int .i64 0, .int .i64 0, .int .i64 0, .int .i64 0, .slice none 0 0, .nilFunc, .nilFunc, .slice none 0 0, .nilFunc, .nilFunc] 97) := ⟨_, rfl⟩
        have hvb : W0.heap.size ≤ VB := by rw [hVB]; exact hle
        have hne : HB ≠ VB := by rw [hVB]; exact Nat.ne_of_lt hxq3
        have hxa : HB < Wa.heap.size := by rw [hWa]; simp; omega
        rw [← hWa] at hka hva ⊢
        rw [← hWa] at hra
        rw [← hVB] at hva ⊢
        clear hWa hVB hle
        refine wpAnyH_ready (rs := [25]) (by kernel_rfl) (by simp) ?_
        refine AllReadyH.cons (o := { dst := none, op := Op.store 97 (Operand.tmp 4) (Operand.tmp 38), type := 0, pos := "l07_window.go:246", after := #[{ on := 24, ground := Ground.data }, { on := 23, ground := Ground.data }, { on := 22, ground := Ground.chain }, { on := 0, ground := Ground.phase }, { on := 1, ground := Ground.phase }, { on := 2, ground := Ground.phase }, { on := 3, ground := Ground.phase }, { on := 4, ground := Ground.phase }, { on := 5, ground := Ground.phase }, { on := 6, ground := Ground.phase }, { on := 7, ground := Ground.phase }, { on := 8, ground := Ground.phase }, { on := 9, ground := Ground.phase }, { on := 10, ground := Ground.phase }, { on := 11, ground := Ground.phase }, { on := 12, ground := Ground.phase }, { on := 13, ground := Ground.phase }, { on := 14, ground := Ground.phase }, { on := 15, ground := Ground.phase }, { on := 16, ground := Ground.phase }, { on := 17, ground := Ground.phase }, { on := 18, ground := Ground.phase }, { on := 19, ground := Ground.phase }, { on := 20, ground := Ground.phase }, { on := 21, ground := Ground.phase }, { on := 22, ground := Ground.phase }, { on := 23, ground := Ground.phase }, { on := 24, ground := Ground.phase }], guard := none }) rfl (fun K hK => ?_) AllReadyH.nil
        obtain ⟨⟨vl, vcs⟩, vfs⟩ := hva
        have y0 : Wa.cell? ⟨VB, 0, none⟩ = some (.string ⟨#[]⟩) := vcs 0 (by simp)
        have f0 := vfs 0 (by simp)
        have y1 : Wa.cell? ⟨VB, 1, none⟩ = some (.string ⟨#[]⟩) := vcs 1 (by simp)
        have f1 := vfs 1 (by simp)
        have y2 : Wa.cell? ⟨VB, 2, none⟩ = some (.int .i64 0) := vcs 2 (by simp)
        have f2 := vfs 2 (by simp)
        have y3 : Wa.cell? ⟨VB, 3, none⟩ = some (.int .i64 0) := vcs 3 (by simp)
        have f3 := vfs 3 (by simp)
        have y4 : Wa.cell? ⟨VB, 4, none⟩ = some (.int .i64 0) := vcs 4 (by simp)
        have f4 := vfs 4 (by simp)
        have y5 : Wa.cell? ⟨VB, 5, none⟩ = some (.int .i64 0) := vcs 5 (by simp)
        have f5 := vfs 5 (by simp)
        have y6 : Wa.cell? ⟨VB, 6, none⟩ = some (.slice none 0 0) := vcs 6 (by simp)
        have f6 := vfs 6 (by simp)
        have y7 : Wa.cell? ⟨VB, 7, none⟩ = some (.nilFunc) := vcs 7 (by simp)
        have f7 := vfs 7 (by simp)
        have y8 : Wa.cell? ⟨VB, 8, none⟩ = some (.nilFunc) := vcs 8 (by simp)
        have f8 := vfs 8 (by simp)
        have y9 : Wa.cell? ⟨VB, 9, none⟩ = some (.slice none 0 0) := vcs 9 (by simp)
        have f9 := vfs 9 (by simp)
        have y10 : Wa.cell? ⟨VB, 10, none⟩ = some (.nilFunc) := vcs 10 (by simp)
        have f10 := vfs 10 (by simp)
        have y11 : Wa.cell? ⟨VB, 11, none⟩ = some (.nilFunc) := vcs 11 (by simp)
        have f11 := vfs 11 (by simp)
        go_simp
        try go_wp2_with fail
        have hno : ∀ b off, (some ⟨HB, 0, none⟩ : Option Addr) = some ⟨b, off, none⟩ → b ≠ VB := fun b off e => by simp at e; omega
        have hks := (@UOx.put (w.heap.size) W0 a m n k _ (@UOx.put (w.heap.size) W0 a m n k _ (@UOx.put (w.heap.size) W0 a m n k _ (@UOx.put (w.heap.size) W0 a m n k _ (@UOx.put (w.heap.size) W0 a m n k _ (@UOx.put (w.heap.size) W0 a m n k _ (@UOx.put (w.heap.size) W0 a m n k _ (@UOx.put (w.heap.size) W0 a m n k _ (@UOx.put (w.heap.size) W0 a m n k _ (@UOx.put (w.heap.size) W0 a m n k _ (@UOx.put (w.heap.size) W0 a m n k _ (@UOx.put (w.heap.size) W0 a m n k _ hka VB 0 (.string a) hvb) VB 1 (.string m) hvb) VB 2 (.int .i64 mo) hvb) VB 3 (.int .i64 1) hvb) VB 4 (.int .i64 k) hvb) VB 5 (.int .i64 k) hvb) VB 6 (.slice ta tl tc) hvb) VB 7 (.func (.func 88) #[] #[]) hvb) VB 8 (.func (.func 89) #[] #[]) hvb) VB 9 (.slice (some ⟨HB, 0, none⟩) 1 1) hvb) VB 10 (.func (.func 90) #[] #[]) hvb) VB 11 (.func (.func 91) #[] #[]) hvb)
        have hvs := (BlkW.set (BlkW.set (BlkW.set (BlkW.set (BlkW.set (BlkW.set (BlkW.set (BlkW.set (BlkW.set (BlkW.set (BlkW.set (BlkW.set (⟨⟨vl, vcs⟩, vfs⟩ : BlkW VB [.string ⟨#[]⟩, .string ⟨#[]⟩, .int .i64 0, .int .i64 0, .int .i64 0, .int .i64 0, .slice none 0 0, .nilFunc, .nilFunc, .slice none 0 0, .nilFunc, .nilFunc] Wa) 0 (.string a) (by simp)) 1 (.string m) (by simp)) 2 (.int .i64 mo) (by simp)) 3 (.int .i64 1) (by simp)) 4 (.int .i64 k) (by simp)) 5 (.int .i64 k) (by simp)) 6 (.slice ta tl tc) (by simp)) 7 (.func (.func 88) #[] #[]) (by simp)) 8 (.func (.func 89) #[] #[]) (by simp)) 9 (.slice (some ⟨HB, 0, none⟩) 1 1) (by simp)) 10 (.func (.func 90) #[] #[]) (by simp)) 11 (.func (.func 91) #[] #[]) (by simp))
        have hrs := (Hrs.put (Hrs.put (Hrs.put (Hrs.put (Hrs.put (Hrs.put (Hrs.put (Hrs.put (Hrs.put (Hrs.put (Hrs.put (Hrs.put hra VB 0 (.string a) hno) VB 1 (.string m) hno) VB 2 (.int .i64 mo) hno) VB 3 (.int .i64 1) hno) VB 4 (.int .i64 k) hno) VB 5 (.int .i64 k) hno) VB 6 (.slice ta tl tc) hno) VB 7 (.func (.func 88) #[] #[]) hno) VB 8 (.func (.func 89) #[] #[]) hno) VB 9 (.slice (some ⟨HB, 0, none⟩) 1 1) hno) VB 10 (.func (.func 90) #[] #[]) hno) VB 11 (.func (.func 91) #[] #[]) hno)
        refine hK.out _ _ hks (fun _ => ?_)
        clear hK K
        try simp only [Act.put, SL]
        refine wpAnyH_done (by kernel_rfl) ?_ _
        have HBF := hid_intro hks.1
        have HVF := hid_intro hvs
        have HRF := hid_intro hrs
        clear hks hvs hrs y0 y1 y2 y3 y4 y5 y6 y7 y8 y9 y10 y11 f0 f1 f2 f3 f4 f5 f6 f7 f8 f9 f10 f11 vcs vfs hno
        go_wp2_with fail
        go_meet
        case rel => exact ⟨VB, HB, rfl, HBF, HVF, HRF⟩
       ·go_simp
        try go_wp2_with fail
        have hka := @UOx.below (w.heap.size) W0 a m n k _ _ hkb ((Below.refl Wb.heap.size Wb).alloc (Nat.le_refl _) (Obj.cells #[.string ⟨#[]⟩, .string ⟨#[]⟩, .int .i64 0, .int .i64 0, .int .i64 0, .int .i64 0, .slice none 0 0, .nilFunc, .nilFunc, .slice none 0 0, .nilFunc, .nilFunc] 97))
        have hva := BlkW.new Wb [.string ⟨#[]⟩, .string ⟨#[]⟩, .int .i64 0, .int .i64 0, .int .i64 0, .int .i64 0, .slice none 0 0, .nilFunc, .nilFunc, .slice none 0 0, .nilFunc, .nilFunc] 97
        have hle := hkb.1.size
        have hra := Hrs.below hrb ((Below.refl Wb.heap.size Wb).alloc (Nat.le_refl _) (Obj.cells #[.string ⟨#[]⟩, .string ⟨#[]⟩, .int .i64 0, .int .i64 0, .int .i64 0, .int .i64 0, .slice none 0 0, .nilFunc, .nilFunc, .slice none 0 0, .nilFunc, .nilFunc] 97))
        refine hK.out _ _ hka (fun _ => ?_)
        clear hK K
        try simp only [Act.put, SL]
        obtain ⟨VB, hVB⟩ : ∃ VB, VB = Wb.heap.size := ⟨_, rfl⟩
        obtain ⟨Wa, hWa⟩ : ∃ Wa, Wa = Wb.alloc (Obj.cells #[.string ⟨#[]⟩, .string ⟨#[]⟩, .int .i64 0, .int .i64 0, .int .i64 0, .int .i64 0, .slice none 0 0, .nilFunc, .nilFunc, .slice none 0 0, .nilFunc, .nilFunc] 97) := ⟨_, rfl⟩
        have hvb : W0.heap.size ≤ VB := by rw [hVB]; exact hle
        have hne : HB ≠ VB := by rw [hVB]; exact Nat.ne_of_lt hxb
        have hxa : HB < Wa.heap.size := by rw [hWa]; simp; omega
        rw [← hWa] at hka hva ⊢
        rw [← hWa] at hra
        rw [← hVB] at hva ⊢
        clear hWa hVB hle
        refine wpAnyH_ready (rs := [22]) (by kernel_rfl) (by simp) ?_
        refine AllReadyH.cons (o := { dst := some 37, op := Op.call { callee := Callee.value (Operand.func 60), args := #[Operand.tmp 36], argTypes := #[30] }, type := 95, pos := "l07_window.go:250", after := #[{ on := 21, ground := Ground.data }, { on := 17, ground := Ground.chain }], guard := none }) rfl (fun K hK => ?_) AllReadyH.nil
        go_simp
        go_at_call 60
        refine (impl_rhours _ _ _ _).mono ?_
        rintro e q3 ⟨rfl, hq3⟩
        try go_wp2_with fail
        have hkq3 := @UOx.below (w.heap.size) W0 a m n k _ _ hka hq3
        have hvq3 := BlkW.below hva hq3
        have hwq3 : VB < q3.heap.size := hvq3.1.1
        have hrq3 := Hrs.below hra hq3
        have hxq3 : HB < q3.heap.size := Nat.lt_of_lt_of_le hxa hq3.size
        refine hK.out _ _ hkq3 (fun _ => ?_)
        clear hK K
        try simp only [Act.put, SL]
        refine tk (i := 23) (oi := { dst := some 38, op := Op.build 97 #[(0, Operand.tmp 22), (1, Operand.tmp 27), (2, Operand.tmp 29), (3, Operand.tmp 37)], type := 97, pos := "l07_window.go:246", after := #[{ on := 7, ground := Ground.data }, { on := 12, ground := Ground.data }, { on := 14, ground := Ground.data }, { on := 22, ground := Ground.data }], guard := none }) (v := ?_) ?_ ?_
        rotate_left
        ·(intro w hSw; (try dsimp only at hSw); go_simp) <;> with_reducible rfl
        try simp only [Act.put, SL]
        refine wpAnyH_ready (rs := [25]) (by kernel_rfl) (by simp) ?_
        refine AllReadyH.cons (o := { dst := none, op := Op.store 97 (Operand.tmp 4) (Operand.tmp 38), type := 0, pos := "l07_window.go:246", after := #[{ on := 24, ground := Ground.data }, { on := 23, ground := Ground.data }, { on := 22, ground := Ground.chain }, { on := 0, ground := Ground.phase }, { on := 1, ground := Ground.phase }, { on := 2, ground := Ground.phase }, { on := 3, ground := Ground.phase }, { on := 4, ground := Ground.phase }, { on := 5, ground := Ground.phase }, { on := 6, ground := Ground.phase }, { on := 7, ground := Ground.phase }, { on := 8, ground := Ground.phase }, { on := 9, ground := Ground.phase }, { on := 10, ground := Ground.phase }, { on := 11, ground := Ground.phase }, { on := 12, ground := Ground.phase }, { on := 13, ground := Ground.phase }, { on := 14, ground := Ground.phase }, { on := 15, ground := Ground.phase }, { on := 16, ground := Ground.phase }, { on := 17, ground := Ground.phase }, { on := 18, ground := Ground.phase }, { on := 19, ground := Ground.phase }, { on := 20, ground := Ground.phase }, { on := 21, ground := Ground.phase }, { on := 22, ground := Ground.phase }, { on := 23, ground := Ground.phase }, { on := 24, ground := Ground.phase }], guard := none }) rfl (fun K hK => ?_) AllReadyH.nil
        obtain ⟨⟨vl, vcs⟩, vfs⟩ := hvq3
        have y0 : q3.cell? ⟨VB, 0, none⟩ = some (.string ⟨#[]⟩) := vcs 0 (by simp)
        have f0 := vfs 0 (by simp)
        have y1 : q3.cell? ⟨VB, 1, none⟩ = some (.string ⟨#[]⟩) := vcs 1 (by simp)
        have f1 := vfs 1 (by simp)
        have y2 : q3.cell? ⟨VB, 2, none⟩ = some (.int .i64 0) := vcs 2 (by simp)
        have f2 := vfs 2 (by simp)
        have y3 : q3.cell? ⟨VB, 3, none⟩ = some (.int .i64 0) := vcs 3 (by simp)
        have f3 := vfs 3 (by simp)
        have y4 : q3.cell? ⟨VB, 4, none⟩ = some (.int .i64 0) := vcs 4 (by simp)
        have f4 := vfs 4 (by simp)
        have y5 : q3.cell? ⟨VB, 5, none⟩ = some (.int .i64 0) := vcs 5 (by simp)
        have f5 := vfs 5 (by simp)
        have y6 : q3.cell? ⟨VB, 6, none⟩ = some (.slice none 0 0) := vcs 6 (by simp)
        have f6 := vfs 6 (by simp)
        have y7 : q3.cell? ⟨VB, 7, none⟩ = some (.nilFunc) := vcs 7 (by simp)
        have f7 := vfs 7 (by simp)
        have y8 : q3.cell? ⟨VB, 8, none⟩ = some (.nilFunc) := vcs 8 (by simp)
        have f8 := vfs 8 (by simp)
        have y9 : q3.cell? ⟨VB, 9, none⟩ = some (.slice none 0 0) := vcs 9 (by simp)
        have f9 := vfs 9 (by simp)
        have y10 : q3.cell? ⟨VB, 10, none⟩ = some (.nilFunc) := vcs 10 (by simp)
        have f10 := vfs 10 (by simp)
        have y11 : q3.cell? ⟨VB, 11, none⟩ = some (.nilFunc) := vcs 11 (by simp)
        have f11 := vfs 11 (by simp)
        go_simp
        try go_wp2_with fail
        have hno : ∀ b off, (some ⟨HB, 0, none⟩ : Option Addr) = some ⟨b, off, none⟩ → b ≠ VB := fun b off e => by simp at e; omega
        have hks := (@UOx.put (w.heap.size) W0 a m n k _ (@UOx.put (w.heap.size) W0 a m n k _ (@UOx.put (w.heap.size) W0 a m n k _ (@UOx.put (w.heap.size) W0 a m n k _ (@UOx.put (w.heap.size) W0 a m n k _ (@UOx.put (w.heap.size) W0 a m n k _ (@UOx.put (w.heap.size) W0 a m n k _ (@UOx.put (w.heap.size) W0 a m n k _ (@UOx.put (w.heap.size) W0 a m n k _ (@UOx.put (w.heap.size) W0 a m n k _ (@UOx.put (w.heap.size) W0 a m n k _ (@UOx.put (w.heap.size) W0 a m n k _ hkq3 VB 0 (.string a) hvb) VB 1 (.string m) hvb) VB 2 (.int .i64 mo) hvb) VB 3 (.int .i64 1) hvb) VB 4 (.int .i64 k) hvb) VB 5 (.int .i64 k) hvb) VB 6 (.slice ta tl tc) hvb) VB 7 (.func (.func 88) #[] #[]) hvb) VB 8 (.func (.func 89) #[] #[]) hvb) VB 9 (.slice (some ⟨HB, 0, none⟩) 1 1) hvb) VB 10 (.func (.func 90) #[] #[]) hvb) VB 11 (.func (.func 91) #[] #[]) hvb)
        have hvs := (BlkW.set (BlkW.set (BlkW.set (BlkW.set (BlkW.set (BlkW.set (BlkW.set (BlkW.set (BlkW.set (BlkW.set (BlkW.set (BlkW.set (⟨⟨vl, vcs⟩, vfs⟩ : BlkW VB [.string ⟨#[]⟩, .string ⟨#[]⟩, .int .i64 0, .int .i64 0, .int .i64 0, .int .i64 0, .slice none 0 0, .nilFunc, .nilFunc, .slice none 0 0, .nilFunc, .nilFunc] q3) 0 (.string a) (by simp)) 1 (.string m) (by simp)) 2 (.int .i64 mo) (by simp)) 3 (.int .i64 1) (by simp)) 4 (.int .i64 k) (by simp)) 5 (.int .i64 k) (by simp)) 6 (.slice ta tl tc) (by simp)) 7 (.func (.func 88) #[] #[]) (by simp)) 8 (.func (.func 89) #[] #[]) (by simp)) 9 (.slice (some ⟨HB, 0, none⟩) 1 1) (by simp)) 10 (.func (.func 90) #[] #[]) (by simp)) 11 (.func (.func 91) #[] #[]) (by simp))
        have hrs := (Hrs.put (Hrs.put (Hrs.put (Hrs.put (Hrs.put (Hrs.put (Hrs.put (Hrs.put (Hrs.put (Hrs.put (Hrs.put (Hrs.put hrq3 VB 0 (.string a) hno) VB 1 (.string m) hno) VB 2 (.int .i64 mo) hno) VB 3 (.int .i64 1) hno) VB 4 (.int .i64 k) hno) VB 5 (.int .i64 k) hno) VB 6 (.slice ta tl tc) hno) VB 7 (.func (.func 88) #[] #[]) hno) VB 8 (.func (.func 89) #[] #[]) hno) VB 9 (.slice (some ⟨HB, 0, none⟩) 1 1) hno) VB 10 (.func (.func 90) #[] #[]) hno) VB 11 (.func (.func 91) #[] #[]) hno)
        refine hK.out _ _ hks (fun _ => ?_)
        clear hK K
        try simp only [Act.put, SL]
        refine wpAnyH_done (by kernel_rfl) ?_ _
        have HBF := hid_intro hks.1
        have HVF := hid_intro hvs
        have HRF := hid_intro hrs
        clear hks hvs hrs y0 y1 y2 y3 y4 y5 y6 y7 y8 y9 y10 y11 f0 f1 f2 f3 f4 f5 f6 f7 f8 f9 f10 f11 vcs vfs hno
        go_wp2_with fail
        go_meet
        case rel => exact ⟨VB, HB, rfl, HBF, HVF, HRF⟩
      ·go_simp
       try go_wp2_with fail
       have hka := @UOx.below (w.heap.size) W0 a m n k _ _ hkq2 ((Below.refl q2.heap.size q2).alloc (Nat.le_refl _) (Obj.cells #[.string ⟨#[]⟩, .string ⟨#[]⟩, .int .i64 0, .int .i64 0, .int .i64 0, .int .i64 0, .slice none 0 0, .nilFunc, .nilFunc, .slice none 0 0, .nilFunc, .nilFunc] 97))
       have hva := BlkW.new q2 [.string ⟨#[]⟩, .string ⟨#[]⟩, .int .i64 0, .int .i64 0, .int .i64 0, .int .i64 0, .slice none 0 0, .nilFunc, .nilFunc, .slice none 0 0, .nilFunc, .nilFunc] 97
       have hle := hkq2.1.size
       refine hK.out _ _ hka (fun _ => ?_)
       clear hK K
       try simp only [Act.put, SL]
       obtain ⟨VB, hVB⟩ : ∃ VB, VB = q2.heap.size := ⟨_, rfl⟩
       obtain ⟨Wa, hWa⟩ : ∃ Wa, Wa = q2.alloc (Obj.cells #[.string ⟨#[]⟩, .string ⟨#[]⟩, .int .i64 0, .int .i64 0, .int .i64 0, .int .i64 0, .slice none 0 0, .nilFunc, .nilFunc, .slice none 0 0, .nilFunc, .nilFunc] 97) := ⟨_, rfl⟩
       have hvb : W0.heap.size ≤ VB := by rw [hVB]; exact hle
       rw [← hWa] at hka hva ⊢
       rw [← hVB] at hva ⊢
       clear hWa hVB hle
       refine wpAnyH_ready (rs := [21]) (by kernel_rfl) (by simp) ?_
       refine AllReadyH.cons (o := { dst := some 36, op := Op.buildSlice 30 1 #[(0, Operand.tmp 35)], type := 30, pos := "l07_window.go:246", after := #[{ on := 20, ground := Ground.data }], guard := none }) rfl (fun K hK => ?_) AllReadyH.nil
       go_simp
       try go_wp2_with fail
       have hkb := @UOx.below (w.heap.size) W0 a m n k _ _ hka ((Below.refl Wa.heap.size Wa).alloc (Nat.le_refl _) (Obj.cells #[.int .i64 hq, .int .i64 k] 65))
       have hrb := hrs_one1 hq k Wa 65
       have hvb2 := BlkW.below hva ((Below.refl Wa.heap.size Wa).alloc (Nat.le_refl _) (Obj.cells #[.int .i64 hq, .int .i64 k] 65))
       have hwl : VB < Wa.heap.size := hva.1.1
       refine hK.out _ _ hkb (fun _ => ?_)
       clear hK K
       try simp only [Act.put, SL]
       obtain ⟨HB, hHB⟩ : ∃ HB, HB = Wa.heap.size := ⟨_, rfl⟩
       obtain ⟨Wb, hWb⟩ : ∃ Wb, Wb = Wa.alloc (Obj.cells #[.int .i64 hq, .int .i64 k] 65) := ⟨_, rfl⟩
       have hxb : HB < Wb.heap.size := by rw [hWb, hHB]; simp
       have hne : HB ≠ VB := by rw [hHB]; exact (Nat.ne_of_lt hwl).symm
       rw [← hWb] at hkb hrb ⊢
       rw [← hWb] at hvb2
       rw [← hHB] at hrb ⊢
       clear hWb hHB
       refine wpAnyH_ready (rs := [22]) (by kernel_rfl) (by simp) ?_
       refine AllReadyH.cons (o := { dst := some 37, op := Op.call { callee := Callee.value (Operand.func 60), args := #[Operand.tmp 36], argTypes := #[30] }, type := 95, pos := "l07_window.go:250", after := #[{ on := 21, ground := Ground.data }, { on := 17, ground := Ground.chain }], guard := none }) rfl (fun K hK => ?_) AllReadyH.nil
       go_simp
       go_at_call 60
       refine (impl_rhours _ _ _ _).mono ?_
       rintro e q3 ⟨rfl, hq3⟩
       try go_wp2_with fail
       have hkq3 := @UOx.below (w.heap.size) W0 a m n k _ _ hkb hq3
       have hvq3 := BlkW.below hvb2 hq3
       have hwq3 : VB < q3.heap.size := hvq3.1.1
       have hrq3 := Hrs.below hrb hq3
       have hxq3 : HB < q3.heap.size := Nat.lt_of_lt_of_le hxb hq3.size
       refine hK.out _ _ hkq3 (fun _ => ?_)
       clear hK K
       try simp only [Act.put, SL]
       refine tk (i := 23) (oi := { dst := some 38, op := Op.build 97 #[(0, Operand.tmp 22), (1, Operand.tmp 27), (2, Operand.tmp 29), (3, Operand.tmp 37)], type := 97, pos := "l07_window.go:246", after := #[{ on := 7, ground := Ground.data }, { on := 12, ground := Ground.data }, { on := 14, ground := Ground.data }, { on := 22, ground := Ground.data }], guard := none }) (v := ?_) ?_ ?_
       rotate_left
       ·(intro w hSw; (try dsimp only at hSw); go_simp) <;> with_reducible rfl
       try simp only [Act.put, SL]
       refine wpAnyH_ready (rs := [25]) (by kernel_rfl) (by simp) ?_
       refine AllReadyH.cons (o := { dst := none, op := Op.store 97 (Operand.tmp 4) (Operand.tmp 38), type := 0, pos := "l07_window.go:246", after := #[{ on := 24, ground := Ground.data }, { on := 23, ground := Ground.data }, { on := 22, ground := Ground.chain }, { on := 0, ground := Ground.phase }, { on := 1, ground := Ground.phase }, { on := 2, ground := Ground.phase }, { on := 3, ground := Ground.phase }, { on := 4, ground := Ground.phase }, { on := 5, ground := Ground.phase }, { on := 6, ground := Ground.phase }, { on := 7, ground := Ground.phase }, { on := 8, ground := Ground.phase }, { on := 9, ground := Ground.phase }, { on := 10, ground := Ground.phase }, { on := 11, ground := Ground.phase }, { on := 12, ground := Ground.phase }, { on := 13, ground := Ground.phase }, { on := 14, ground := Ground.phase }, { on := 15, ground := Ground.phase }, { on := 16, ground := Ground.phase }, { on := 17, ground := Ground.phase }, { on := 18, ground := Ground.phase }, { on := 19, ground := Ground.phase }, { on := 20, ground := Ground.phase }, { on := 21, ground := Ground.phase }, { on := 22, ground := Ground.phase }, { on := 23, ground := Ground.phase }, { on := 24, ground := Ground.phase }], guard := none }) rfl (fun K hK => ?_) AllReadyH.nil
       obtain ⟨⟨vl, vcs⟩, vfs⟩ := hvq3
       have y0 : q3.cell? ⟨VB, 0, none⟩ = some (.string ⟨#[]⟩) := vcs 0 (by simp)
       have f0 := vfs 0 (by simp)
       have y1 : q3.cell? ⟨VB, 1, none⟩ = some (.string ⟨#[]⟩) := vcs 1 (by simp)
       have f1 := vfs 1 (by simp)
       have y2 : q3.cell? ⟨VB, 2, none⟩ = some (.int .i64 0) := vcs 2 (by simp)
       have f2 := vfs 2 (by simp)
       have y3 : q3.cell? ⟨VB, 3, none⟩ = some (.int .i64 0) := vcs 3 (by simp)
       have f3 := vfs 3 (by simp)
       have y4 : q3.cell? ⟨VB, 4, none⟩ = some (.int .i64 0) := vcs 4 (by simp)
       have f4 := vfs 4 (by simp)
       have y5 : q3.cell? ⟨VB, 5, none⟩ = some (.int .i64 0) := vcs 5 (by simp)
       have f5 := vfs 5 (by simp)
       have y6 : q3.cell? ⟨VB, 6, none⟩ = some (.slice none 0 0) := vcs 6 (by simp)
       have f6 := vfs 6 (by simp)
       have y7 : q3.cell? ⟨VB, 7, none⟩ = some (.nilFunc) := vcs 7 (by simp)
       have f7 := vfs 7 (by simp)
       have y8 : q3.cell? ⟨VB, 8, none⟩ = some (.nilFunc) := vcs 8 (by simp)
       have f8 := vfs 8 (by simp)
       have y9 : q3.cell? ⟨VB, 9, none⟩ = some (.slice none 0 0) := vcs 9 (by simp)
       have f9 := vfs 9 (by simp)
       have y10 : q3.cell? ⟨VB, 10, none⟩ = some (.nilFunc) := vcs 10 (by simp)
       have f10 := vfs 10 (by simp)
       have y11 : q3.cell? ⟨VB, 11, none⟩ = some (.nilFunc) := vcs 11 (by simp)
       have f11 := vfs 11 (by simp)
       go_simp
       try go_wp2_with fail
       have hno : ∀ b off, (some ⟨HB, 0, none⟩ : Option Addr) = some ⟨b, off, none⟩ → b ≠ VB := fun b off e => by simp at e; omega
       have hks := (@UOx.put (w.heap.size) W0 a m n k _ (@UOx.put (w.heap.size) W0 a m n k _ (@UOx.put (w.heap.size) W0 a m n k _ (@UOx.put (w.heap.size) W0 a m n k _ (@UOx.put (w.heap.size) W0 a m n k _ (@UOx.put (w.heap.size) W0 a m n k _ (@UOx.put (w.heap.size) W0 a m n k _ (@UOx.put (w.heap.size) W0 a m n k _ (@UOx.put (w.heap.size) W0 a m n k _ (@UOx.put (w.heap.size) W0 a m n k _ (@UOx.put (w.heap.size) W0 a m n k _ (@UOx.put (w.heap.size) W0 a m n k _ hkq3 VB 0 (.string a) hvb) VB 1 (.string m) hvb) VB 2 (.int .i64 mo) hvb) VB 3 (.int .i64 1) hvb) VB 4 (.int .i64 k) hvb) VB 5 (.int .i64 k) hvb) VB 6 (.slice ta tl tc) hvb) VB 7 (.func (.func 88) #[] #[]) hvb) VB 8 (.func (.func 89) #[] #[]) hvb) VB 9 (.slice (some ⟨HB, 0, none⟩) 1 1) hvb) VB 10 (.func (.func 90) #[] #[]) hvb) VB 11 (.func (.func 91) #[] #[]) hvb)
       have hvs := (BlkW.set (BlkW.set (BlkW.set (BlkW.set (BlkW.set (BlkW.set (BlkW.set (BlkW.set (BlkW.set (BlkW.set (BlkW.set (BlkW.set (⟨⟨vl, vcs⟩, vfs⟩ : BlkW VB [.string ⟨#[]⟩, .string ⟨#[]⟩, .int .i64 0, .int .i64 0, .int .i64 0, .int .i64 0, .slice none 0 0, .nilFunc, .nilFunc, .slice none 0 0, .nilFunc, .nilFunc] q3) 0 (.string a) (by simp)) 1 (.string m) (by simp)) 2 (.int .i64 mo) (by simp)) 3 (.int .i64 1) (by simp)) 4 (.int .i64 k) (by simp)) 5 (.int .i64 k) (by simp)) 6 (.slice ta tl tc) (by simp)) 7 (.func (.func 88) #[] #[]) (by simp)) 8 (.func (.func 89) #[] #[]) (by simp)) 9 (.slice (some ⟨HB, 0, none⟩) 1 1) (by simp)) 10 (.func (.func 90) #[] #[]) (by simp)) 11 (.func (.func 91) #[] #[]) (by simp))
       have hrs := (Hrs.put (Hrs.put (Hrs.put (Hrs.put (Hrs.put (Hrs.put (Hrs.put (Hrs.put (Hrs.put (Hrs.put (Hrs.put (Hrs.put hrq3 VB 0 (.string a) hno) VB 1 (.string m) hno) VB 2 (.int .i64 mo) hno) VB 3 (.int .i64 1) hno) VB 4 (.int .i64 k) hno) VB 5 (.int .i64 k) hno) VB 6 (.slice ta tl tc) hno) VB 7 (.func (.func 88) #[] #[]) hno) VB 8 (.func (.func 89) #[] #[]) hno) VB 9 (.slice (some ⟨HB, 0, none⟩) 1 1) hno) VB 10 (.func (.func 90) #[] #[]) hno) VB 11 (.func (.func 91) #[] #[]) hno)
       refine hK.out _ _ hks (fun _ => ?_)
       clear hK K
       try simp only [Act.put, SL]
       refine wpAnyH_done (by kernel_rfl) ?_ _
       have HBF := hid_intro hks.1
       have HVF := hid_intro hvs
       have HRF := hid_intro hrs
       clear hks hvs hrs y0 y1 y2 y3 y4 y5 y6 y7 y8 y9 y10 y11 f0 f1 f2 f3 f4 f5 f6 f7 f8 f9 f10 f11 vcs vfs hno
       go_wp2_with fail
       go_meet
       case rel => exact ⟨VB, HB, rfl, HBF, HVF, HRF⟩
     ·go_simp
      try go_wp2_with fail
      have hka := @UOx.below (w.heap.size) W0 a m n k _ _ hkq2 ((Below.refl q2.heap.size q2).alloc (Nat.le_refl _) (Obj.cells #[.string ⟨#[]⟩, .string ⟨#[]⟩, .int .i64 0, .int .i64 0, .int .i64 0, .int .i64 0, .slice none 0 0, .nilFunc, .nilFunc, .slice none 0 0, .nilFunc, .nilFunc] 97))
      have hva := BlkW.new q2 [.string ⟨#[]⟩, .string ⟨#[]⟩, .int .i64 0, .int .i64 0, .int .i64 0, .int .i64 0, .slice none 0 0, .nilFunc, .nilFunc, .slice none 0 0, .nilFunc, .nilFunc] 97
      have hle := hkq2.1.size
      refine hK.out _ _ hka (fun _ => ?_)
      clear hK K
      try simp only [Act.put, SL]
      obtain ⟨VB, hVB⟩ : ∃ VB, VB = q2.heap.size := ⟨_, rfl⟩
      obtain ⟨Wa, hWa⟩ : ∃ Wa, Wa = q2.alloc (Obj.cells #[.string ⟨#[]⟩, .string ⟨#[]⟩, .int .i64 0, .int .i64 0, .int .i64 0, .int .i64 0, .slice none 0 0, .nilFunc, .nilFunc, .slice none 0 0, .nilFunc, .nilFunc] 97) := ⟨_, rfl⟩
      have hvb : W0.heap.size ≤ VB := by rw [hVB]; exact hle
      rw [← hWa] at hka hva ⊢
      rw [← hVB] at hva ⊢
      clear hWa hVB hle
      refine wpAnyH_ready (rs := [17]) (by kernel_rfl) (by simp) ?_
      refine AllReadyH.cons (o := { dst := some 32, op := Op.call { callee := Callee.value (Operand.func 61), args := #[Operand.tmp 31], argTypes := #[2] }, type := 2, pos := "l07_window.go:250", after := #[{ on := 16, ground := Ground.data }, { on := 14, ground := Ground.chain }], guard := none }) rfl (fun K hK => ?_) AllReadyH.nil
      go_simp
      go_at_call 61
      refine (HHo.out _).mono ?_
      rintro e wh ⟨rfl, hwh⟩
      rw [hwh]
      clear hwh wh
      try go_wp2_with fail
      refine hK.out _ _ hka (fun _ => ?_)
      clear hK K
      try simp only [Act.put, SL]
      refine tk (i := 20) (oi := { dst := some 35, op := Op.build 65 #[(0, Operand.tmp 32), (1, Operand.tmp 34)], type := 65, pos := "l07_window.go:246", after := #[{ on := 17, ground := Ground.data }, { on := 19, ground := Ground.data }], guard := none }) (v := ?_) ?_ ?_
      rotate_left
      ·(intro w hSw; (try dsimp only at hSw); go_simp) <;> with_reducible rfl
      try simp only [Act.put, SL]
      refine wpAnyH_ready (rs := [21]) (by kernel_rfl) (by simp) ?_
      refine AllReadyH.cons (o := { dst := some 36, op := Op.buildSlice 30 1 #[(0, Operand.tmp 35)], type := 30, pos := "l07_window.go:246", after := #[{ on := 20, ground := Ground.data }], guard := none }) rfl (fun K hK => ?_) AllReadyH.nil
      go_simp
      try go_wp2_with fail
      have hkb := @UOx.below (w.heap.size) W0 a m n k _ _ hka ((Below.refl Wa.heap.size Wa).alloc (Nat.le_refl _) (Obj.cells #[.int .i64 hq, .int .i64 k] 65))
      have hrb := hrs_one1 hq k Wa 65
      have hvb2 := BlkW.below hva ((Below.refl Wa.heap.size Wa).alloc (Nat.le_refl _) (Obj.cells #[.int .i64 hq, .int .i64 k] 65))
      have hwl : VB < Wa.heap.size := hva.1.1
      refine hK.out _ _ hkb (fun _ => ?_)
      clear hK K
      try simp only [Act.put, SL]
      obtain ⟨HB, hHB⟩ : ∃ HB, HB = Wa.heap.size := ⟨_, rfl⟩
      obtain ⟨Wb, hWb⟩ : ∃ Wb, Wb = Wa.alloc (Obj.cells #[.int .i64 hq, .int .i64 k] 65) := ⟨_, rfl⟩
      have hxb : HB < Wb.heap.size := by rw [hWb, hHB]; simp
      have hne : HB ≠ VB := by rw [hHB]; exact (Nat.ne_of_lt hwl).symm
      rw [← hWb] at hkb hrb ⊢
      rw [← hWb] at hvb2
      rw [← hHB] at hrb ⊢
      clear hWb hHB
      refine wpAnyH_ready (rs := [22]) (by kernel_rfl) (by simp) ?_
      refine AllReadyH.cons (o := { dst := some 37, op := Op.call { callee := Callee.value (Operand.func 60), args := #[Operand.tmp 36], argTypes := #[30] }, type := 95, pos := "l07_window.go:250", after := #[{ on := 21, ground := Ground.data }, { on := 17, ground := Ground.chain }], guard := none }) rfl (fun K hK => ?_) AllReadyH.nil
      go_simp
      go_at_call 60
      refine (impl_rhours _ _ _ _).mono ?_
      rintro e q3 ⟨rfl, hq3⟩
      try go_wp2_with fail
      have hkq3 := @UOx.below (w.heap.size) W0 a m n k _ _ hkb hq3
      have hvq3 := BlkW.below hvb2 hq3
      have hwq3 : VB < q3.heap.size := hvq3.1.1
      have hrq3 := Hrs.below hrb hq3
      have hxq3 : HB < q3.heap.size := Nat.lt_of_lt_of_le hxb hq3.size
      refine hK.out _ _ hkq3 (fun _ => ?_)
      clear hK K
      try simp only [Act.put, SL]
      refine tk (i := 23) (oi := { dst := some 38, op := Op.build 97 #[(0, Operand.tmp 22), (1, Operand.tmp 27), (2, Operand.tmp 29), (3, Operand.tmp 37)], type := 97, pos := "l07_window.go:246", after := #[{ on := 7, ground := Ground.data }, { on := 12, ground := Ground.data }, { on := 14, ground := Ground.data }, { on := 22, ground := Ground.data }], guard := none }) (v := ?_) ?_ ?_
      rotate_left
      ·(intro w hSw; (try dsimp only at hSw); go_simp) <;> with_reducible rfl
      try simp only [Act.put, SL]
      refine wpAnyH_ready (rs := [25]) (by kernel_rfl) (by simp) ?_
      refine AllReadyH.cons (o := { dst := none, op := Op.store 97 (Operand.tmp 4) (Operand.tmp 38), type := 0, pos := "l07_window.go:246", after := #[{ on := 24, ground := Ground.data }, { on := 23, ground := Ground.data }, { on := 22, ground := Ground.chain }, { on := 0, ground := Ground.phase }, { on := 1, ground := Ground.phase }, { on := 2, ground := Ground.phase }, { on := 3, ground := Ground.phase }, { on := 4, ground := Ground.phase }, { on := 5, ground := Ground.phase }, { on := 6, ground := Ground.phase }, { on := 7, ground := Ground.phase }, { on := 8, ground := Ground.phase }, { on := 9, ground := Ground.phase }, { on := 10, ground := Ground.phase }, { on := 11, ground := Ground.phase }, { on := 12, ground := Ground.phase }, { on := 13, ground := Ground.phase }, { on := 14, ground := Ground.phase }, { on := 15, ground := Ground.phase }, { on := 16, ground := Ground.phase }, { on := 17, ground := Ground.phase }, { on := 18, ground := Ground.phase }, { on := 19, ground := Ground.phase }, { on := 20, ground := Ground.phase }, { on := 21, ground := Ground.phase }, { on := 22, ground := Ground.phase }, { on := 23, ground := Ground.phase }, { on := 24, ground := Ground.phase }], guard := none }) rfl (fun K hK => ?_) AllReadyH.nil
      obtain ⟨⟨vl, vcs⟩, vfs⟩ := hvq3
      have y0 : q3.cell? ⟨VB, 0, none⟩ = some (.string ⟨#[]⟩) := vcs 0 (by simp)
      have f0 := vfs 0 (by simp)
      have y1 : q3.cell? ⟨VB, 1, none⟩ = some (.string ⟨#[]⟩) := vcs 1 (by simp)
      have f1 := vfs 1 (by simp)
      have y2 : q3.cell? ⟨VB, 2, none⟩ = some (.int .i64 0) := vcs 2 (by simp)
      have f2 := vfs 2 (by simp)
      have y3 : q3.cell? ⟨VB, 3, none⟩ = some (.int .i64 0) := vcs 3 (by simp)
      have f3 := vfs 3 (by simp)
      have y4 : q3.cell? ⟨VB, 4, none⟩ = some (.int .i64 0) := vcs 4 (by simp)
      have f4 := vfs 4 (by simp)
      have y5 : q3.cell? ⟨VB, 5, none⟩ = some (.int .i64 0) := vcs 5 (by simp)
      have f5 := vfs 5 (by simp)
      have y6 : q3.cell? ⟨VB, 6, none⟩ = some (.slice none 0 0) := vcs 6 (by simp)
      have f6 := vfs 6 (by simp)
      have y7 : q3.cell? ⟨VB, 7, none⟩ = some (.nilFunc) := vcs 7 (by simp)
      have f7 := vfs 7 (by simp)
      have y8 : q3.cell? ⟨VB, 8, none⟩ = some (.nilFunc) := vcs 8 (by simp)
      have f8 := vfs 8 (by simp)
      have y9 : q3.cell? ⟨VB, 9, none⟩ = some (.slice none 0 0) := vcs 9 (by simp)
      have f9 := vfs 9 (by simp)
      have y10 : q3.cell? ⟨VB, 10, none⟩ = some (.nilFunc) := vcs 10 (by simp)
      have f10 := vfs 10 (by simp)
      have y11 : q3.cell? ⟨VB, 11, none⟩ = some (.nilFunc) := vcs 11 (by simp)
      have f11 := vfs 11 (by simp)
      go_simp
      try go_wp2_with fail
      have hno : ∀ b off, (some ⟨HB, 0, none⟩ : Option Addr) = some ⟨b, off, none⟩ → b ≠ VB := fun b off e => by simp at e; omega
      have hks := (@UOx.put (w.heap.size) W0 a m n k _ (@UOx.put (w.heap.size) W0 a m n k _ (@UOx.put (w.heap.size) W0 a m n k _ (@UOx.put (w.heap.size) W0 a m n k _ (@UOx.put (w.heap.size) W0 a m n k _ (@UOx.put (w.heap.size) W0 a m n k _ (@UOx.put (w.heap.size) W0 a m n k _ (@UOx.put (w.heap.size) W0 a m n k _ (@UOx.put (w.heap.size) W0 a m n k _ (@UOx.put (w.heap.size) W0 a m n k _ (@UOx.put (w.heap.size) W0 a m n k _ (@UOx.put (w.heap.size) W0 a m n k _ hkq3 VB 0 (.string a) hvb) VB 1 (.string m) hvb) VB 2 (.int .i64 mo) hvb) VB 3 (.int .i64 1) hvb) VB 4 (.int .i64 k) hvb) VB 5 (.int .i64 k) hvb) VB 6 (.slice ta tl tc) hvb) VB 7 (.func (.func 88) #[] #[]) hvb) VB 8 (.func (.func 89) #[] #[]) hvb) VB 9 (.slice (some ⟨HB, 0, none⟩) 1 1) hvb) VB 10 (.func (.func 90) #[] #[]) hvb) VB 11 (.func (.func 91) #[] #[]) hvb)
      have hvs := (BlkW.set (BlkW.set (BlkW.set (BlkW.set (BlkW.set (BlkW.set (BlkW.set (BlkW.set (BlkW.set (BlkW.set (BlkW.set (BlkW.set (⟨⟨vl, vcs⟩, vfs⟩ : BlkW VB [.string ⟨#[]⟩, .string ⟨#[]⟩, .int .i64 0, .int .i64 0, .int .i64 0, .int .i64 0, .slice none 0 0, .nilFunc, .nilFunc, .slice none 0 0, .nilFunc, .nilFunc] q3) 0 (.string a) (by simp)) 1 (.string m) (by simp)) 2 (.int .i64 mo) (by simp)) 3 (.int .i64 1) (by simp)) 4 (.int .i64 k) (by simp)) 5 (.int .i64 k) (by simp)) 6 (.slice ta tl tc) (by simp)) 7 (.func (.func 88) #[] #[]) (by simp)) 8 (.func (.func 89) #[] #[]) (by simp)) 9 (.slice (some ⟨HB, 0, none⟩) 1 1) (by simp)) 10 (.func (.func 90) #[] #[]) (by simp)) 11 (.func (.func 91) #[] #[]) (by simp))
      have hrs := (Hrs.put (Hrs.put (Hrs.put (Hrs.put (Hrs.put (Hrs.put (Hrs.put (Hrs.put (Hrs.put (Hrs.put (Hrs.put (Hrs.put hrq3 VB 0 (.string a) hno) VB 1 (.string m) hno) VB 2 (.int .i64 mo) hno) VB 3 (.int .i64 1) hno) VB 4 (.int .i64 k) hno) VB 5 (.int .i64 k) hno) VB 6 (.slice ta tl tc) hno) VB 7 (.func (.func 88) #[] #[]) hno) VB 8 (.func (.func 89) #[] #[]) hno) VB 9 (.slice (some ⟨HB, 0, none⟩) 1 1) hno) VB 10 (.func (.func 90) #[] #[]) hno) VB 11 (.func (.func 91) #[] #[]) hno)
      refine hK.out _ _ hks (fun _ => ?_)
      clear hK K
      try simp only [Act.put, SL]
      refine wpAnyH_done (by kernel_rfl) ?_ _
      have HBF := hid_intro hks.1
      have HVF := hid_intro hvs
      have HRF := hid_intro hrs
      clear hks hvs hrs y0 y1 y2 y3 y4 y5 y6 y7 y8 y9 y10 y11 f0 f1 f2 f3 f4 f5 f6 f7 f8 f9 f10 f11 vcs vfs hno
      go_wp2_with fail
      go_meet
      case rel => exact ⟨VB, HB, rfl, HBF, HVF, HRF⟩
    ·go_simp
     try go_wp2_with fail
     have hka := @UOx.below (w.heap.size) W0 a m n k _ _ hkq1 ((Below.refl q1.heap.size q1).alloc (Nat.le_refl _) (Obj.cells #[.string ⟨#[]⟩, .string ⟨#[]⟩, .int .i64 0, .int .i64 0, .int .i64 0, .int .i64 0, .slice none 0 0, .nilFunc, .nilFunc, .slice none 0 0, .nilFunc, .nilFunc] 97))
     have hva := BlkW.new q1 [.string ⟨#[]⟩, .string ⟨#[]⟩, .int .i64 0, .int .i64 0, .int .i64 0, .int .i64 0, .slice none 0 0, .nilFunc, .nilFunc, .slice none 0 0, .nilFunc, .nilFunc] 97
     have hle := hkq1.1.size
     refine hK.out _ _ hka (fun _ => ?_)
     clear hK K
     try simp only [Act.put, SL]
     obtain ⟨VB, hVB⟩ : ∃ VB, VB = q1.heap.size := ⟨_, rfl⟩
     obtain ⟨Wa, hWa⟩ : ∃ Wa, Wa = q1.alloc (Obj.cells #[.string ⟨#[]⟩, .string ⟨#[]⟩, .int .i64 0, .int .i64 0, .int .i64 0, .int .i64 0, .slice none 0 0, .nilFunc, .nilFunc, .slice none 0 0, .nilFunc, .nilFunc] 97) := ⟨_, rfl⟩
     have hvb : W0.heap.size ≤ VB := by rw [hVB]; exact hle
     rw [← hWa] at hka hva ⊢
     rw [← hVB] at hva ⊢
     clear hWa hVB hle
     refine wpAnyH_ready (rs := [14]) (by kernel_rfl) (by simp) ?_
     refine AllReadyH.cons (o := { dst := some 29, op := Op.call { callee := Callee.value (Operand.func 59), args := #[Operand.tmp 28], argTypes := #[22] }, type := 91, pos := "l07_window.go:249", after := #[{ on := 13, ground := Ground.data }, { on := 6, ground := Ground.chain }], guard := none }) rfl (fun K hK => ?_) AllReadyH.nil
     go_simp
     go_at_call 59
     refine (impl_rtags _ _ _ _).mono ?_
     rintro e q2 ⟨rfl, hq2⟩
     try go_wp2_with fail
     have hkq2 := @UOx.below (w.heap.size) W0 a m n k _ _ hka hq2
     have hvq2 := BlkW.below hva hq2
     have hwq2 : VB < q2.heap.size := hvq2.1.1
     refine hK.out _ _ hkq2 (fun _ => ?_)
     clear hK K
     try simp only [Act.put, SL]
     refine wpAnyH_ready (rs := [17]) (by kernel_rfl) (by simp) ?_
     refine AllReadyH.cons (o := { dst := some 32, op := Op.call { callee := Callee.value (Operand.func 61), args := #[Operand.tmp 31], argTypes := #[2] }, type := 2, pos := "l07_window.go:250", after := #[{ on := 16, ground := Ground.data }, { on := 14, ground := Ground.chain }], guard := none }) rfl (fun K hK => ?_) AllReadyH.nil
     go_simp
     go_at_call 61
     refine (HHo.out _).mono ?_
     rintro e wh ⟨rfl, hwh⟩
     rw [hwh]
     clear hwh wh
     try go_wp2_with fail
     refine hK.out _ _ hkq2 (fun _ => ?_)
     clear hK K
     try simp only [Act.put, SL]
     refine tk (i := 20) (oi := { dst := some 35, op := Op.build 65 #[(0, Operand.tmp 32), (1, Operand.tmp 34)], type := 65, pos := "l07_window.go:246", after := #[{ on := 17, ground := Ground.data }, { on := 19, ground := Ground.data }], guard := none }) (v := ?_) ?_ ?_
     rotate_left
     ·(intro w hSw; (try dsimp only at hSw); go_simp) <;> with_reducible rfl
     try simp only [Act.put, SL]
     refine wpAnyH_ready (rs := [21]) (by kernel_rfl) (by simp) ?_
     refine AllReadyH.cons (o := { dst := some 36, op := Op.buildSlice 30 1 #[(0, Operand.tmp 35)], type := 30, pos := "l07_window.go:246", after := #[{ on := 20, ground := Ground.data }], guard := none }) rfl (fun K hK => ?_) AllReadyH.nil
     go_simp
     try go_wp2_with fail
     have hkb := @UOx.below (w.heap.size) W0 a m n k _ _ hkq2 ((Below.refl q2.heap.size q2).alloc (Nat.le_refl _) (Obj.cells #[.int .i64 hq, .int .i64 k] 65))
     have hrb := hrs_one1 hq k q2 65
     have hvb2 := BlkW.below hvq2 ((Below.refl q2.heap.size q2).alloc (Nat.le_refl _) (Obj.cells #[.int .i64 hq, .int .i64 k] 65))
     have hwl : VB < q2.heap.size := hvq2.1.1
     refine hK.out _ _ hkb (fun _ => ?_)
     clear hK K
     try simp only [Act.put, SL]
     obtain ⟨HB, hHB⟩ : ∃ HB, HB = q2.heap.size := ⟨_, rfl⟩
     obtain ⟨Wb, hWb⟩ : ∃ Wb, Wb = q2.alloc (Obj.cells #[.int .i64 hq, .int .i64 k] 65) := ⟨_, rfl⟩
     have hxb : HB < Wb.heap.size := by rw [hWb, hHB]; simp
     have hne : HB ≠ VB := by rw [hHB]; exact (Nat.ne_of_lt hwl).symm
     rw [← hWb] at hkb hrb ⊢
     rw [← hWb] at hvb2
     rw [← hHB] at hrb ⊢
     clear hWb hHB
     refine wpAnyH_ready (rs := [22]) (by kernel_rfl) (by simp) ?_
     refine AllReadyH.cons (o := { dst := some 37, op := Op.call { callee := Callee.value (Operand.func 60), args := #[Operand.tmp 36], argTypes := #[30] }, type := 95, pos := "l07_window.go:250", after := #[{ on := 21, ground := Ground.data }, { on := 17, ground := Ground.chain }], guard := none }) rfl (fun K hK => ?_) AllReadyH.nil
     go_simp
     go_at_call 60
     refine (impl_rhours _ _ _ _).mono ?_
     rintro e q3 ⟨rfl, hq3⟩
     try go_wp2_with fail
     have hkq3 := @UOx.below (w.heap.size) W0 a m n k _ _ hkb hq3
     have hvq3 := BlkW.below hvb2 hq3
     have hwq3 : VB < q3.heap.size := hvq3.1.1
     have hrq3 := Hrs.below hrb hq3
     have hxq3 : HB < q3.heap.size := Nat.lt_of_lt_of_le hxb hq3.size
     refine hK.out _ _ hkq3 (fun _ => ?_)
     clear hK K
     try simp only [Act.put, SL]
     refine tk (i := 23) (oi := { dst := some 38, op := Op.build 97 #[(0, Operand.tmp 22), (1, Operand.tmp 27), (2, Operand.tmp 29), (3, Operand.tmp 37)], type := 97, pos := "l07_window.go:246", after := #[{ on := 7, ground := Ground.data }, { on := 12, ground := Ground.data }, { on := 14, ground := Ground.data }, { on := 22, ground := Ground.data }], guard := none }) (v := ?_) ?_ ?_
     rotate_left
     ·(intro w hSw; (try dsimp only at hSw); go_simp) <;> with_reducible rfl
     try simp only [Act.put, SL]
     refine wpAnyH_ready (rs := [25]) (by kernel_rfl) (by simp) ?_
     refine AllReadyH.cons (o := { dst := none, op := Op.store 97 (Operand.tmp 4) (Operand.tmp 38), type := 0, pos := "l07_window.go:246", after := #[{ on := 24, ground := Ground.data }, { on := 23, ground := Ground.data }, { on := 22, ground := Ground.chain }, { on := 0, ground := Ground.phase }, { on := 1, ground := Ground.phase }, { on := 2, ground := Ground.phase }, { on := 3, ground := Ground.phase }, { on := 4, ground := Ground.phase }, { on := 5, ground := Ground.phase }, { on := 6, ground := Ground.phase }, { on := 7, ground := Ground.phase }, { on := 8, ground := Ground.phase }, { on := 9, ground := Ground.phase }, { on := 10, ground := Ground.phase }, { on := 11, ground := Ground.phase }, { on := 12, ground := Ground.phase }, { on := 13, ground := Ground.phase }, { on := 14, ground := Ground.phase }, { on := 15, ground := Ground.phase }, { on := 16, ground := Ground.phase }, { on := 17, ground := Ground.phase }, { on := 18, ground := Ground.phase }, { on := 19, ground := Ground.phase }, { on := 20, ground := Ground.phase }, { on := 21, ground := Ground.phase }, { on := 22, ground := Ground.phase }, { on := 23, ground := Ground.phase }, { on := 24, ground := Ground.phase }], guard := none }) rfl (fun K hK => ?_) AllReadyH.nil
     obtain ⟨⟨vl, vcs⟩, vfs⟩ := hvq3
     have y0 : q3.cell? ⟨VB, 0, none⟩ = some (.string ⟨#[]⟩) := vcs 0 (by simp)
     have f0 := vfs 0 (by simp)
     have y1 : q3.cell? ⟨VB, 1, none⟩ = some (.string ⟨#[]⟩) := vcs 1 (by simp)
     have f1 := vfs 1 (by simp)
     have y2 : q3.cell? ⟨VB, 2, none⟩ = some (.int .i64 0) := vcs 2 (by simp)
     have f2 := vfs 2 (by simp)
     have y3 : q3.cell? ⟨VB, 3, none⟩ = some (.int .i64 0) := vcs 3 (by simp)
     have f3 := vfs 3 (by simp)
     have y4 : q3.cell? ⟨VB, 4, none⟩ = some (.int .i64 0) := vcs 4 (by simp)
     have f4 := vfs 4 (by simp)
     have y5 : q3.cell? ⟨VB, 5, none⟩ = some (.int .i64 0) := vcs 5 (by simp)
     have f5 := vfs 5 (by simp)
     have y6 : q3.cell? ⟨VB, 6, none⟩ = some (.slice none 0 0) := vcs 6 (by simp)
     have f6 := vfs 6 (by simp)
     have y7 : q3.cell? ⟨VB, 7, none⟩ = some (.nilFunc) := vcs 7 (by simp)
     have f7 := vfs 7 (by simp)
     have y8 : q3.cell? ⟨VB, 8, none⟩ = some (.nilFunc) := vcs 8 (by simp)
     have f8 := vfs 8 (by simp)
     have y9 : q3.cell? ⟨VB, 9, none⟩ = some (.slice none 0 0) := vcs 9 (by simp)
     have f9 := vfs 9 (by simp)
     have y10 : q3.cell? ⟨VB, 10, none⟩ = some (.nilFunc) := vcs 10 (by simp)
     have f10 := vfs 10 (by simp)
     have y11 : q3.cell? ⟨VB, 11, none⟩ = some (.nilFunc) := vcs 11 (by simp)
     have f11 := vfs 11 (by simp)
     go_simp
     try go_wp2_with fail
     have hno : ∀ b off, (some ⟨HB, 0, none⟩ : Option Addr) = some ⟨b, off, none⟩ → b ≠ VB := fun b off e => by simp at e; omega
     have hks := (@UOx.put (w.heap.size) W0 a m n k _ (@UOx.put (w.heap.size) W0 a m n k _ (@UOx.put (w.heap.size) W0 a m n k _ (@UOx.put (w.heap.size) W0 a m n k _ (@UOx.put (w.heap.size) W0 a m n k _ (@UOx.put (w.heap.size) W0 a m n k _ (@UOx.put (w.heap.size) W0 a m n k _ (@UOx.put (w.heap.size) W0 a m n k _ (@UOx.put (w.heap.size) W0 a m n k _ (@UOx.put (w.heap.size) W0 a m n k _ (@UOx.put (w.heap.size) W0 a m n k _ (@UOx.put (w.heap.size) W0 a m n k _ hkq3 VB 0 (.string a) hvb) VB 1 (.string m) hvb) VB 2 (.int .i64 mo) hvb) VB 3 (.int .i64 1) hvb) VB 4 (.int .i64 k) hvb) VB 5 (.int .i64 k) hvb) VB 6 (.slice ta tl tc) hvb) VB 7 (.func (.func 88) #[] #[]) hvb) VB 8 (.func (.func 89) #[] #[]) hvb) VB 9 (.slice (some ⟨HB, 0, none⟩) 1 1) hvb) VB 10 (.func (.func 90) #[] #[]) hvb) VB 11 (.func (.func 91) #[] #[]) hvb)
     have hvs := (BlkW.set (BlkW.set (BlkW.set (BlkW.set (BlkW.set (BlkW.set (BlkW.set (BlkW.set (BlkW.set (BlkW.set (BlkW.set (BlkW.set (⟨⟨vl, vcs⟩, vfs⟩ : BlkW VB [.string ⟨#[]⟩, .string ⟨#[]⟩, .int .i64 0, .int .i64 0, .int .i64 0, .int .i64 0, .slice none 0 0, .nilFunc, .nilFunc, .slice none 0 0, .nilFunc, .nilFunc] q3) 0 (.string a) (by simp)) 1 (.string m) (by simp)) 2 (.int .i64 mo) (by simp)) 3 (.int .i64 1) (by simp)) 4 (.int .i64 k) (by simp)) 5 (.int .i64 k) (by simp)) 6 (.slice ta tl tc) (by simp)) 7 (.func (.func 88) #[] #[]) (by simp)) 8 (.func (.func 89) #[] #[]) (by simp)) 9 (.slice (some ⟨HB, 0, none⟩) 1 1) (by simp)) 10 (.func (.func 90) #[] #[]) (by simp)) 11 (.func (.func 91) #[] #[]) (by simp))
     have hrs := (Hrs.put (Hrs.put (Hrs.put (Hrs.put (Hrs.put (Hrs.put (Hrs.put (Hrs.put (Hrs.put (Hrs.put (Hrs.put (Hrs.put hrq3 VB 0 (.string a) hno) VB 1 (.string m) hno) VB 2 (.int .i64 mo) hno) VB 3 (.int .i64 1) hno) VB 4 (.int .i64 k) hno) VB 5 (.int .i64 k) hno) VB 6 (.slice ta tl tc) hno) VB 7 (.func (.func 88) #[] #[]) hno) VB 8 (.func (.func 89) #[] #[]) hno) VB 9 (.slice (some ⟨HB, 0, none⟩) 1 1) hno) VB 10 (.func (.func 90) #[] #[]) hno) VB 11 (.func (.func 91) #[] #[]) hno)
     refine hK.out _ _ hks (fun _ => ?_)
     clear hK K
     try simp only [Act.put, SL]
     refine wpAnyH_done (by kernel_rfl) ?_ _
     have HBF := hid_intro hks.1
     have HVF := hid_intro hvs
     have HRF := hid_intro hrs
     clear hks hvs hrs y0 y1 y2 y3 y4 y5 y6 y7 y8 y9 y10 y11 f0 f1 f2 f3 f4 f5 f6 f7 f8 f9 f10 f11 vcs vfs hno
     go_wp2_with fail
     go_meet
     case rel => exact ⟨VB, HB, rfl, HBF, HVF, HRF⟩
   ·go_simp
    try go_wp2_with fail
    have hka := @UOx.below (w.heap.size) W0 a m n k _ _ HS0.out ((Below.refl Wd.heap.size Wd).alloc (Nat.le_refl _) (Obj.cells #[.string ⟨#[]⟩, .string ⟨#[]⟩, .int .i64 0, .int .i64 0, .int .i64 0, .int .i64 0, .slice none 0 0, .nilFunc, .nilFunc, .slice none 0 0, .nilFunc, .nilFunc] 97))
    have hva := BlkW.new Wd [.string ⟨#[]⟩, .string ⟨#[]⟩, .int .i64 0, .int .i64 0, .int .i64 0, .int .i64 0, .slice none 0 0, .nilFunc, .nilFunc, .slice none 0 0, .nilFunc, .nilFunc] 97
    have hle := HS0.out.1.size
    refine hK.out _ _ hka (fun _ => ?_)
    clear hK K
    try simp only [Act.put, SL]
    obtain ⟨VB, hVB⟩ : ∃ VB, VB = Wd.heap.size := ⟨_, rfl⟩
    obtain ⟨Wa, hWa⟩ : ∃ Wa, Wa = Wd.alloc (Obj.cells #[.string ⟨#[]⟩, .string ⟨#[]⟩, .int .i64 0, .int .i64 0, .int .i64 0, .int .i64 0, .slice none 0 0, .nilFunc, .nilFunc, .slice none 0 0, .nilFunc, .nilFunc] 97) := ⟨_, rfl⟩
    have hvb : W0.heap.size ≤ VB := by rw [hVB]; exact hle
    rw [← hWa] at hka hva ⊢
    rw [← hVB] at hva ⊢
    clear hWa hVB hle
    refine wpAnyH_ready (rs := [6]) (by kernel_rfl) (by simp) ?_
    refine AllReadyH.cons (o := { dst := some 21, op := Op.call { callee := Callee.value (Operand.func 58), args := #[Operand.tmp 20], argTypes := #[2] }, type := 2, pos := "l07_window.go:247", after := #[{ on := 5, ground := Ground.data }], guard := none }) rfl (fun K hK => ?_) AllReadyH.nil
    go_simp
    go_at_call 58
    refine (HMo.out _ (HLa.out _ hka.1)).mono ?_
    rintro e q1 ⟨rfl, hq1⟩
    try go_wp2_with fail
    have hkq1 := @UOx.below (w.heap.size) W0 a m n k _ _ hka hq1
    have hvq1 := BlkW.below hva hq1
    have hwq1 : VB < q1.heap.size := hvq1.1.1
    refine hK.out _ _ hkq1 (fun _ => ?_)
    clear hK K
    try simp only [Act.put, SL]
    refine tk (i := 7) (oi := { dst := some 22, op := Op.build 85 #[(0, Operand.tmp 16), (1, Operand.tmp 18), (2, Operand.tmp 21)], type := 85, pos := "l07_window.go:246", after := #[{ on := 1, ground := Ground.data }, { on := 3, ground := Ground.data }, { on := 6, ground := Ground.data }], guard := none }) (v := ?_) ?_ ?_
    rotate_left
    ·(intro w hSw; (try dsimp only at hSw); go_simp) <;> with_reducible rfl
    try simp only [Act.put, SL]
    refine wpAnyH_ready (rs := [14]) (by kernel_rfl) (by simp) ?_
    refine AllReadyH.cons (o := { dst := some 29, op := Op.call { callee := Callee.value (Operand.func 59), args := #[Operand.tmp 28], argTypes := #[22] }, type := 91, pos := "l07_window.go:249", after := #[{ on := 13, ground := Ground.data }, { on := 6, ground := Ground.chain }], guard := none }) rfl (fun K hK => ?_) AllReadyH.nil
    go_simp
    go_at_call 59
    refine (impl_rtags _ _ _ _).mono ?_
    rintro e q2 ⟨rfl, hq2⟩
    try go_wp2_with fail
    have hkq2 := @UOx.below (w.heap.size) W0 a m n k _ _ hkq1 hq2
    have hvq2 := BlkW.below hvq1 hq2
    have hwq2 : VB < q2.heap.size := hvq2.1.1
    refine hK.out _ _ hkq2 (fun _ => ?_)
    clear hK K
    try simp only [Act.put, SL]
    refine wpAnyH_ready (rs := [17]) (by kernel_rfl) (by simp) ?_
    refine AllReadyH.cons (o := { dst := some 32, op := Op.call { callee := Callee.value (Operand.func 61), args := #[Operand.tmp 31], argTypes := #[2] }, type := 2, pos := "l07_window.go:250", after := #[{ on := 16, ground := Ground.data }, { on := 14, ground := Ground.chain }], guard := none }) rfl (fun K hK => ?_) AllReadyH.nil
    go_simp
    go_at_call 61
    refine (HHo.out _).mono ?_
    rintro e wh ⟨rfl, hwh⟩
    rw [hwh]
    clear hwh wh
    try go_wp2_with fail
    refine hK.out _ _ hkq2 (fun _ => ?_)
    clear hK K
    try simp only [Act.put, SL]
    refine tk (i := 20) (oi := { dst := some 35, op := Op.build 65 #[(0, Operand.tmp 32), (1, Operand.tmp 34)], type := 65, pos := "l07_window.go:246", after := #[{ on := 17, ground := Ground.data }, { on := 19, ground := Ground.data }], guard := none }) (v := ?_) ?_ ?_
    rotate_left
    ·(intro w hSw; (try dsimp only at hSw); go_simp) <;> with_reducible rfl
    try simp only [Act.put, SL]
    refine wpAnyH_ready (rs := [21]) (by kernel_rfl) (by simp) ?_
    refine AllReadyH.cons (o := { dst := some 36, op := Op.buildSlice 30 1 #[(0, Operand.tmp 35)], type := 30, pos := "l07_window.go:246", after := #[{ on := 20, ground := Ground.data }], guard := none }) rfl (fun K hK => ?_) AllReadyH.nil
    go_simp
    try go_wp2_with fail
    have hkb := @UOx.below (w.heap.size) W0 a m n k _ _ hkq2 ((Below.refl q2.heap.size q2).alloc (Nat.le_refl _) (Obj.cells #[.int .i64 hq, .int .i64 k] 65))
    have hrb := hrs_one1 hq k q2 65
    have hvb2 := BlkW.below hvq2 ((Below.refl q2.heap.size q2).alloc (Nat.le_refl _) (Obj.cells #[.int .i64 hq, .int .i64 k] 65))
    have hwl : VB < q2.heap.size := hvq2.1.1
    refine hK.out _ _ hkb (fun _ => ?_)
    clear hK K
    try simp only [Act.put, SL]
    obtain ⟨HB, hHB⟩ : ∃ HB, HB = q2.heap.size := ⟨_, rfl⟩
    obtain ⟨Wb, hWb⟩ : ∃ Wb, Wb = q2.alloc (Obj.cells #[.int .i64 hq, .int .i64 k] 65) := ⟨_, rfl⟩
    have hxb : HB < Wb.heap.size := by rw [hWb, hHB]; simp
    have hne : HB ≠ VB := by rw [hHB]; exact (Nat.ne_of_lt hwl).symm
    rw [← hWb] at hkb hrb ⊢
    rw [← hWb] at hvb2
    rw [← hHB] at hrb ⊢
    clear hWb hHB
    refine wpAnyH_ready (rs := [22]) (by kernel_rfl) (by simp) ?_
    refine AllReadyH.cons (o := { dst := some 37, op := Op.call { callee := Callee.value (Operand.func 60), args := #[Operand.tmp 36], argTypes := #[30] }, type := 95, pos := "l07_window.go:250", after := #[{ on := 21, ground := Ground.data }, { on := 17, ground := Ground.chain }], guard := none }) rfl (fun K hK => ?_) AllReadyH.nil
    go_simp
    go_at_call 60
    refine (impl_rhours _ _ _ _).mono ?_
    rintro e q3 ⟨rfl, hq3⟩
    try go_wp2_with fail
    have hkq3 := @UOx.below (w.heap.size) W0 a m n k _ _ hkb hq3
    have hvq3 := BlkW.below hvb2 hq3
    have hwq3 : VB < q3.heap.size := hvq3.1.1
    have hrq3 := Hrs.below hrb hq3
    have hxq3 : HB < q3.heap.size := Nat.lt_of_lt_of_le hxb hq3.size
    refine hK.out _ _ hkq3 (fun _ => ?_)
    clear hK K
    try simp only [Act.put, SL]
    refine tk (i := 23) (oi := { dst := some 38, op := Op.build 97 #[(0, Operand.tmp 22), (1, Operand.tmp 27), (2, Operand.tmp 29), (3, Operand.tmp 37)], type := 97, pos := "l07_window.go:246", after := #[{ on := 7, ground := Ground.data }, { on := 12, ground := Ground.data }, { on := 14, ground := Ground.data }, { on := 22, ground := Ground.data }], guard := none }) (v := ?_) ?_ ?_
    rotate_left
    ·(intro w hSw; (try dsimp only at hSw); go_simp) <;> with_reducible rfl
    try simp only [Act.put, SL]
    refine wpAnyH_ready (rs := [25]) (by kernel_rfl) (by simp) ?_
    refine AllReadyH.cons (o := { dst := none, op := Op.store 97 (Operand.tmp 4) (Operand.tmp 38), type := 0, pos := "l07_window.go:246", after := #[{ on := 24, ground := Ground.data }, { on := 23, ground := Ground.data }, { on := 22, ground := Ground.chain }, { on := 0, ground := Ground.phase }, { on := 1, ground := Ground.phase }, { on := 2, ground := Ground.phase }, { on := 3, ground := Ground.phase }, { on := 4, ground := Ground.phase }, { on := 5, ground := Ground.phase }, { on := 6, ground := Ground.phase }, { on := 7, ground := Ground.phase }, { on := 8, ground := Ground.phase }, { on := 9, ground := Ground.phase }, { on := 10, ground := Ground.phase }, { on := 11, ground := Ground.phase }, { on := 12, ground := Ground.phase }, { on := 13, ground := Ground.phase }, { on := 14, ground := Ground.phase }, { on := 15, ground := Ground.phase }, { on := 16, ground := Ground.phase }, { on := 17, ground := Ground.phase }, { on := 18, ground := Ground.phase }, { on := 19, ground := Ground.phase }, { on := 20, ground := Ground.phase }, { on := 21, ground := Ground.phase }, { on := 22, ground := Ground.phase }, { on := 23, ground := Ground.phase }, { on := 24, ground := Ground.phase }], guard := none }) rfl (fun K hK => ?_) AllReadyH.nil
    obtain ⟨⟨vl, vcs⟩, vfs⟩ := hvq3
    have y0 : q3.cell? ⟨VB, 0, none⟩ = some (.string ⟨#[]⟩) := vcs 0 (by simp)
    have f0 := vfs 0 (by simp)
    have y1 : q3.cell? ⟨VB, 1, none⟩ = some (.string ⟨#[]⟩) := vcs 1 (by simp)
    have f1 := vfs 1 (by simp)
    have y2 : q3.cell? ⟨VB, 2, none⟩ = some (.int .i64 0) := vcs 2 (by simp)
    have f2 := vfs 2 (by simp)
    have y3 : q3.cell? ⟨VB, 3, none⟩ = some (.int .i64 0) := vcs 3 (by simp)
    have f3 := vfs 3 (by simp)
    have y4 : q3.cell? ⟨VB, 4, none⟩ = some (.int .i64 0) := vcs 4 (by simp)
    have f4 := vfs 4 (by simp)
    have y5 : q3.cell? ⟨VB, 5, none⟩ = some (.int .i64 0) := vcs 5 (by simp)
    have f5 := vfs 5 (by simp)
    have y6 : q3.cell? ⟨VB, 6, none⟩ = some (.slice none 0 0) := vcs 6 (by simp)
    have f6 := vfs 6 (by simp)
    have y7 : q3.cell? ⟨VB, 7, none⟩ = some (.nilFunc) := vcs 7 (by simp)
    have f7 := vfs 7 (by simp)
    have y8 : q3.cell? ⟨VB, 8, none⟩ = some (.nilFunc) := vcs 8 (by simp)
    have f8 := vfs 8 (by simp)
    have y9 : q3.cell? ⟨VB, 9, none⟩ = some (.slice none 0 0) := vcs 9 (by simp)
    have f9 := vfs 9 (by simp)
    have y10 : q3.cell? ⟨VB, 10, none⟩ = some (.nilFunc) := vcs 10 (by simp)
    have f10 := vfs 10 (by simp)
    have y11 : q3.cell? ⟨VB, 11, none⟩ = some (.nilFunc) := vcs 11 (by simp)
    have f11 := vfs 11 (by simp)
    go_simp
    try go_wp2_with fail
    have hno : ∀ b off, (some ⟨HB, 0, none⟩ : Option Addr) = some ⟨b, off, none⟩ → b ≠ VB := fun b off e => by simp at e; omega
    have hks := (@UOx.put (w.heap.size) W0 a m n k _ (@UOx.put (w.heap.size) W0 a m n k _ (@UOx.put (w.heap.size) W0 a m n k _ (@UOx.put (w.heap.size) W0 a m n k _ (@UOx.put (w.heap.size) W0 a m n k _ (@UOx.put (w.heap.size) W0 a m n k _ (@UOx.put (w.heap.size) W0 a m n k _ (@UOx.put (w.heap.size) W0 a m n k _ (@UOx.put (w.heap.size) W0 a m n k _ (@UOx.put (w.heap.size) W0 a m n k _ (@UOx.put (w.heap.size) W0 a m n k _ (@UOx.put (w.heap.size) W0 a m n k _ hkq3 VB 0 (.string a) hvb) VB 1 (.string m) hvb) VB 2 (.int .i64 mo) hvb) VB 3 (.int .i64 1) hvb) VB 4 (.int .i64 k) hvb) VB 5 (.int .i64 k) hvb) VB 6 (.slice ta tl tc) hvb) VB 7 (.func (.func 88) #[] #[]) hvb) VB 8 (.func (.func 89) #[] #[]) hvb) VB 9 (.slice (some ⟨HB, 0, none⟩) 1 1) hvb) VB 10 (.func (.func 90) #[] #[]) hvb) VB 11 (.func (.func 91) #[] #[]) hvb)
    have hvs := (BlkW.set (BlkW.set (BlkW.set (BlkW.set (BlkW.set (BlkW.set (BlkW.set (BlkW.set (BlkW.set (BlkW.set (BlkW.set (BlkW.set (⟨⟨vl, vcs⟩, vfs⟩ : BlkW VB [.string ⟨#[]⟩, .string ⟨#[]⟩, .int .i64 0, .int .i64 0, .int .i64 0, .int .i64 0, .slice none 0 0, .nilFunc, .nilFunc, .slice none 0 0, .nilFunc, .nilFunc] q3) 0 (.string a) (by simp)) 1 (.string m) (by simp)) 2 (.int .i64 mo) (by simp)) 3 (.int .i64 1) (by simp)) 4 (.int .i64 k) (by simp)) 5 (.int .i64 k) (by simp)) 6 (.slice ta tl tc) (by simp)) 7 (.func (.func 88) #[] #[]) (by simp)) 8 (.func (.func 89) #[] #[]) (by simp)) 9 (.slice (some ⟨HB, 0, none⟩) 1 1) (by simp)) 10 (.func (.func 90) #[] #[]) (by simp)) 11 (.func (.func 91) #[] #[]) (by simp))
    have hrs := (Hrs.put (Hrs.put (Hrs.put (Hrs.put (Hrs.put (Hrs.put (Hrs.put (Hrs.put (Hrs.put (Hrs.put (Hrs.put (Hrs.put hrq3 VB 0 (.string a) hno) VB 1 (.string m) hno) VB 2 (.int .i64 mo) hno) VB 3 (.int .i64 1) hno) VB 4 (.int .i64 k) hno) VB 5 (.int .i64 k) hno) VB 6 (.slice ta tl tc) hno) VB 7 (.func (.func 88) #[] #[]) hno) VB 8 (.func (.func 89) #[] #[]) hno) VB 9 (.slice (some ⟨HB, 0, none⟩) 1 1) hno) VB 10 (.func (.func 90) #[] #[]) hno) VB 11 (.func (.func 91) #[] #[]) hno)
    refine hK.out _ _ hks (fun _ => ?_)
    clear hK K
    try simp only [Act.put, SL]
    refine wpAnyH_done (by kernel_rfl) ?_ _
    have HBF := hid_intro hks.1
    have HVF := hid_intro hvs
    have HRF := hid_intro hrs
    clear hks hvs hrs y0 y1 y2 y3 y4 y5 y6 y7 y8 y9 y10 y11 f0 f1 f2 f3 f4 f5 f6 f7 f8 f9 f10 f11 vcs vfs hno
    go_wp2_with fail
    go_meet
    case rel => exact ⟨VB, HB, rfl, HBF, HVF, HRF⟩
  case rest =>
   obtain ⟨V, HB, rfl, HB3, HV3, HR3⟩ := hcut
   have HT3 := hid_intro (HTc.out.below HB3.out)
   have HY3 := hid_intro (HY2.out.below HB3.out)
   have HB4 := hid_intro (HB2.out.trans (HB3.out.mono HB2.out.size))
   have HRl : Hid (w.heap.size + 1 < wc.heap.size) := hid_intro HY3.out.1.1
   clear HS0 HLa HTc HX2 HY2
   obtain ⟨⟨vl, vk⟩, vf⟩ := HV3.out
   have v0 : wc.cell? ⟨V, 0, none⟩ = some (.string a) := vk 0 (by simp)
   have v1 : wc.cell? ⟨V, 1, none⟩ = some (.string m) := vk 1 (by simp)
   have v2 : wc.cell? ⟨V, 2, none⟩ = some (.int .i64 mo) := vk 2 (by simp)
   have v3 : wc.cell? ⟨V, 3, none⟩ = some (.int .i64 1) := vk 3 (by simp)
   have v4 : wc.cell? ⟨V, 4, none⟩ = some (.int .i64 k) := vk 4 (by simp)
   have v5 : wc.cell? ⟨V, 5, none⟩ = some (.int .i64 k) := vk 5 (by simp)
   have v6 : wc.cell? ⟨V, 6, none⟩ = some (.slice ta tl tc) := vk 6 (by simp)
   have v7 : wc.cell? ⟨V, 7, none⟩ = some (.func (.func 88) #[] #[]) := vk 7 (by simp)
   have v8 : wc.cell? ⟨V, 8, none⟩ = some (.func (.func 89) #[] #[]) := vk 8 (by simp)
   have v9 : wc.cell? ⟨V, 9, none⟩ = some (.slice (some ⟨HB, 0, none⟩) 1 1) := vk 9 (by simp)
   have v10 : wc.cell? ⟨V, 10, none⟩ = some (.func (.func 90) #[] #[]) := vk 10 (by simp)
   have v11 : wc.cell? ⟨V, 11, none⟩ = some (.func (.func 91) #[] #[]) := vk 11 (by simp)
   clear vk vf
   go_wp2_with fail
   refine (HWi.out _ ta tc HB HT3.out HR3.out).mono ?_
   rintro e w5 ⟨v, rfl, ⟨⟨ta', tc', ha', hc', rfl, hm1, hm2, hap⟩, hsl⟩, hb5⟩
   have HSL := hid_intro hsl
   clear hsl
   have HM1 := hid_intro hm1
   have HM2 := hid_intro hm2
   have HAP := hid_intro hap
   have HY5 := hid_intro (HY3.out.below hb5)
   have HB5 := hid_intro (HB4.out.trans (hb5.mono HB4.out.size))
   have HN1 : Hid (ts.length = 0 ∨ ∀ b off, ta' = some ⟨b, off, none⟩ → b ≠ w.heap.size + 1) := hid_intro (by
    rcases hm1.own with h0 | ⟨g, e1, e2, _⟩
    ·exact .inl h0
    ·exact .inr (fun b off q => by rw [e1] at q; simp at q; have := HRl.out; omega))
   have HN2 : Hid (([⟨hq, k⟩] : List H).length = 0 ∨ ∀ b off, ha' = some ⟨b, off, none⟩ → b ≠ w.heap.size + 1) := hid_intro (by
    rcases hm2.own with h0 | ⟨g, e1, e2, _⟩
    ·exact .inl h0
    ·exact .inr (fun b off q => by rw [e1] at q; simp at q; have := HRl.out; omega))
   have HWS : Hid (w.heap.size ≤ wc.heap.size) := hid_intro HB4.out.size
   clear hm1 hm2 hap hb5 v0 v1 v2 v3 v4 v5 v6 v7 v8 v9 v10 v11 vl HV3 HR3 HT3 HY3
   simp only [wcells, ← HTL.out, List.length_cons, List.length_nil, Nat.zero_add]
   obtain ⟨⟨yl, yk⟩, yf⟩ := HY5.out
   have y0 : w5.cell? ⟨w.heap.size + 1, 0, none⟩ = some (.string ⟨#[]⟩) := yk 0 (by simp)
   have q0 : w5.frozen? ⟨w.heap.size + 1, 0, none⟩ = false := yf 0 (by simp)
   have y1 : w5.cell? ⟨w.heap.size + 1, 1, none⟩ = some (.string ⟨#[]⟩) := yk 1 (by simp)
   have q1 : w5.frozen? ⟨w.heap.size + 1, 1, none⟩ = false := yf 1 (by simp)
   have y2 : w5.cell? ⟨w.heap.size + 1, 2, none⟩ = some (.int .i64 0) := yk 2 (by simp)
   have q2 : w5.frozen? ⟨w.heap.size + 1, 2, none⟩ = false := yf 2 (by simp)
   have y3 : w5.cell? ⟨w.heap.size + 1, 3, none⟩ = some (.int .i64 0) := yk 3 (by simp)
   have q3 : w5.frozen? ⟨w.heap.size + 1, 3, none⟩ = false := yf 3 (by simp)
   have y4 : w5.cell? ⟨w.heap.size + 1, 4, none⟩ = some (.int .i64 0) := yk 4 (by simp)
   have q4 : w5.frozen? ⟨w.heap.size + 1, 4, none⟩ = false := yf 4 (by simp)
   have y5 : w5.cell? ⟨w.heap.size + 1, 5, none⟩ = some (.int .i64 0) := yk 5 (by simp)
   have q5 : w5.frozen? ⟨w.heap.size + 1, 5, none⟩ = false := yf 5 (by simp)
   have y6 : w5.cell? ⟨w.heap.size + 1, 6, none⟩ = some (.slice none 0 0) := yk 6 (by simp)
   have q6 : w5.frozen? ⟨w.heap.size + 1, 6, none⟩ = false := yf 6 (by simp)
   have y7 : w5.cell? ⟨w.heap.size + 1, 7, none⟩ = some (.slice none 0 0) := yk 7 (by simp)
   have q7 : w5.frozen? ⟨w.heap.size + 1, 7, none⟩ = false := yf 7 (by simp)
   clear yk yf HY5
   go_wp2_with fail
   refine bodyPost_ret (v := .agg #[.string a, .string m, .int .i64 mo, .int .i64 1, .int .i64 k, .int .i64 k, .slice ta' tl tc', .slice ha' 1 hc']) (by simp [results, Tryd.results28, go_sem, y0, y1, y2, y3, y4, y5, y6, y7]) rfl ⟨_, rfl, ⟨⟨ta', tc', ha', hc', by simp only [wcells, ← HTL.out, List.length_cons, List.length_nil, Nat.zero_add], ?_, ?_, HAP.out⟩, by have h := HSL.out; simp only [wcells, ← HTL.out, List.length_cons, List.length_nil, Nat.zero_add] at h; exact h⟩, ?_⟩
   ·have hn := HN1.out
    exact MadeG.low (MadeG.put (MadeG.put (MadeG.put (MadeG.put (MadeG.put (MadeG.put (MadeG.put (MadeG.put HM1.out (w.heap.size + 1) 0 (.string a) hn) (w.heap.size + 1) 1 (.string m) hn) (w.heap.size + 1) 2 (.int .i64 mo) hn) (w.heap.size + 1) 3 (.int .i64 1) hn) (w.heap.size + 1) 4 (.int .i64 k) hn) (w.heap.size + 1) 5 (.int .i64 k) hn) (w.heap.size + 1) 6 (.slice ta' tl tc') hn) (w.heap.size + 1) 7 (.slice ha' 1 hc') hn) HWS.out
   ·have hn := HN2.out
    exact MadeG.low (MadeG.put (MadeG.put (MadeG.put (MadeG.put (MadeG.put (MadeG.put (MadeG.put (MadeG.put HM2.out (w.heap.size + 1) 0 (.string a) hn) (w.heap.size + 1) 1 (.string m) hn) (w.heap.size + 1) 2 (.int .i64 mo) hn) (w.heap.size + 1) 3 (.int .i64 1) hn) (w.heap.size + 1) 4 (.int .i64 k) hn) (w.heap.size + 1) 5 (.int .i64 k) hn) (w.heap.size + 1) 6 (.slice ta' tl tc') hn) (w.heap.size + 1) 7 (.slice ha' 1 hc') hn) HWS.out
   ·have hb2 : w.heap.size ≤ w.heap.size + 1 := Nat.le_succ _
    exact ((((((((HB5.out.setCell (hb2) _).setCell (hb2) _).setCell (hb2) _).setCell (hb2) _).setCell (hb2) _).setCell (hb2) _).setCell (hb2) _).setCell (hb2) _)
theorem of_in (i a m t : ByteArray) (n k mo : Int) (w : World) (li : i.size ≤ 1048576) (la : a.size ≤ 1048576) (lm : m.size ≤ 1048576) (lt : t.size ≤ 1048576) (hev : evB i a m n k t = true) (hmo : ∀ w, Laid w → Calls Tryd.prog 58 #[.int .i64 n] w fun e w' => e = .returned (.int .i64 mo) ∧ Below w.heap.size w w') (hL : Laid w) :
  Calls Tryd.prog 28 #[ev i a m n k t] w fun e w' => ∃ v, e = .returned v ∧ MadeW w.heap.size ⟨a, m, mo, 1, k, k, tgl t, [⟨HourR.hourV n, k⟩]⟩ v w' ∧ Below w.heap.size w w' := by
 refine (of_in_s i a m t n k mo w li la lm lt hev hmo hL).mono ?_
 rintro e w' ⟨v, rfl, hm, hb⟩
 exact ⟨v, rfl, hm.1, hb⟩
end WinR
end Go.Proofs.YtnlmpejgiakepaaDoor
