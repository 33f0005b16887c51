/-
  What the program calls a right window. The conditions: texts of at most 1048576 bytes, lists of at most 1048576; the program's table stands in its variable.
  What the model calls a window's right tags. The conditions: at most 1048576 tags of at most 1048576 bytes.
  A region that draws its order, in a class of worlds that all hold some facts: one walk of the order of the text serves. No condition.
  What the model calls a window's right hours. The conditions: at most 12 hours; the sum is one that may be.
  What the model calls a right window. The conditions: texts of at most 1048576 bytes, at most 1048576 tags.
  The zero window. No condition.
  Two windows joined: both sides by one function of two windows. The conditions: the lists are short enough, and the lists that are given are laid as slices are.
  The model's WindowJoin: two windows that are right are joined, others are refused. The conditions: what the callees ask for.
  A window laid anew, with its blocks told. The condition: the lists are of at most 1048576.
  The law's own mark, a text. The condition: its number is 1 to 99999999.
  The law's own marks in a window's lists: written, and found again. The conditions: lists of at most 1048576, marks from 1 to 10000000 on.
  Two windows joined: for any two there is one answer that both sides hand back. The condition: both together are small.
  What WindowJoin and WindowAdd hand back: held against each other, marked, looked at. The condition: lists of at most 1048576.
  Tiers, meters, credits and catalogs as rows of cells. No condition.
  Tiers, meters, credits and catalogs that came in, read as rows. No condition.
  A window that came in, read as rows. No condition.
  From the row's premise on the program's table to the walk's: its variable holds the months' days; and a world that meets the premise. No condition.
-/
import Derived.BigQuiet
import Derived.Deep.QuietTactic
import Derived.Lib.ConvBytes
import Derived.Laws.BytesArg
import Derived.Deep.RegionHeld3
import Derived.Deep.Fields
import Derived.OpenVars
import Derived.Carry
import Derived.ChangeMaps5
import Derived.Lib.SmallJoins
import Derived.DataReads
import Derived.Test.YtmeemmbpkjfleaaDoorTie
import Derived.ChangeSame
import Derived.ChangeVars
import Derived.JoinedOf
import Derived.ProofKit
import Derived.LaidLaws
import Derived.LaidMore
import Derived.LaidHandle
import Derived.MakeChecks
import Derived.Lib.LaidTab
import Derived.Stop.Joined
import Derived.Test.YtmeemmbpkjfleaaDoorM6
namespace Go.Proofs.YtmeemmbpkjfleaaDoor
open Go.ChangeShapes Go.WideShapes Go.ChangeAt Go.RowKit
set_option linter.unusedVariables false
namespace WinR
open RowG LtR
open CatR (Blk Blk.new)
open DateR (Laid)
theorem counted_su {ev su mx : Int} (h : countedB ev su mx = true) : (1 ≤ ev ∧ ev ≤ 1000) ∧ (0 ≤ su ∧ su ≤ 1000000000000) ∧ 0 ≤ mx ∧ mx ≤ su := by
  unfold countedB at h
  simp only [Bool.and_eq_true, decide_eq_true_eq] at h
  exact h
set_option maxRecDepth 100000 in
set_option maxHeartbeats 8000000 in
theorem right_in (a m : ByteArray) (mo ev su mx : Int) (ta : Option Addr) (tl tc : Nat) (ha : Option Addr) (hl hc : Nat) (b1 b2 b3 b4 : Bool) (w : World)
    (h1 : ∀ W, Calls Tryd.prog 70 #[.agg #[.string a, .string m, .int .i64 mo]] W fun e w' => e = .returned (.bool b1) ∧ Below W.heap.size W w')
    (h2 : ∀ W, Calls Tryd.prog 71 #[.agg #[.int .i64 ev, .int .i64 su, .int .i64 mx]] W fun e w' => e = .returned (.bool b2) ∧ Below W.heap.size W w')
    (h3 : ∀ W, Below w.heap.size w W → Calls Tryd.prog 72 #[.agg #[.string a, .string m, .int .i64 mo, .int .i64 ev, .int .i64 su, .int .i64 mx, .slice ta tl tc, .func (.func 104) #[] #[], .func (.func 105) #[] #[], .slice ha hl hc, .func (.func 106) #[] #[], .func (.func 107) #[] #[]]] W fun e w' => e = .returned (.bool b3) ∧ Below W.heap.size W w')
    (h4 : b2 = true → ∀ W, Below w.heap.size w W → Calls Tryd.prog 73 #[.agg #[.string a, .string m, .int .i64 mo, .int .i64 ev, .int .i64 su, .int .i64 mx, .slice ta tl tc, .func (.func 104) #[] #[], .func (.func 105) #[] #[], .slice ha hl hc, .func (.func 106) #[] #[], .func (.func 107) #[] #[]]] W fun e w' => e = .returned (.bool b4) ∧ Below W.heap.size W w') :
    Calls Tryd.prog 36 #[.agg #[.string a, .string m, .int .i64 mo, .int .i64 ev, .int .i64 su, .int .i64 mx, .slice ta tl tc, .func (.func 104) #[] #[], .func (.func 105) #[] #[], .slice ha hl hc, .func (.func 106) #[] #[], .func (.func 107) #[] #[]]] w fun e w' => e = .returned (.bool (b1 && (b2 && (b3 && b4)))) ∧ Below w.heap.size w w' := by
  have H1 := hid_intro h1
  have H2 := hid_intro h2
  have H3 := hid_intro h3
  have H4 := hid_intro h4
  clear h1 h2 h3 h4
  have HB0 : Hid (Below w.heap.size w (w.alloc (.cells #[.string a, .string m, .int .i64 mo, .int .i64 ev, .int .i64 su, .int .i64 mx, .slice ta tl tc, .func (.func 104) #[] #[], .func (.func 105) #[] #[], .slice ha hl hc, .func (.func 106) #[] #[], .func (.func 107) #[] #[]] 74))) := hid_intro ((Below.refl _ _).alloc (Nat.le_refl _) _)
  have HX0 := hid_intro (Blk.new w [.string a, .string m, .int .i64 mo, .int .i64 ev, .int .i64 su, .int .i64 mx, .slice ta tl tc, .func (.func 104) #[] #[], .func (.func 105) #[] #[], .slice ha hl hc, .func (.func 106) #[] #[], .func (.func 107) #[] #[]] 74)
  rcases four b1 b2 b3 b4 with rfl | ⟨rfl, rfl⟩ | ⟨rfl, rfl, rfl⟩ | ⟨rfl, rfl, rfl, rfl⟩ | ⟨rfl, rfl, rfl, rfl⟩
  · go_enter Tryd.func36, Tryd.ntmps36
    go_wp2_with fail
    refine (H1.out _).mono ?_
    rintro e w1 ⟨rfl, hb1⟩
    have HB1 := hid_intro (HB0.out.trans (hb1.mono HB0.out.size))
    have HX1 := hid_intro (HX0.out.below hb1)
    clear hb1
    go_wp2_with fail
    go_ret
    exact ⟨rfl, HB1.out⟩
  · go_enter Tryd.func36, Tryd.ntmps36
    go_wp2_with fail
    refine (H1.out _).mono ?_
    rintro e w1 ⟨rfl, hb1⟩
    have HB1 := hid_intro (HB0.out.trans (hb1.mono HB0.out.size))
    have HX1 := hid_intro (HX0.out.below hb1)
    clear hb1
    obtain ⟨xl, xc⟩ := HX1.out
    have y0 : w1.cell? ⟨w.heap.size, 0, none⟩ = some (.string a) := xc 0 (by simp)
    have y1 : w1.cell? ⟨w.heap.size, 1, none⟩ = some (.string m) := xc 1 (by simp)
    have y2 : w1.cell? ⟨w.heap.size, 2, none⟩ = some (.int .i64 mo) := xc 2 (by simp)
    have y3 : w1.cell? ⟨w.heap.size, 3, none⟩ = some (.int .i64 ev) := xc 3 (by simp)
    have y4 : w1.cell? ⟨w.heap.size, 4, none⟩ = some (.int .i64 su) := xc 4 (by simp)
    have y5 : w1.cell? ⟨w.heap.size, 5, none⟩ = some (.int .i64 mx) := xc 5 (by simp)
    have y6 : w1.cell? ⟨w.heap.size, 6, none⟩ = some (.slice ta tl tc) := xc 6 (by simp)
    have y7 : w1.cell? ⟨w.heap.size, 7, none⟩ = some (.func (.func 104) #[] #[]) := xc 7 (by simp)
    have y8 : w1.cell? ⟨w.heap.size, 8, none⟩ = some (.func (.func 105) #[] #[]) := xc 8 (by simp)
    have y9 : w1.cell? ⟨w.heap.size, 9, none⟩ = some (.slice ha hl hc) := xc 9 (by simp)
    have y10 : w1.cell? ⟨w.heap.size, 10, none⟩ = some (.func (.func 106) #[] #[]) := xc 10 (by simp)
    have y11 : w1.cell? ⟨w.heap.size, 11, none⟩ = some (.func (.func 107) #[] #[]) := xc 11 (by simp)
    clear xc
    go_wp2_with fail
    refine (H2.out _).mono ?_
    rintro e w2 ⟨rfl, hb2⟩
    have HB2 := hid_intro (HB1.out.trans (hb2.mono HB1.out.size))
    have HX2 := hid_intro (HX1.out.below hb2)
    clear hb2
    go_wp2_with fail
    go_ret
    exact ⟨rfl, HB2.out⟩
  · go_enter Tryd.func36, Tryd.ntmps36
    go_wp2_with fail
    refine (H1.out _).mono ?_
    rintro e w1 ⟨rfl, hb1⟩
    have HB1 := hid_intro (HB0.out.trans (hb1.mono HB0.out.size))
    have HX1 := hid_intro (HX0.out.below hb1)
    clear hb1
    obtain ⟨xl, xc⟩ := HX1.out
    have y0 : w1.cell? ⟨w.heap.size, 0, none⟩ = some (.string a) := xc 0 (by simp)
    have y1 : w1.cell? ⟨w.heap.size, 1, none⟩ = some (.string m) := xc 1 (by simp)
    have y2 : w1.cell? ⟨w.heap.size, 2, none⟩ = some (.int .i64 mo) := xc 2 (by simp)
    have y3 : w1.cell? ⟨w.heap.size, 3, none⟩ = some (.int .i64 ev) := xc 3 (by simp)
    have y4 : w1.cell? ⟨w.heap.size, 4, none⟩ = some (.int .i64 su) := xc 4 (by simp)
    have y5 : w1.cell? ⟨w.heap.size, 5, none⟩ = some (.int .i64 mx) := xc 5 (by simp)
    have y6 : w1.cell? ⟨w.heap.size, 6, none⟩ = some (.slice ta tl tc) := xc 6 (by simp)
    have y7 : w1.cell? ⟨w.heap.size, 7, none⟩ = some (.func (.func 104) #[] #[]) := xc 7 (by simp)
    have y8 : w1.cell? ⟨w.heap.size, 8, none⟩ = some (.func (.func 105) #[] #[]) := xc 8 (by simp)
    have y9 : w1.cell? ⟨w.heap.size, 9, none⟩ = some (.slice ha hl hc) := xc 9 (by simp)
    have y10 : w1.cell? ⟨w.heap.size, 10, none⟩ = some (.func (.func 106) #[] #[]) := xc 10 (by simp)
    have y11 : w1.cell? ⟨w.heap.size, 11, none⟩ = some (.func (.func 107) #[] #[]) := xc 11 (by simp)
    clear xc
    go_wp2_with fail
    refine (H2.out _).mono ?_
    rintro e w2 ⟨rfl, hb2⟩
    have HB2 := hid_intro (HB1.out.trans (hb2.mono HB1.out.size))
    have HX2 := hid_intro (HX1.out.below hb2)
    clear hb2
    clear y0 y1 y2 y3 y4 y5 y6 y7 y8 y9 y10 y11
    obtain ⟨xl, xc⟩ := HX2.out
    have y0 : w2.cell? ⟨w.heap.size, 0, none⟩ = some (.string a) := xc 0 (by simp)
    have y1 : w2.cell? ⟨w.heap.size, 1, none⟩ = some (.string m) := xc 1 (by simp)
    have y2 : w2.cell? ⟨w.heap.size, 2, none⟩ = some (.int .i64 mo) := xc 2 (by simp)
    have y3 : w2.cell? ⟨w.heap.size, 3, none⟩ = some (.int .i64 ev) := xc 3 (by simp)
    have y4 : w2.cell? ⟨w.heap.size, 4, none⟩ = some (.int .i64 su) := xc 4 (by simp)
    have y5 : w2.cell? ⟨w.heap.size, 5, none⟩ = some (.int .i64 mx) := xc 5 (by simp)
    have y6 : w2.cell? ⟨w.heap.size, 6, none⟩ = some (.slice ta tl tc) := xc 6 (by simp)
    have y7 : w2.cell? ⟨w.heap.size, 7, none⟩ = some (.func (.func 104) #[] #[]) := xc 7 (by simp)
    have y8 : w2.cell? ⟨w.heap.size, 8, none⟩ = some (.func (.func 105) #[] #[]) := xc 8 (by simp)
    have y9 : w2.cell? ⟨w.heap.size, 9, none⟩ = some (.slice ha hl hc) := xc 9 (by simp)
    have y10 : w2.cell? ⟨w.heap.size, 10, none⟩ = some (.func (.func 106) #[] #[]) := xc 10 (by simp)
    have y11 : w2.cell? ⟨w.heap.size, 11, none⟩ = some (.func (.func 107) #[] #[]) := xc 11 (by simp)
    clear xc
    go_wp2_with fail
    refine (H3.out _ HB2.out).mono ?_
    rintro e w3 ⟨rfl, hb3⟩
    have HB3 := hid_intro (HB2.out.trans (hb3.mono HB2.out.size))
    have HX3 := hid_intro (HX2.out.below hb3)
    clear hb3
    go_wp2_with fail
    go_ret
    exact ⟨rfl, HB3.out⟩
  · go_enter Tryd.func36, Tryd.ntmps36
    go_wp2_with fail
    refine (H1.out _).mono ?_
    rintro e w1 ⟨rfl, hb1⟩
    have HB1 := hid_intro (HB0.out.trans (hb1.mono HB0.out.size))
    have HX1 := hid_intro (HX0.out.below hb1)
    clear hb1
    obtain ⟨xl, xc⟩ := HX1.out
    have y0 : w1.cell? ⟨w.heap.size, 0, none⟩ = some (.string a) := xc 0 (by simp)
    have y1 : w1.cell? ⟨w.heap.size, 1, none⟩ = some (.string m) := xc 1 (by simp)
    have y2 : w1.cell? ⟨w.heap.size, 2, none⟩ = some (.int .i64 mo) := xc 2 (by simp)
    have y3 : w1.cell? ⟨w.heap.size, 3, none⟩ = some (.int .i64 ev) := xc 3 (by simp)
    have y4 : w1.cell? ⟨w.heap.size, 4, none⟩ = some (.int .i64 su) := xc 4 (by simp)
    have y5 : w1.cell? ⟨w.heap.size, 5, none⟩ = some (.int .i64 mx) := xc 5 (by simp)
    have y6 : w1.cell? ⟨w.heap.size, 6, none⟩ = some (.slice ta tl tc) := xc 6 (by simp)
    have y7 : w1.cell? ⟨w.heap.size, 7, none⟩ = some (.func (.func 104) #[] #[]) := xc 7 (by simp)
    have y8 : w1.cell? ⟨w.heap.size, 8, none⟩ = some (.func (.func 105) #[] #[]) := xc 8 (by simp)
    have y9 : w1.cell? ⟨w.heap.size, 9, none⟩ = some (.slice ha hl hc) := xc 9 (by simp)
    have y10 : w1.cell? ⟨w.heap.size, 10, none⟩ = some (.func (.func 106) #[] #[]) := xc 10 (by simp)
    have y11 : w1.cell? ⟨w.heap.size, 11, none⟩ = some (.func (.func 107) #[] #[]) := xc 11 (by simp)
    clear xc
    go_wp2_with fail
    refine (H2.out _).mono ?_
    rintro e w2 ⟨rfl, hb2⟩
    have HB2 := hid_intro (HB1.out.trans (hb2.mono HB1.out.size))
    have HX2 := hid_intro (HX1.out.below hb2)
    clear hb2
    clear y0 y1 y2 y3 y4 y5 y6 y7 y8 y9 y10 y11
    obtain ⟨xl, xc⟩ := HX2.out
    have y0 : w2.cell? ⟨w.heap.size, 0, none⟩ = some (.string a) := xc 0 (by simp)
    have y1 : w2.cell? ⟨w.heap.size, 1, none⟩ = some (.string m) := xc 1 (by simp)
    have y2 : w2.cell? ⟨w.heap.size, 2, none⟩ = some (.int .i64 mo) := xc 2 (by simp)
    have y3 : w2.cell? ⟨w.heap.size, 3, none⟩ = some (.int .i64 ev) := xc 3 (by simp)
    have y4 : w2.cell? ⟨w.heap.size, 4, none⟩ = some (.int .i64 su) := xc 4 (by simp)
    have y5 : w2.cell? ⟨w.heap.size, 5, none⟩ = some (.int .i64 mx) := xc 5 (by simp)
    have y6 : w2.cell? ⟨w.heap.size, 6, none⟩ = some (.slice ta tl tc) := xc 6 (by simp)
    have y7 : w2.cell? ⟨w.heap.size, 7, none⟩ = some (.func (.func 104) #[] #[]) := xc 7 (by simp)
    have y8 : w2.cell? ⟨w.heap.size, 8, none⟩ = some (.func (.func 105) #[] #[]) := xc 8 (by simp)
    have y9 : w2.cell? ⟨w.heap.size, 9, none⟩ = some (.slice ha hl hc) := xc 9 (by simp)
    have y10 : w2.cell? ⟨w.heap.size, 10, none⟩ = some (.func (.func 106) #[] #[]) := xc 10 (by simp)
    have y11 : w2.cell? ⟨w.heap.size, 11, none⟩ = some (.func (.func 107) #[] #[]) := xc 11 (by simp)
    clear xc
    go_wp2_with fail
    refine (H3.out _ HB2.out).mono ?_
    rintro e w3 ⟨rfl, hb3⟩
    have HB3 := hid_intro (HB2.out.trans (hb3.mono HB2.out.size))
    have HX3 := hid_intro (HX2.out.below hb3)
    clear hb3
    clear y0 y1 y2 y3 y4 y5 y6 y7 y8 y9 y10 y11
    obtain ⟨xl, xc⟩ := HX3.out
    have y0 : w3.cell? ⟨w.heap.size, 0, none⟩ = some (.string a) := xc 0 (by simp)
    have y1 : w3.cell? ⟨w.heap.size, 1, none⟩ = some (.string m) := xc 1 (by simp)
    have y2 : w3.cell? ⟨w.heap.size, 2, none⟩ = some (.int .i64 mo) := xc 2 (by simp)
    have y3 : w3.cell? ⟨w.heap.size, 3, none⟩ = some (.int .i64 ev) := xc 3 (by simp)
    have y4 : w3.cell? ⟨w.heap.size, 4, none⟩ = some (.int .i64 su) := xc 4 (by simp)
    have y5 : w3.cell? ⟨w.heap.size, 5, none⟩ = some (.int .i64 mx) := xc 5 (by simp)
    have y6 : w3.cell? ⟨w.heap.size, 6, none⟩ = some (.slice ta tl tc) := xc 6 (by simp)
    have y7 : w3.cell? ⟨w.heap.size, 7, none⟩ = some (.func (.func 104) #[] #[]) := xc 7 (by simp)
    have y8 : w3.cell? ⟨w.heap.size, 8, none⟩ = some (.func (.func 105) #[] #[]) := xc 8 (by simp)
    have y9 : w3.cell? ⟨w.heap.size, 9, none⟩ = some (.slice ha hl hc) := xc 9 (by simp)
    have y10 : w3.cell? ⟨w.heap.size, 10, none⟩ = some (.func (.func 106) #[] #[]) := xc 10 (by simp)
    have y11 : w3.cell? ⟨w.heap.size, 11, none⟩ = some (.func (.func 107) #[] #[]) := xc 11 (by simp)
    clear xc
    go_wp2_with fail
    refine (H4.out (by first | rfl | trivial) _ HB3.out).mono ?_
    rintro e w4 ⟨rfl, hb4⟩
    have HB4 := hid_intro (HB3.out.trans (hb4.mono HB3.out.size))
    have HX4 := hid_intro (HX3.out.below hb4)
    clear hb4
    go_wp2_with fail
    go_ret
    exact ⟨rfl, HB4.out⟩
  · go_enter Tryd.func36, Tryd.ntmps36
    go_wp2_with fail
    refine (H1.out _).mono ?_
    rintro e w1 ⟨rfl, hb1⟩
    have HB1 := hid_intro (HB0.out.trans (hb1.mono HB0.out.size))
    have HX1 := hid_intro (HX0.out.below hb1)
    clear hb1
    obtain ⟨xl, xc⟩ := HX1.out
    have y0 : w1.cell? ⟨w.heap.size, 0, none⟩ = some (.string a) := xc 0 (by simp)
    have y1 : w1.cell? ⟨w.heap.size, 1, none⟩ = some (.string m) := xc 1 (by simp)
    have y2 : w1.cell? ⟨w.heap.size, 2, none⟩ = some (.int .i64 mo) := xc 2 (by simp)
    have y3 : w1.cell? ⟨w.heap.size, 3, none⟩ = some (.int .i64 ev) := xc 3 (by simp)
    have y4 : w1.cell? ⟨w.heap.size, 4, none⟩ = some (.int .i64 su) := xc 4 (by simp)
    have y5 : w1.cell? ⟨w.heap.size, 5, none⟩ = some (.int .i64 mx) := xc 5 (by simp)
    have y6 : w1.cell? ⟨w.heap.size, 6, none⟩ = some (.slice ta tl tc) := xc 6 (by simp)
    have y7 : w1.cell? ⟨w.heap.size, 7, none⟩ = some (.func (.func 104) #[] #[]) := xc 7 (by simp)
    have y8 : w1.cell? ⟨w.heap.size, 8, none⟩ = some (.func (.func 105) #[] #[]) := xc 8 (by simp)
    have y9 : w1.cell? ⟨w.heap.size, 9, none⟩ = some (.slice ha hl hc) := xc 9 (by simp)
    have y10 : w1.cell? ⟨w.heap.size, 10, none⟩ = some (.func (.func 106) #[] #[]) := xc 10 (by simp)
    have y11 : w1.cell? ⟨w.heap.size, 11, none⟩ = some (.func (.func 107) #[] #[]) := xc 11 (by simp)
    clear xc
    go_wp2_with fail
    refine (H2.out _).mono ?_
    rintro e w2 ⟨rfl, hb2⟩
    have HB2 := hid_intro (HB1.out.trans (hb2.mono HB1.out.size))
    have HX2 := hid_intro (HX1.out.below hb2)
    clear hb2
    clear y0 y1 y2 y3 y4 y5 y6 y7 y8 y9 y10 y11
    obtain ⟨xl, xc⟩ := HX2.out
    have y0 : w2.cell? ⟨w.heap.size, 0, none⟩ = some (.string a) := xc 0 (by simp)
    have y1 : w2.cell? ⟨w.heap.size, 1, none⟩ = some (.string m) := xc 1 (by simp)
    have y2 : w2.cell? ⟨w.heap.size, 2, none⟩ = some (.int .i64 mo) := xc 2 (by simp)
    have y3 : w2.cell? ⟨w.heap.size, 3, none⟩ = some (.int .i64 ev) := xc 3 (by simp)
    have y4 : w2.cell? ⟨w.heap.size, 4, none⟩ = some (.int .i64 su) := xc 4 (by simp)
    have y5 : w2.cell? ⟨w.heap.size, 5, none⟩ = some (.int .i64 mx) := xc 5 (by simp)
    have y6 : w2.cell? ⟨w.heap.size, 6, none⟩ = some (.slice ta tl tc) := xc 6 (by simp)
    have y7 : w2.cell? ⟨w.heap.size, 7, none⟩ = some (.func (.func 104) #[] #[]) := xc 7 (by simp)
    have y8 : w2.cell? ⟨w.heap.size, 8, none⟩ = some (.func (.func 105) #[] #[]) := xc 8 (by simp)
    have y9 : w2.cell? ⟨w.heap.size, 9, none⟩ = some (.slice ha hl hc) := xc 9 (by simp)
    have y10 : w2.cell? ⟨w.heap.size, 10, none⟩ = some (.func (.func 106) #[] #[]) := xc 10 (by simp)
    have y11 : w2.cell? ⟨w.heap.size, 11, none⟩ = some (.func (.func 107) #[] #[]) := xc 11 (by simp)
    clear xc
    go_wp2_with fail
    refine (H3.out _ HB2.out).mono ?_
    rintro e w3 ⟨rfl, hb3⟩
    have HB3 := hid_intro (HB2.out.trans (hb3.mono HB2.out.size))
    have HX3 := hid_intro (HX2.out.below hb3)
    clear hb3
    clear y0 y1 y2 y3 y4 y5 y6 y7 y8 y9 y10 y11
    obtain ⟨xl, xc⟩ := HX3.out
    have y0 : w3.cell? ⟨w.heap.size, 0, none⟩ = some (.string a) := xc 0 (by simp)
    have y1 : w3.cell? ⟨w.heap.size, 1, none⟩ = some (.string m) := xc 1 (by simp)
    have y2 : w3.cell? ⟨w.heap.size, 2, none⟩ = some (.int .i64 mo) := xc 2 (by simp)
    have y3 : w3.cell? ⟨w.heap.size, 3, none⟩ = some (.int .i64 ev) := xc 3 (by simp)
    have y4 : w3.cell? ⟨w.heap.size, 4, none⟩ = some (.int .i64 su) := xc 4 (by simp)
    have y5 : w3.cell? ⟨w.heap.size, 5, none⟩ = some (.int .i64 mx) := xc 5 (by simp)
    have y6 : w3.cell? ⟨w.heap.size, 6, none⟩ = some (.slice ta tl tc) := xc 6 (by simp)
    have y7 : w3.cell? ⟨w.heap.size, 7, none⟩ = some (.func (.func 104) #[] #[]) := xc 7 (by simp)
    have y8 : w3.cell? ⟨w.heap.size, 8, none⟩ = some (.func (.func 105) #[] #[]) := xc 8 (by simp)
    have y9 : w3.cell? ⟨w.heap.size, 9, none⟩ = some (.slice ha hl hc) := xc 9 (by simp)
    have y10 : w3.cell? ⟨w.heap.size, 10, none⟩ = some (.func (.func 106) #[] #[]) := xc 10 (by simp)
    have y11 : w3.cell? ⟨w.heap.size, 11, none⟩ = some (.func (.func 107) #[] #[]) := xc 11 (by simp)
    clear xc
    go_wp2_with fail
    refine (H4.out (by first | rfl | trivial) _ HB3.out).mono ?_
    rintro e w4 ⟨rfl, hb4⟩
    have HB4 := hid_intro (HB3.out.trans (hb4.mono HB3.out.size))
    have HX4 := hid_intro (HX3.out.below hb4)
    clear hb4
    go_wp2_with fail
    go_ret
    exact ⟨rfl, HB4.out⟩
theorem impl_right (a m : ByteArray) (mo ev su mx : Int) (ts : List ByteArray) (hs : List H) (ta : Option Addr) (tc : Nat) (ha : Option Addr) (hc : Nat) (w : World) (h1 : a.size ≤ 1048576) (h2 : m.size ≤ 1048576) (h3 : ts.length ≤ 1048576) (h4 : ∀ t ∈ ts, t.size ≤ 1048576) (h5 : hs.length ≤ 1048576) (hL : Laid w) (hT : Tgs ta ts w) (hH : Hrs ha hs w) :
    Calls Tryd.prog 36 #[.agg #[.string a, .string m, .int .i64 mo, .int .i64 ev, .int .i64 su, .int .i64 mx, .slice ta ts.length tc, .func (.func 104) #[] #[], .func (.func 105) #[] #[], .slice ha hs.length hc, .func (.func 106) #[] #[], .func (.func 107) #[] #[]]] w fun e w' => e = .returned (.bool (wB ⟨a, m, mo, ev, su, mx, ts, hs⟩)) ∧ Below w.heap.size w w' :=
  right_in a m mo ev su mx ta ts.length tc ha hs.length hc _ _ _ _ w (fun W => impl_named a m mo W h1 h2) (fun W => impl_counted ev su mx W) (fun W hW => impl_tagged a m mo ev su mx ts ta tc _ W h3 h4 (hT.below hW)) (fun hc W hW => impl_timed a m mo ev su mx hs _ ha _ W h5 (counted_su hc).2.1 (hL.below hW) (hH.below hW))
theorem impl_window_right (x : Wd) (ta : Option Addr) (tc : Nat) (ha : Option Addr) (hc : Nat) (w : World) (h1 : x.a.size ≤ 1048576) (h2 : x.m.size ≤ 1048576) (h3 : x.ts.length ≤ 1048576) (h4 : ∀ t ∈ x.ts, t.size ≤ 1048576) (h5 : x.hs.length ≤ 1048576) (hL : Laid w) (hT : Tgs ta x.ts w) (hH : Hrs ha x.hs w) :
    Calls Tryd.prog 25 #[.agg (wcells x ta tc ha hc)] w fun e w' => e = .returned (.bool (wB x)) ∧ Below w.heap.size w w' := by
  obtain ⟨a, m, mo, ev, su, mx, ts, hs⟩ := x
  dsimp only at *
  have H1 := hid_intro (fun W => impl_usage a m mo ev su mx ta ts.length tc ha hs.length hc W)
  have H2 := hid_intro (fun W (hW : Below w.heap.size w W) => impl_right a m mo ev su mx ts hs ta tc ha hc W h1 h2 h3 h4 h5 (hL.below hW) (hT.below hW) (hH.below hW))
  unfold wcells
  dsimp only
  generalize wB ⟨a, m, mo, ev, su, mx, ts, hs⟩ = R at *
  generalize ts.length = tl at *
  generalize hs.length = hl at *
  clear hL hT hH h4
  have HB0 : Hid (Below w.heap.size w (w.alloc (.cells #[.string a, .string m, .int .i64 mo, .int .i64 ev, .int .i64 su, .int .i64 mx, .slice ta tl tc, .slice ha hl hc] 29))) := hid_intro ((Below.refl _ _).alloc (Nat.le_refl _) _)
  go_enter Tryd.func25, Tryd.ntmps25
  go_wp2_with fail
  refine (H1.out _).mono ?_
  rintro e w1 ⟨rfl, hb1⟩
  have HB1 := hid_intro (HB0.out.trans (hb1.mono HB0.out.size))
  clear hb1
  go_wp2_with fail
  refine (H2.out _ HB1.out).mono ?_
  rintro e w2 ⟨rfl, hb2⟩
  have HB2 := hid_intro (HB1.out.trans (hb2.mono HB1.out.size))
  clear hb2
  go_wp2_with fail
  go_ret
  exact ⟨rfl, HB2.out⟩
end WinR
end Go.Proofs.YtmeemmbpkjfleaaDoor
namespace Go.Proofs.YtmeemmbpkjfleaaDoor
open Go.ChangeShapes Go.WideShapes Go.ChangeAt Go.RowKit
set_option linter.unusedVariables false
namespace WinR
open RowG LtR
theorem tag_word (X : ByteArray) : (WordR.printB X && decide ((X.size : Int) ≤ 10)) = EvtR.tagB X := by
  unfold EvtR.tagB
  rw [Bool.and_comm]
  congr 1
  exact decide_eq_decide.2 (by omega)
theorem ok_none {X : ByteArray} (h : X.size = 0) : tagOk X = false := by unfold tagOk; rw [decide_eq_false (by omega), Bool.false_and]
theorem ok_some {X : ByteArray} (h : X.size ≠ 0) : tagOk X = EvtR.tagB X := by unfold tagOk; rw [decide_eq_true (by omega), Bool.true_and]
set_option maxRecDepth 100000 in
set_option maxHeartbeats 4000000 in
theorem spec_tags (ao : Option Addr) (cap : Nat) (ts : List ByteArray) (w : World) (hlen : ts.length ≤ 1048576) (hS : ∀ t ∈ ts, t.size ≤ 1048576) (hI : Tgs ao ts w) :
    Calls Tryd.prog 56 #[.slice ao ts.length cap] w fun e w' => e = .returned (.bool (tagsB ts)) ∧ Below w.heap.size w w' := by
  have HI := hid_intro hI
  have HS := hid_intro hS
  have HBA := hid_intro (fun k => tags_bad (ts := ts) (k := k))
  have HDO := hid_intro (tags_done (ts := ts))
  generalize tagsB ts = R at *
  obtain ⟨len, hl⟩ : ∃ len, len = ts.length := ⟨_, rfl⟩
  rw [← hl] at hlen ⊢
  have HL := hid_intro hl
  clear hI hl hS
  go_enter Tryd.func56, Tryd.ntmps56
  go_wp2_with fail
  go_loopw [3] (fun z wr => ∃ k : Nat, k ≤ len ∧ z = .int .i64 k ∧ Hid (TUp ts k) ∧ Hid (Below w.heap.size w wr)) (fun z _ => len - (intOf z).toNat)
  case atStart => exact ⟨0, by omega, rfl, hid_intro (TUp.zero ts), hid_intro (Below.refl _ _)⟩
  case round =>
    obtain ⟨k, hk, rfl, HK, HB⟩ := hrel
    by_cases hlt : k < len
    · have hlt2 : (k : Int) < (len : Int) := by omega
      have hkl : k < ts.length := by have := HL.out; omega
      obtain ⟨b, off, rfl, hbl, c0⟩ := (HI.out.below HB.out).at k hkl
      have hsz := HS.out _ (getD_mem (z := tz) ts k hkl)
      have H1 := hid_intro (fun w => WordR.spec_word (ts.getD k tz) 10 w hsz)
      rw [tag_word] at H1
      have HB1 := hid_intro (fun h => HBA.out k hkl (.inl h))
      have HB2 := hid_intro (fun h0 h => HBA.out k hkl (.inr ⟨h0, h⟩))
      have HM := hid_intro (fun h1 h2 => HK.out.more hkl h1 h2)
      have HO0 := hid_intro (ok_none (X := ts.getD k tz))
      have HO1 := hid_intro (ok_some (X := ts.getD k tz))
      rcases (show k = 0 ∨ ∃ j, j + 1 = k from by rcases k with _ | j; exact .inl rfl; exact .inr ⟨j, rfl⟩) with rfl | ⟨j, hkj⟩
      · simp only [Nat.add_zero] at c0
        generalize ts.getD 0 tz = X at *
        by_cases hi : X.size = 0
        · have he := EvtR.empty_of X hi
          have HR : Hid (R = false) := hid_intro (HB1.out (HO0.out hi))
          go_wp2_with fail
          go_quiet ((go_at_call 83; exact Calls.quiet_of_same (H1.out _)))
          go_wp2_with fail
          go_ret
          exact ⟨ret_bool HR.out.symm, bdN HB.out _⟩
        · obtain ⟨he, he2⟩ := EvtR.full_of X hi
          have HO2 := hid_intro (HO1.out hi)
          generalize EvtR.tagB X = g at *
          cases g
          · have HR : Hid (R = false) := hid_intro (HB1.out HO2.out)
            go_wp2_with fail
            go_quiet ((go_at_call 83; exact Calls.quiet_of_same (H1.out _)))
            go_wp2_with fail
            go_ret
            exact ⟨ret_bool HR.out.symm, bdN HB.out _⟩
          · have HM2 := hid_intro (HM.out HO2.out (fun h => absurd h (by omega)))
            go_wp2_with fail
            go_quiet ((go_at_call 83; exact Calls.quiet_of_same (H1.out _)))
            go_wp2_with fail
            go_roundw
            case rel => exact ⟨0 + 1, by omega, by go_num, HM2, hid_intro (bdN HB.out _)⟩
            case measure => simp [intOf]; omega
      · obtain ⟨b', off', hbo, hbl', d0⟩ := (HI.out.below HB.out).at j (by omega)
        obtain ⟨rfl, rfl⟩ : b = b' ∧ off = off' := by simpa using hbo
        have hj1 : IntKind.i64.wrap ((k : Int) - 1) = (j : Int) := by rw [IntKind.wrap_i64]; omega
        have hj2 : 0 < k := by omega
        have hj3 : (j : Int) < (len : Int) := by omega
        rw [show k - 1 = j by omega] at HB2 HM
        clear hbl' hbo hkj
        generalize ts.getD k tz = X at *
        generalize ts.getD j tz = Y at *
        by_cases hi : X.size = 0
        · have he := EvtR.empty_of X hi
          have HR : Hid (R = false) := hid_intro (HB1.out (HO0.out hi))
          go_wp2_with fail
          go_quiet ((go_at_call 83; exact Calls.quiet_of_same (H1.out _)))
          go_wp2_with fail
          go_ret
          exact ⟨ret_bool HR.out.symm, bdN HB.out _⟩
        · obtain ⟨he, he2⟩ := EvtR.full_of X hi
          have HO2 := hid_intro (HO1.out hi)
          generalize EvtR.tagB X = g at *
          cases g
          · have HR : Hid (R = false) := hid_intro (HB1.out HO2.out)
            go_wp2_with fail
            go_quiet ((go_at_call 83; exact Calls.quiet_of_same (H1.out _)))
            go_wp2_with fail
            go_ret
            exact ⟨ret_bool HR.out.symm, bdN HB.out _⟩
          · cases hq : Op.bytesLess Y.toList X.toList
            · have HR : Hid (R = false) := hid_intro (HB2.out hj2 hq)
              go_wp2_with fail
              go_quiet ((go_at_call 83; exact Calls.quiet_of_same (H1.out _)))
              go_wp2_with fail
              go_ret
              exact ⟨ret_bool HR.out.symm, bdN HB.out _⟩
            · have HM2 := hid_intro (HM.out HO2.out (fun _ => hq))
              go_wp2_with fail
              go_quiet ((go_at_call 83; exact Calls.quiet_of_same (H1.out _)))
              go_wp2_with fail
              go_roundw
              case rel => exact ⟨k + 1, by omega, by go_num, HM2, hid_intro (bdN HB.out _)⟩
              case measure => simp [intOf]; omega
    · have hlt2 : ¬ (k : Int) < (len : Int) := by omega
      obtain rfl : k = len := by omega
      have HR : Hid (R = decide (k ≤ 12)) := hid_intro (by rw [HDO.out (by rw [← HL.out]; exact HK.out), ← HL.out])
      by_cases h12 : k ≤ 12
      · rw [decide_eq_true h12] at HR
        have h12' : (k : Int) ≤ 12 := by omega
        go_wp2_with fail
        go_ret
        exact ⟨ret_bool HR.out.symm, HB.out⟩
      · rw [decide_eq_false h12] at HR
        have h12' : ¬ (k : Int) ≤ 12 := by omega
        go_wp2_with fail
        go_ret
        exact ⟨ret_bool HR.out.symm, HB.out⟩
end WinR
end Go.Proofs.YtmeemmbpkjfleaaDoor
namespace Go.Proofs.YtmeemmbpkjfleaaDoor
open Go.ChangeShapes Go.WideShapes Go.ChangeAt Go.RowKit
/-- A world that holds some facts. -/
structure HW (S : World → Prop) where
  w : World
  h : S w
theorem wp_region_hw {P : Program} {id : Nat} {Q : Exit → Act → World → Prop} {a : Act} {w : World} {l : List Oper} (S : World → Prop) (hm : P.follows .mixedOrders = true) (hB : Region.lexB .any l.toArray = true) (hC : S w.drew)
    (h : wpQuiet P l.toArray (fun w' => ∃ s : HW S, w' = s.w) (fun a' => ∀ w', (∃ s : HW S, w' = s.w) → Q .normal a' w') l a) : (Code.region id l.toArray true).wp P Q a w :=
  wp_region_quiet (C := fun w' => ∃ s : HW S, w' = s.w) hm hB ⟨⟨_, hC⟩, rfl⟩ (by simpa using h)
end Go.Proofs.YtmeemmbpkjfleaaDoor
namespace Go.Proofs.YtmeemmbpkjfleaaDoor
open Go.ChangeShapes Go.WideShapes Go.ChangeAt Go.RowKit
set_option linter.unusedVariables false
namespace WinR
open RowG LtR
/-- What the round reads. -/
def SHt (w : World) (b o o' : Nat) (x y : H) (W : World) : Prop := Below w.heap.size w W ∧ b < W.heap.size ∧ W.cell? ⟨b, o, none⟩ = some (.int .i64 x.h) ∧ W.cell? ⟨b, o + 1, none⟩ = some (.int .i64 x.s) ∧ W.cell? ⟨b, o', none⟩ = some (.int .i64 y.h)
theorem SHt.below {w : World} {b o o' : Nat} {x y : H} {W W' : World} (h : SHt w b o o' x y W) (hb : Below W.heap.size W W') : SHt w b o o' x y W' := by
  obtain ⟨h0, h1, c0, c1, c2⟩ := h
  have c := fun o => hb.cell (p := ⟨b, o, none⟩) h1
  have := hb.size
  exact ⟨h0.trans (hb.mono h0.size), by omega, (c _).trans c0, (c _).trans c1, (c _).trans c2⟩
/-- What is told of an hour, the model's way: not in its limits, of another month, not rising, a sum that may not be. -/
theorem ok_far {mo su : Int} {x : H} (h : ¬ (0 ≤ x.h ∧ x.h ≤ 2016666)) : hOk mo su x = false := by unfold hOk; rw [hour_far h, Bool.false_and]
theorem ok_in {mo su : Int} {x : H} {v : Int} {k : Nat} (h1 : 0 ≤ x.h) (h2 : x.h ≤ 2016666) (hv : v = (k : Int)) (f1 : DateM.fd k ≤ 60 * x.h / 1440) (f2 : 60 * x.h / 1440 < DateM.fd (k + 1)) : hOk mo su x = (decide (v = mo) && decide (0 ≤ x.s ∧ x.s ≤ su)) := by
  unfold hOk
  rw [hour_month h1 h2 k hv f1 f2]
theorem is_any (n low high : Int) (w : World) :
    Calls Tryd.prog 55 #[.int .i64 n, .int .i64 low, .int .i64 high] w fun e w' => e = .returned (.bool (decide (low ≤ n ∧ n ≤ high))) ∧ Below w.heap.size w w' :=
  (EvtR.is_any n low high w).mono fun e w' ⟨h1, h2⟩ => by subst h2; exact ⟨h1, Below.refl _ _⟩
theorem is_lit (n low high : Int) (b : Bool) (hb : b = decide (low ≤ n ∧ n ≤ high)) (w : World) :
    Calls Tryd.prog 55 #[.int .i64 n, .int .i64 low, .int .i64 high] w fun e w' => e = .returned (.bool b) ∧ Below w.heap.size w w' := by
  rw [hb]; exact is_any n low high w
set_option maxRecDepth 100000 in
set_option maxHeartbeats 8000000 in
theorem spec_hours (ao : Option Addr) (cap : Nat) (hs : List H) (mo su : Int) (w : World) (hlen : hs.length ≤ 12) (hsu : 0 ≤ su ∧ su ≤ 1000000000000) (hI : Hrs ao hs w) :
    Calls Tryd.prog 57 #[.slice ao hs.length cap, .int .i64 mo, .int .i64 su] w fun e w' => e = .returned (.bool (hoursB hs mo su)) ∧ Below w.heap.size w w' := by
  have HI := hid_intro hI
  have HBA := hid_intro (fun k => hours_bad (hs := hs) (mo := mo) (su := su) (k := k))
  have HDO := hid_intro (hours_done (hs := hs) (mo := mo) (su := su))
  generalize hoursB hs mo su = R at *
  obtain ⟨len, hl⟩ : ∃ len, len = hs.length := ⟨_, rfl⟩
  rw [← hl] at hlen ⊢
  have HL := hid_intro hl
  obtain ⟨hs0, hs1⟩ := hsu
  clear hI hl
  go_enter Tryd.func57, Tryd.ntmps57
  go_wp2_with fail
  go_loopw [7, 8] (fun y z wr => ∃ k : Nat, k ≤ len ∧ y = .int .i64 (hsum (hs.take k)) ∧ z = .int .i64 k ∧ Hid (SUp hs mo su k) ∧ Hid (Below w.heap.size w wr)) (fun y z _ => len - (intOf z).toNat)
  case atStart => exact ⟨0, by omega, by simp [hsum], rfl, hid_intro (SUp.zero hs mo su), hid_intro (Below.refl _ _)⟩
  case round =>
    obtain ⟨k, hk, rfl, rfl, HK, HB⟩ := hrel
    by_cases hlt1 : k < len
    · have hlt2 : (k : Int) < (len : Int) := by omega
      have hkl : k < hs.length := by have := HL.out; omega
      have HSS := hid_intro (HK.out.sum hs0 (by omega))
      have hT0 : 0 ≤ hsum (hs.take k) := HSS.out.1
      have hT1 : hsum (hs.take k) ≤ 12000000000000 := by
        have h1 := HSS.out.2
        have h2 : su * (k : Int) ≤ 1000000000000 * 12 := Int.mul_le_mul hs1 (by omega) (by omega) (by omega)
        omega
      have HST := hid_intro (hsum_take hs k hkl)
      obtain ⟨b, off, rfl, hbl, c0, c1⟩ := (HI.out.below HB.out).at k hkl
      have HB1 := hid_intro (fun h => HBA.out k hkl (.inl h))
      have HB2 := hid_intro (fun h0 h => HBA.out k hkl (.inr ⟨h0, h⟩))
      have HM := hid_intro (fun h1 h2 => HK.out.more hkl h1 h2)
      generalize hsum (hs.take k) = T at *
      rcases (show k = 0 ∨ ∃ j, j + 1 = k from by rcases k with _ | j; exact .inl rfl; exact .inr ⟨j, rfl⟩) with rfl | ⟨j, hkj⟩
      · simp only [Nat.zero_mul, Nat.add_zero] at c0 c1
        generalize hs.getD 0 H.zero = X at *
        obtain ⟨xh, xs⟩ := X
        dsimp only at c0 c1 HST
        have d0 := c0
        obtain ⟨yh, hyh⟩ : ∃ yh, yh = xh := ⟨_, rfl⟩
        rw [← hyh] at d0
        obtain ⟨ys, hys⟩ : ∃ ys : Int, ys = 0 := ⟨_, rfl⟩
        clear hyh hys
        have HS0 : Hid (SHt w b (off) (off) ⟨xh, xs⟩ ⟨yh, ys⟩ wr) := hid_intro ⟨HB.out, hbl, c0, c1, d0⟩
        obtain ⟨S, hS⟩ : ∃ S : World → Prop, ∀ W, S W ↔ SHt w b (off) (off) ⟨xh, xs⟩ ⟨yh, ys⟩ W := ⟨_, fun _ => Iff.rfl⟩
        have HSC : Hid (∀ s : HW S, SHt w b (off) (off) ⟨xh, xs⟩ ⟨yh, ys⟩ s.w) := hid_intro (fun s => (hS _).1 s.h)
        have HSB : Hid (∀ (s : HW S) w', Below s.w.heap.size s.w w' → S w') := hid_intro (fun s w' hb => (hS _).2 ((HSC.out s).below hb))
        have HSD : Hid (S wr.drew) := hid_intro ((hS _).2 (HS0.out.below (Below.refl _ _).drew))
        have hne : Nonempty (HW S) := ⟨⟨_, HSD.out⟩⟩
        have f0 : ∀ s : HW S, s.w.cell? ⟨b, off, none⟩ = some (.int .i64 xh) := fun s => (HSC.out s).2.2.1
        have f1 : ∀ s : HW S, s.w.cell? ⟨b, off + 1, none⟩ = some (.int .i64 xs) := fun s => (HSC.out s).2.2.2.1
        clear hS
        rcases (show (¬ 0 ≤ xh) ∨ (0 ≤ xh ∧ ¬ xh ≤ 2016666) ∨ (0 ≤ xh ∧ xh ≤ 2016666) by omega) with p1 | ⟨p1, p2⟩ | ⟨p1, p2⟩
        · have HR : Hid (R = false) := hid_intro (HB1.out (ok_far (fun h => p1 h.1)))
          have HIs1 : Hid (false = decide (0 ≤ xh ∧ xh ≤ 2016666)) := hid_intro (decide_eq_false (by omega)).symm
          have HIs2 := HIs1
          go_wp2_with fail
          refine wp_region_hw S (by kernel_rfl) (by kernel_rfl) HSD.out ?_
          repeat (go_big_quiet_step ((rename_i s; first | (go_at_call 55; refine (is_lit _ _ _ _ (by first | exact HIs1.out | exact HIs2.out) _).mono ?_; rintro e w1 ⟨rfl, hb1⟩; exact ⟨rfl, ⟨w1, HSB.out s w1 hb1⟩, rfl⟩))))
          refine wpQuiet_nil ?_
          intro _ hw'
          obtain ⟨s, hw''⟩ := hw'
          subst hw''
          have HBF := hid_intro (HSC.out s).1
          go_wp2_with fail
          go_ret
          exact ⟨ret_bool HR.out.symm, HBF.out⟩
        · have HR : Hid (R = false) := hid_intro (HB1.out (ok_far (fun h => p2 h.2)))
          have HIs1 : Hid (false = decide (0 ≤ xh ∧ xh ≤ 2016666)) := hid_intro (decide_eq_false (by omega)).symm
          have HIs2 := HIs1
          go_wp2_with fail
          refine wp_region_hw S (by kernel_rfl) (by kernel_rfl) HSD.out ?_
          repeat (go_big_quiet_step ((rename_i s; first | (go_at_call 55; refine (is_lit _ _ _ _ (by first | exact HIs1.out | exact HIs2.out) _).mono ?_; rintro e w1 ⟨rfl, hb1⟩; exact ⟨rfl, ⟨w1, HSB.out s w1 hb1⟩, rfl⟩))))
          refine wpQuiet_nil ?_
          intro _ hw'
          obtain ⟨s, hw''⟩ := hw'
          subst hw''
          have HBF := hid_intro (HSC.out s).1
          go_wp2_with fail
          go_ret
          exact ⟨ret_bool HR.out.symm, HBF.out⟩
        · obtain ⟨K, K1, F1, F2, _, hms⟩ := month_two (60 * xh) (by omega) (by omega)
          have HMO := hid_intro hms
          have HOK := hid_intro (ok_in (mo := mo) (su := su) (x := ⟨xh, xs⟩) p1 p2 (v := (K : Int)) rfl F1 F2)
          generalize hn60 : 60 * xh = n at *
          clear hms F1 F2
          have HIs1 : Hid (true = decide (0 ≤ xh ∧ xh ≤ 2016666)) := hid_intro (decide_eq_true ⟨p1, p2⟩).symm
          by_cases hmo : (K : Int) = mo
          · rw [decide_eq_true hmo, Bool.true_and] at HOK
            have hmo2 : ((K : Int) != mo) = false := by simp [hmo]
            by_cases hin : 0 ≤ xs ∧ xs ≤ su
            · have HM2 := hid_intro (HM.out (by rw [HOK.out, decide_eq_true hin]) (fun h => absurd h (by omega)))
              have HIs2 : Hid (true = decide (0 ≤ xs ∧ xs ≤ su)) := hid_intro (decide_eq_true hin).symm
              obtain ⟨hin1, hin2⟩ := hin
              go_wp2_with fail
              refine wp_region_hw S (by kernel_rfl) (by kernel_rfl) HSD.out ?_
              repeat (go_big_quiet_step ((rename_i s; first | (go_at_call 55; refine (is_lit _ _ _ _ (by first | exact HIs1.out | exact HIs2.out) _).mono ?_; rintro e w1 ⟨rfl, hb1⟩; exact ⟨rfl, ⟨w1, HSB.out s w1 hb1⟩, rfl⟩) | (go_at_call 85; (try rw [hn60]); refine (HMO.out _).mono ?_; rintro e w1 ⟨rfl, hb1⟩; exact ⟨rfl, ⟨w1, HSB.out s w1 hb1⟩, rfl⟩))))
              refine wpQuiet_nil ?_
              intro _ hw'
              obtain ⟨s, hw''⟩ := hw'
              subst hw''
              have HBF := hid_intro (HSC.out s).1
              go_wp2_with fail
              go_roundw
              case rel => exact ⟨0 + 1, by omega, by rw [HST.out], by go_num, HM2, HBF⟩
              case measure => simp [intOf]; omega
            · have HR : Hid (R = false) := hid_intro (HB1.out (by rw [HOK.out, decide_eq_false hin]))
              have HIs2 : Hid (false = decide (0 ≤ xs ∧ xs ≤ su)) := hid_intro (decide_eq_false hin).symm
              go_wp2_with fail
              refine wp_region_hw S (by kernel_rfl) (by kernel_rfl) HSD.out ?_
              repeat (go_big_quiet_step ((rename_i s; first | (go_at_call 55; refine (is_lit _ _ _ _ (by first | exact HIs1.out | exact HIs2.out) _).mono ?_; rintro e w1 ⟨rfl, hb1⟩; exact ⟨rfl, ⟨w1, HSB.out s w1 hb1⟩, rfl⟩) | (go_at_call 85; (try rw [hn60]); refine (HMO.out _).mono ?_; rintro e w1 ⟨rfl, hb1⟩; exact ⟨rfl, ⟨w1, HSB.out s w1 hb1⟩, rfl⟩))))
              refine wpQuiet_nil ?_
              intro _ hw'
              obtain ⟨s, hw''⟩ := hw'
              subst hw''
              have HBF := hid_intro (HSC.out s).1
              go_wp2_with fail
              go_ret
              exact ⟨ret_bool HR.out.symm, HBF.out⟩
          · rw [decide_eq_false hmo, Bool.false_and] at HOK
            have HR : Hid (R = false) := hid_intro (HB1.out HOK.out)
            have hmo2 : ((K : Int) != mo) = true := by simp [hmo]
            have HIs2 := HIs1
            go_wp2_with fail
            refine wp_region_hw S (by kernel_rfl) (by kernel_rfl) HSD.out ?_
            repeat (go_big_quiet_step ((rename_i s; first | (go_at_call 55; refine (is_lit _ _ _ _ (by first | exact HIs1.out | exact HIs2.out) _).mono ?_; rintro e w1 ⟨rfl, hb1⟩; exact ⟨rfl, ⟨w1, HSB.out s w1 hb1⟩, rfl⟩) | (go_at_call 85; (try rw [hn60]); refine (HMO.out _).mono ?_; rintro e w1 ⟨rfl, hb1⟩; exact ⟨rfl, ⟨w1, HSB.out s w1 hb1⟩, rfl⟩))))
            refine wpQuiet_nil ?_
            intro _ hw'
            obtain ⟨s, hw''⟩ := hw'
            subst hw''
            have HBF := hid_intro (HSC.out s).1
            go_wp2_with fail
            go_ret
            exact ⟨ret_bool HR.out.symm, HBF.out⟩
      · obtain ⟨b', off', hbo, hbl', d0, _⟩ := (HI.out.below HB.out).at j (by omega)
        obtain ⟨rfl, rfl⟩ : b = b' ∧ off = off' := by simpa using hbo
        have hj1 : IntKind.i64.wrap ((k : Int) - 1) = (j : Int) := by rw [IntKind.wrap_i64]; omega
        have hj2 : 0 < k := by omega
        have hj3 : (j : Int) < (len : Int) := by omega
        rw [show k - 1 = j by omega] at HB2 HM
        clear hbl' hbo hkj
        generalize hs.getD k H.zero = X at *
        generalize hs.getD j H.zero = Y at *
        obtain ⟨xh, xs⟩ := X
        obtain ⟨yh, ys⟩ := Y
        dsimp only at c0 c1 d0 HST
        have HS0 : Hid (SHt w b (off + k * 2) (off + j * 2) ⟨xh, xs⟩ ⟨yh, ys⟩ wr) := hid_intro ⟨HB.out, hbl, c0, c1, d0⟩
        obtain ⟨S, hS⟩ : ∃ S : World → Prop, ∀ W, S W ↔ SHt w b (off + k * 2) (off + j * 2) ⟨xh, xs⟩ ⟨yh, ys⟩ W := ⟨_, fun _ => Iff.rfl⟩
        have HSC : Hid (∀ s : HW S, SHt w b (off + k * 2) (off + j * 2) ⟨xh, xs⟩ ⟨yh, ys⟩ s.w) := hid_intro (fun s => (hS _).1 s.h)
        have HSB : Hid (∀ (s : HW S) w', Below s.w.heap.size s.w w' → S w') := hid_intro (fun s w' hb => (hS _).2 ((HSC.out s).below hb))
        have HSD : Hid (S wr.drew) := hid_intro ((hS _).2 (HS0.out.below (Below.refl _ _).drew))
        have hne : Nonempty (HW S) := ⟨⟨_, HSD.out⟩⟩
        have f0 : ∀ s : HW S, s.w.cell? ⟨b, off + k * 2, none⟩ = some (.int .i64 xh) := fun s => (HSC.out s).2.2.1
        have f1 : ∀ s : HW S, s.w.cell? ⟨b, off + k * 2 + 1, none⟩ = some (.int .i64 xs) := fun s => (HSC.out s).2.2.2.1
        have f2 : ∀ s : HW S, s.w.cell? ⟨b, off + j * 2, none⟩ = some (.int .i64 yh) := fun s => (HSC.out s).2.2.2.2
        clear hS
        rcases (show (¬ 0 ≤ xh) ∨ (0 ≤ xh ∧ ¬ xh ≤ 2016666) ∨ (0 ≤ xh ∧ xh ≤ 2016666) by omega) with p1 | ⟨p1, p2⟩ | ⟨p1, p2⟩
        · have HR : Hid (R = false) := hid_intro (HB1.out (ok_far (fun h => p1 h.1)))
          have HIs1 : Hid (false = decide (0 ≤ xh ∧ xh ≤ 2016666)) := hid_intro (decide_eq_false (by omega)).symm
          have HIs2 := HIs1
          go_wp2_with fail
          refine wp_region_hw S (by kernel_rfl) (by kernel_rfl) HSD.out ?_
          repeat (go_big_quiet_step ((rename_i s; first | (go_at_call 55; refine (is_lit _ _ _ _ (by first | exact HIs1.out | exact HIs2.out) _).mono ?_; rintro e w1 ⟨rfl, hb1⟩; exact ⟨rfl, ⟨w1, HSB.out s w1 hb1⟩, rfl⟩))))
          refine wpQuiet_nil ?_
          intro _ hw'
          obtain ⟨s, hw''⟩ := hw'
          subst hw''
          have HBF := hid_intro (HSC.out s).1
          go_wp2_with fail
          go_ret
          exact ⟨ret_bool HR.out.symm, HBF.out⟩
        · have HR : Hid (R = false) := hid_intro (HB1.out (ok_far (fun h => p2 h.2)))
          have HIs1 : Hid (false = decide (0 ≤ xh ∧ xh ≤ 2016666)) := hid_intro (decide_eq_false (by omega)).symm
          have HIs2 := HIs1
          go_wp2_with fail
          refine wp_region_hw S (by kernel_rfl) (by kernel_rfl) HSD.out ?_
          repeat (go_big_quiet_step ((rename_i s; first | (go_at_call 55; refine (is_lit _ _ _ _ (by first | exact HIs1.out | exact HIs2.out) _).mono ?_; rintro e w1 ⟨rfl, hb1⟩; exact ⟨rfl, ⟨w1, HSB.out s w1 hb1⟩, rfl⟩))))
          refine wpQuiet_nil ?_
          intro _ hw'
          obtain ⟨s, hw''⟩ := hw'
          subst hw''
          have HBF := hid_intro (HSC.out s).1
          go_wp2_with fail
          go_ret
          exact ⟨ret_bool HR.out.symm, HBF.out⟩
        · obtain ⟨K, K1, F1, F2, _, hms⟩ := month_two (60 * xh) (by omega) (by omega)
          have HMO := hid_intro hms
          have HOK := hid_intro (ok_in (mo := mo) (su := su) (x := ⟨xh, xs⟩) p1 p2 (v := (K : Int)) rfl F1 F2)
          generalize hn60 : 60 * xh = n at *
          clear hms F1 F2
          have HIs1 : Hid (true = decide (0 ≤ xh ∧ xh ≤ 2016666)) := hid_intro (decide_eq_true ⟨p1, p2⟩).symm
          by_cases hmo : (K : Int) = mo
          · rw [decide_eq_true hmo, Bool.true_and] at HOK
            have hmo2 : ((K : Int) != mo) = false := by simp [hmo]
            by_cases hr : yh < xh
            · have hr2 : decide (xh ≤ yh) = false := decide_eq_false (by omega)
              have hr3 : (xh ≤ yh) = False := eq_false (by omega)
              by_cases hin : 0 ≤ xs ∧ xs ≤ su
              · have HM2 := hid_intro (HM.out (by rw [HOK.out, decide_eq_true hin]) (fun _ => by unfold hlt; exact decide_eq_true hr))
                have HIs2 : Hid (true = decide (0 ≤ xs ∧ xs ≤ su)) := hid_intro (decide_eq_true hin).symm
                obtain ⟨hin1, hin2⟩ := hin
                go_wp2_with fail
                refine wp_region_hw S (by kernel_rfl) (by kernel_rfl) HSD.out ?_
                repeat (go_big_quiet_step ((rename_i s; first | (go_at_call 55; refine (is_lit _ _ _ _ (by first | exact HIs1.out | exact HIs2.out) _).mono ?_; rintro e w1 ⟨rfl, hb1⟩; exact ⟨rfl, ⟨w1, HSB.out s w1 hb1⟩, rfl⟩) | (go_at_call 85; (try rw [hn60]); refine (HMO.out _).mono ?_; rintro e w1 ⟨rfl, hb1⟩; exact ⟨rfl, ⟨w1, HSB.out s w1 hb1⟩, rfl⟩))))
                refine wpQuiet_nil ?_
                intro _ hw'
                obtain ⟨s, hw''⟩ := hw'
                subst hw''
                have HBF := hid_intro (HSC.out s).1
                go_wp2_with fail
                go_roundw
                case rel => exact ⟨k + 1, by omega, by rw [HST.out], by go_num, HM2, HBF⟩
                case measure => simp [intOf]; omega
              · have HR : Hid (R = false) := hid_intro (HB1.out (by rw [HOK.out, decide_eq_false hin]))
                have HIs2 : Hid (false = decide (0 ≤ xs ∧ xs ≤ su)) := hid_intro (decide_eq_false hin).symm
                go_wp2_with fail
                refine wp_region_hw S (by kernel_rfl) (by kernel_rfl) HSD.out ?_
                repeat (go_big_quiet_step ((rename_i s; first | (go_at_call 55; refine (is_lit _ _ _ _ (by first | exact HIs1.out | exact HIs2.out) _).mono ?_; rintro e w1 ⟨rfl, hb1⟩; exact ⟨rfl, ⟨w1, HSB.out s w1 hb1⟩, rfl⟩) | (go_at_call 85; (try rw [hn60]); refine (HMO.out _).mono ?_; rintro e w1 ⟨rfl, hb1⟩; exact ⟨rfl, ⟨w1, HSB.out s w1 hb1⟩, rfl⟩))))
                refine wpQuiet_nil ?_
                intro _ hw'
                obtain ⟨s, hw''⟩ := hw'
                subst hw''
                have HBF := hid_intro (HSC.out s).1
                go_wp2_with fail
                go_ret
                exact ⟨ret_bool HR.out.symm, HBF.out⟩
            · have HR : Hid (R = false) := hid_intro (HB2.out hj2 (by unfold hlt; exact decide_eq_false hr))
              have hr2 : xh ≤ yh := by omega
              have HIs2 := HIs1
              go_wp2_with fail
              refine wp_region_hw S (by kernel_rfl) (by kernel_rfl) HSD.out ?_
              repeat (go_big_quiet_step ((rename_i s; first | (go_at_call 55; refine (is_lit _ _ _ _ (by first | exact HIs1.out | exact HIs2.out) _).mono ?_; rintro e w1 ⟨rfl, hb1⟩; exact ⟨rfl, ⟨w1, HSB.out s w1 hb1⟩, rfl⟩) | (go_at_call 85; (try rw [hn60]); refine (HMO.out _).mono ?_; rintro e w1 ⟨rfl, hb1⟩; exact ⟨rfl, ⟨w1, HSB.out s w1 hb1⟩, rfl⟩))))
              refine wpQuiet_nil ?_
              intro _ hw'
              obtain ⟨s, hw''⟩ := hw'
              subst hw''
              have HBF := hid_intro (HSC.out s).1
              go_wp2_with fail
              go_ret
              exact ⟨ret_bool HR.out.symm, HBF.out⟩
          · rw [decide_eq_false hmo, Bool.false_and] at HOK
            have HR : Hid (R = false) := hid_intro (HB1.out HOK.out)
            have hmo2 : ((K : Int) != mo) = true := by simp [hmo]
            have HIs2 := HIs1
            go_wp2_with fail
            refine wp_region_hw S (by kernel_rfl) (by kernel_rfl) HSD.out ?_
            repeat (go_big_quiet_step ((rename_i s; first | (go_at_call 55; refine (is_lit _ _ _ _ (by first | exact HIs1.out | exact HIs2.out) _).mono ?_; rintro e w1 ⟨rfl, hb1⟩; exact ⟨rfl, ⟨w1, HSB.out s w1 hb1⟩, rfl⟩) | (go_at_call 85; (try rw [hn60]); refine (HMO.out _).mono ?_; rintro e w1 ⟨rfl, hb1⟩; exact ⟨rfl, ⟨w1, HSB.out s w1 hb1⟩, rfl⟩))))
            refine wpQuiet_nil ?_
            intro _ hw'
            obtain ⟨s, hw''⟩ := hw'
            subst hw''
            have HBF := hid_intro (HSC.out s).1
            go_wp2_with fail
            go_ret
            exact ⟨ret_bool HR.out.symm, HBF.out⟩
    · have hlt2 : ¬ (k : Int) < (len : Int) := by omega
      obtain rfl : k = len := by omega
      have HR : Hid (R = decide (hsum (hs.take k) = su)) := hid_intro (by rw [HDO.out (by rw [← HL.out]; exact HK.out), List.take_of_length_le (by have := HL.out; omega)])
      generalize hsum (hs.take k) = T at *
      by_cases hz : T = su
      · rw [decide_eq_true hz] at HR
        go_wp2_with fail
        go_ret
        exact ⟨ret_bool (by rw [HR.out]; try simp [hz]), HB.out⟩
      · rw [decide_eq_false hz] at HR
        go_wp2_with fail
        go_ret
        exact ⟨ret_bool (by rw [HR.out]; try simp [hz]), HB.out⟩
end WinR
end Go.Proofs.YtmeemmbpkjfleaaDoor
namespace Go.Proofs.YtmeemmbpkjfleaaDoor
open Go.ChangeShapes Go.WideShapes Go.ChangeAt Go.RowKit
set_option linter.unusedVariables false
namespace WinR
open RowG LtR
open CatR (Blk Blk.new)
theorem six (b1 b2 b3 b4 b5 b6 : Bool) : (b1 = false) ∨ (b1 = true ∧ b2 = false) ∨ (b1 = true ∧ b2 = true ∧ b3 = false) ∨ (b1 = true ∧ b2 = true ∧ b3 = true ∧ b4 = false) ∨ (b1 = true ∧ b2 = true ∧ b3 = true ∧ b4 = true ∧ b5 = false) ∨ (b1 = true ∧ b2 = true ∧ b3 = true ∧ b4 = true ∧ b5 = true ∧ b6 = false) ∨ (b1 = true ∧ b2 = true ∧ b3 = true ∧ b4 = true ∧ b5 = true ∧ b6 = true) := by
  cases b1 <;> cases b2 <;> cases b3 <;> cases b4 <;> cases b5 <;> cases b6 <;> simp
theorem sisMonth_any (n : Int) (w : World) : Calls Tryd.prog 54 #[.int .i64 n] w fun e w' => e = .returned (.bool (decide (0 ≤ n ∧ n ≤ 2760))) ∧ w' = w := by
  have H := EvtR.is_any n 0 2760
  generalize decide (0 ≤ n ∧ n ≤ 2760) = b at *
  go_enter Tryd.func54, Tryd.ntmps54
  go_wp2_with (go_at_call 55; refine (H _).mono ?_; rintro e w' ⟨rfl, rfl⟩)
  go_ret
  exact ⟨rfl, rfl⟩
set_option maxRecDepth 100000 in
set_option maxHeartbeats 8000000 in
theorem sright_in (a m : ByteArray) (mo ev su mx : Int) (ta : Option Addr) (tl tc : Nat) (ha : Option Addr) (hl hc : Nat) (b1 b2 b3 b4 b5 b6 b7 b8 : Bool) (w : World)
    (h1 : ∀ W, Calls Tryd.prog 53 #[.string a] W fun e w' => e = .returned (.bool b1) ∧ w' = W) (h2 : ∀ W, Calls Tryd.prog 53 #[.string m] W fun e w' => e = .returned (.bool b2) ∧ w' = W) (h3 : ∀ W, Calls Tryd.prog 54 #[.int .i64 mo] W fun e w' => e = .returned (.bool b3) ∧ w' = W) (h4 : ∀ W, Calls Tryd.prog 55 #[.int .i64 ev, .int .i64 1, .int .i64 1000] W fun e w' => e = .returned (.bool b4) ∧ w' = W) (h5 : ∀ W, Calls Tryd.prog 55 #[.int .i64 su, .int .i64 0, .int .i64 1000000000000] W fun e w' => e = .returned (.bool b5) ∧ w' = W) (h6 : ∀ W, Calls Tryd.prog 55 #[.int .i64 mx, .int .i64 0, .int .i64 su] W fun e w' => e = .returned (.bool b6) ∧ w' = W)
    (h7 : ∀ W, Below w.heap.size w W → Calls Tryd.prog 56 #[.slice ta tl tc] W fun e w' => e = .returned (.bool b7) ∧ Below W.heap.size W w')
    (h8 : b5 = true → hl ≤ 12 → ∀ W, Below w.heap.size w W → Calls Tryd.prog 57 #[.slice ha hl hc, .int .i64 mo, .int .i64 su] W fun e w' => e = .returned (.bool b8) ∧ Below W.heap.size W w') :
    Calls Tryd.prog 26 #[.agg #[.string a, .string m, .int .i64 mo, .int .i64 ev, .int .i64 su, .int .i64 mx, .slice ta tl tc, .slice ha hl hc]] w fun e w' => e = .returned (.bool ((b1 && (b2 && b3)) && ((b4 && (b5 && b6)) && (b7 && (decide (1 ≤ hl ∧ hl ≤ 12) && b8))))) ∧ Below w.heap.size w w' := by
  have H1 := hid_intro h1
  have H2 := hid_intro h2
  have H3 := hid_intro h3
  have H4 := hid_intro h4
  have H5 := hid_intro h5
  have H6 := hid_intro h6
  have H7 := hid_intro h7
  have H8 := hid_intro h8
  clear h1 h2 h3 h4 h5 h6 h7 h8
  have HB0 : Hid (Below w.heap.size w (w.alloc (.cells #[.string a, .string m, .int .i64 mo, .int .i64 ev, .int .i64 su, .int .i64 mx, .slice ta tl tc, .slice ha hl hc] 29))) := hid_intro ((Below.refl _ _).alloc (Nat.le_refl _) _)
  have HX0 := hid_intro (Blk.new w [.string a, .string m, .int .i64 mo, .int .i64 ev, .int .i64 su, .int .i64 mx, .slice ta tl tc, .slice ha hl hc] 29)
  rcases six b1 b2 b3 b4 b5 b6 with rfl | ⟨rfl, rfl⟩ | ⟨rfl, rfl, rfl⟩ | ⟨rfl, rfl, rfl, rfl⟩ | ⟨rfl, rfl, rfl, rfl, rfl⟩ | ⟨rfl, rfl, rfl, rfl, rfl, rfl⟩ | ⟨rfl, rfl, rfl, rfl, rfl, rfl⟩
  · go_enter Tryd.func26, Tryd.ntmps26
    go_wp2_with fail
    refine (H1.out _).mono ?_
    rintro e w1 ⟨rfl, rfl⟩
    go_wp2_with fail
    go_ret
    exact ⟨ret_bool (by simp), HB0.out⟩
  · go_enter Tryd.func26, Tryd.ntmps26
    go_wp2_with fail
    refine (H1.out _).mono ?_
    rintro e w1 ⟨rfl, rfl⟩
    go_wp2_with fail
    refine (H2.out _).mono ?_
    rintro e w1 ⟨rfl, rfl⟩
    go_wp2_with fail
    go_ret
    exact ⟨ret_bool (by simp), HB0.out⟩
  · go_enter Tryd.func26, Tryd.ntmps26
    go_wp2_with fail
    refine (H1.out _).mono ?_
    rintro e w1 ⟨rfl, rfl⟩
    go_wp2_with fail
    refine (H2.out _).mono ?_
    rintro e w1 ⟨rfl, rfl⟩
    go_wp2_with fail
    refine (H3.out _).mono ?_
    rintro e w1 ⟨rfl, rfl⟩
    go_wp2_with fail
    go_ret
    exact ⟨ret_bool (by simp), HB0.out⟩
  · go_enter Tryd.func26, Tryd.ntmps26
    go_wp2_with fail
    refine (H1.out _).mono ?_
    rintro e w1 ⟨rfl, rfl⟩
    go_wp2_with fail
    refine (H2.out _).mono ?_
    rintro e w1 ⟨rfl, rfl⟩
    go_wp2_with fail
    refine (H3.out _).mono ?_
    rintro e w1 ⟨rfl, rfl⟩
    go_wp2_with fail
    refine (H4.out _).mono ?_
    rintro e w1 ⟨rfl, rfl⟩
    go_wp2_with fail
    go_ret
    exact ⟨ret_bool (by simp), HB0.out⟩
  · go_enter Tryd.func26, Tryd.ntmps26
    go_wp2_with fail
    refine (H1.out _).mono ?_
    rintro e w1 ⟨rfl, rfl⟩
    go_wp2_with fail
    refine (H2.out _).mono ?_
    rintro e w1 ⟨rfl, rfl⟩
    go_wp2_with fail
    refine (H3.out _).mono ?_
    rintro e w1 ⟨rfl, rfl⟩
    go_wp2_with fail
    refine (H4.out _).mono ?_
    rintro e w1 ⟨rfl, rfl⟩
    go_wp2_with fail
    refine (H5.out _).mono ?_
    rintro e w1 ⟨rfl, rfl⟩
    go_wp2_with fail
    go_ret
    exact ⟨ret_bool (by simp), HB0.out⟩
  · go_enter Tryd.func26, Tryd.ntmps26
    go_wp2_with fail
    refine (H1.out _).mono ?_
    rintro e w1 ⟨rfl, rfl⟩
    go_wp2_with fail
    refine (H2.out _).mono ?_
    rintro e w1 ⟨rfl, rfl⟩
    go_wp2_with fail
    refine (H3.out _).mono ?_
    rintro e w1 ⟨rfl, rfl⟩
    go_wp2_with fail
    refine (H4.out _).mono ?_
    rintro e w1 ⟨rfl, rfl⟩
    go_wp2_with fail
    refine (H5.out _).mono ?_
    rintro e w1 ⟨rfl, rfl⟩
    go_wp2_with fail
    refine (H6.out _).mono ?_
    rintro e w1 ⟨rfl, rfl⟩
    go_wp2_with fail
    go_ret
    exact ⟨ret_bool (by simp), HB0.out⟩
  · cases b7
    · go_enter Tryd.func26, Tryd.ntmps26
      go_wp2_with fail
      refine (H1.out _).mono ?_
      rintro e w1 ⟨rfl, rfl⟩
      go_wp2_with fail
      refine (H2.out _).mono ?_
      rintro e w1 ⟨rfl, rfl⟩
      go_wp2_with fail
      refine (H3.out _).mono ?_
      rintro e w1 ⟨rfl, rfl⟩
      go_wp2_with fail
      refine (H4.out _).mono ?_
      rintro e w1 ⟨rfl, rfl⟩
      go_wp2_with fail
      refine (H5.out _).mono ?_
      rintro e w1 ⟨rfl, rfl⟩
      go_wp2_with fail
      refine (H6.out _).mono ?_
      rintro e w1 ⟨rfl, rfl⟩
      go_wp2_with fail
      refine (H7.out _ HB0.out).mono ?_
      rintro e w2 ⟨rfl, hb2⟩
      have HB2 := hid_intro (HB0.out.trans (hb2.mono HB0.out.size))
      clear hb2 HX0
      go_wp2_with fail
      go_ret
      exact ⟨ret_bool (by simp), HB2.out⟩
    · rcases (show (¬ 1 ≤ hl) ∨ (1 ≤ hl ∧ ¬ hl ≤ 12) ∨ (1 ≤ hl ∧ hl ≤ 12) by omega) with q | ⟨q, q2⟩ | ⟨q, q2⟩
      · have q' : ¬ (1 : Int) ≤ (hl : Int) := by omega
        rw [decide_eq_false (show ¬ (1 ≤ hl ∧ hl ≤ 12) by omega)]
        go_enter Tryd.func26, Tryd.ntmps26
        go_wp2_with fail
        refine (H1.out _).mono ?_
        rintro e w1 ⟨rfl, rfl⟩
        go_wp2_with fail
        refine (H2.out _).mono ?_
        rintro e w1 ⟨rfl, rfl⟩
        go_wp2_with fail
        refine (H3.out _).mono ?_
        rintro e w1 ⟨rfl, rfl⟩
        go_wp2_with fail
        refine (H4.out _).mono ?_
        rintro e w1 ⟨rfl, rfl⟩
        go_wp2_with fail
        refine (H5.out _).mono ?_
        rintro e w1 ⟨rfl, rfl⟩
        go_wp2_with fail
        refine (H6.out _).mono ?_
        rintro e w1 ⟨rfl, rfl⟩
        go_wp2_with fail
        refine (H7.out _ HB0.out).mono ?_
        rintro e w2 ⟨rfl, hb2⟩
        have HB2 := hid_intro (HB0.out.trans (hb2.mono HB0.out.size))
        have HX2 := hid_intro (HX0.out.below hb2)
        clear hb2 HX0
        obtain ⟨xl, xc⟩ := HX2.out
        have y2 : w2.cell? ⟨w.heap.size, 2, none⟩ = some (.int .i64 mo) := xc 2 (by simp)
        have y4 : w2.cell? ⟨w.heap.size, 4, none⟩ = some (.int .i64 su) := xc 4 (by simp)
        have y7 : w2.cell? ⟨w.heap.size, 7, none⟩ = some (.slice ha hl hc) := xc 7 (by simp)
        clear xc
        go_wp2_with fail
        go_ret
        exact ⟨ret_bool (by simp), HB2.out⟩
      · have q' : (1 : Int) ≤ (hl : Int) := by omega
        have q2' : ¬ (hl : Int) ≤ 12 := by omega
        rw [decide_eq_false (show ¬ (1 ≤ hl ∧ hl ≤ 12) by omega)]
        go_enter Tryd.func26, Tryd.ntmps26
        go_wp2_with fail
        refine (H1.out _).mono ?_
        rintro e w1 ⟨rfl, rfl⟩
        go_wp2_with fail
        refine (H2.out _).mono ?_
        rintro e w1 ⟨rfl, rfl⟩
        go_wp2_with fail
        refine (H3.out _).mono ?_
        rintro e w1 ⟨rfl, rfl⟩
        go_wp2_with fail
        refine (H4.out _).mono ?_
        rintro e w1 ⟨rfl, rfl⟩
        go_wp2_with fail
        refine (H5.out _).mono ?_
        rintro e w1 ⟨rfl, rfl⟩
        go_wp2_with fail
        refine (H6.out _).mono ?_
        rintro e w1 ⟨rfl, rfl⟩
        go_wp2_with fail
        refine (H7.out _ HB0.out).mono ?_
        rintro e w2 ⟨rfl, hb2⟩
        have HB2 := hid_intro (HB0.out.trans (hb2.mono HB0.out.size))
        have HX2 := hid_intro (HX0.out.below hb2)
        clear hb2 HX0
        obtain ⟨xl, xc⟩ := HX2.out
        have y2 : w2.cell? ⟨w.heap.size, 2, none⟩ = some (.int .i64 mo) := xc 2 (by simp)
        have y4 : w2.cell? ⟨w.heap.size, 4, none⟩ = some (.int .i64 su) := xc 4 (by simp)
        have y7 : w2.cell? ⟨w.heap.size, 7, none⟩ = some (.slice ha hl hc) := xc 7 (by simp)
        clear xc
        go_wp2_with fail
        go_ret
        exact ⟨ret_bool (by simp), HB2.out⟩
      · have q' : (1 : Int) ≤ (hl : Int) := by omega
        have q2' : (hl : Int) ≤ 12 := by omega
        rw [decide_eq_true (show 1 ≤ hl ∧ hl ≤ 12 by omega)]
        have H9 := hid_intro (H8.out rfl q2)
        go_enter Tryd.func26, Tryd.ntmps26
        go_wp2_with fail
        refine (H1.out _).mono ?_
        rintro e w1 ⟨rfl, rfl⟩
        go_wp2_with fail
        refine (H2.out _).mono ?_
        rintro e w1 ⟨rfl, rfl⟩
        go_wp2_with fail
        refine (H3.out _).mono ?_
        rintro e w1 ⟨rfl, rfl⟩
        go_wp2_with fail
        refine (H4.out _).mono ?_
        rintro e w1 ⟨rfl, rfl⟩
        go_wp2_with fail
        refine (H5.out _).mono ?_
        rintro e w1 ⟨rfl, rfl⟩
        go_wp2_with fail
        refine (H6.out _).mono ?_
        rintro e w1 ⟨rfl, rfl⟩
        go_wp2_with fail
        refine (H7.out _ HB0.out).mono ?_
        rintro e w2 ⟨rfl, hb2⟩
        have HB2 := hid_intro (HB0.out.trans (hb2.mono HB0.out.size))
        have HX2 := hid_intro (HX0.out.below hb2)
        clear hb2 HX0
        obtain ⟨xl, xc⟩ := HX2.out
        have y2 : w2.cell? ⟨w.heap.size, 2, none⟩ = some (.int .i64 mo) := xc 2 (by simp)
        have y4 : w2.cell? ⟨w.heap.size, 4, none⟩ = some (.int .i64 su) := xc 4 (by simp)
        have y7 : w2.cell? ⟨w.heap.size, 7, none⟩ = some (.slice ha hl hc) := xc 7 (by simp)
        clear xc
        go_wp2_with fail
        refine (H9.out _ HB2.out).mono ?_
        rintro e w3 ⟨rfl, hb3⟩
        have HB3 := hid_intro (HB2.out.trans (hb3.mono HB2.out.size))
        clear hb3
        go_wp2_with fail
        go_ret
        exact ⟨ret_bool (by simp), HB3.out⟩
theorem spec_window_right (x : Wd) (ta : Option Addr) (tc : Nat) (ha : Option Addr) (hc : Nat) (w : World) (h1 : x.a.size ≤ 1048576) (h2 : x.m.size ≤ 1048576) (h3 : x.ts.length ≤ 1048576) (h4 : ∀ t ∈ x.ts, t.size ≤ 1048576) (hT : Tgs ta x.ts w) (hH : Hrs ha x.hs w) :
    Calls Tryd.prog 26 #[.agg (wcells x ta tc ha hc)] w fun e w' => e = .returned (.bool (wB x)) ∧ Below w.heap.size w w' :=
  sright_in x.a x.m x.mo x.ev x.su x.mx ta x.ts.length tc ha x.hs.length hc _ _ _ _ _ _ _ _ w (fun W => NameR.spec_any x.a W h1) (fun W => NameR.spec_any x.m W h2) (fun W => sisMonth_any x.mo W) (fun W => EvtR.is_any x.ev 1 1000 W) (fun W => EvtR.is_any x.su 0 1000000000000 W) (fun W => EvtR.is_any x.mx 0 x.su W) (fun W hW => spec_tags ta tc x.ts W h3 h4 (hT.below hW)) (fun hs hl W hW => spec_hours ha hc x.hs x.mo x.su W hl (of_decide_eq_true hs) (hH.below hW))
end WinR
end Go.Proofs.YtmeemmbpkjfleaaDoor
namespace Go.Proofs.YtmeemmbpkjfleaaDoor
namespace WinR
def wz : Wd := ⟨⟨#[]⟩, ⟨#[]⟩, 0, 0, 0, 0, [], []⟩
end WinR
end Go.Proofs.YtmeemmbpkjfleaaDoor
namespace Go.Proofs.YtmeemmbpkjfleaaDoor
open Go.ChangeShapes Go.WideShapes Go.ChangeAt Go.RowKit
set_option linter.unusedVariables false
namespace WinR
open RowG (MadeG Rws)
open LtR (lt)
open DateR (Laid)
open CatR (Blk Blk.new)
section
variable {α : Type} (r : α → α → Bool) (f : α → α → α)
theorem mrg_le (a b : List α) : (mrg r f a b).length ≤ a.length + b.length := by
  fun_induction mrg r f a b <;> simp_all <;> omega
theorem mrg_all (p : α → Prop) (hf : ∀ x y, p x → p y → p (f x y)) (a b : List α) (ha : ∀ z ∈ a, p z) (hb : ∀ z ∈ b, p z) : ∀ z ∈ mrg r f a b, p z := by
  fun_induction mrg r f a b <;> simp_all
theorem rs_of (z : α) : ∀ xs : List α, RiseTo r z xs xs.length → Rs r xs
  | [], _ => trivial
  | [_], _ => trivial
  | x :: y :: l, h => ⟨by simpa using h 1 (by simp) (by omega), rs_of z (y :: l) (fun i hi h0 => by
      obtain ⟨k, rfl⟩ : ∃ k, i = k + 1 := ⟨i - 1, by omega⟩
      have := h (k + 1 + 1) (by simpa using hi) (by omega)
      simpa using this)⟩
end
theorem lt_te (x y z : ByteArray) (h1 : lt x y = false) (h2 : lt y x = false) (h3 : lt y z = true) : lt (fstT x y) z = true := by
  have := LtR.lt_total h1 h2
  subst this
  exact h3
theorem hlt_tr (x y z : H) (h1 : hlt x y = true) (h2 : hlt y z = true) : hlt x z = true := by
  unfold hlt at *
  simp only [decide_eq_true_eq] at *
  omega
theorem hlt_te (x y z : H) (h1 : hlt x y = false) (h2 : hlt y x = false) (h3 : hlt y z = true) : hlt (addH x y) z = true := by
  unfold hlt addH at *
  simp only [decide_eq_true_eq, decide_eq_false_iff_not] at *
  omega
/-- The window that joining two makes. -/
def jw (x y : Wd) : Wd := ⟨x.a, x.m, x.mo, x.ev + y.ev, x.su + y.su, max x.mx y.mx, mrg lt fstT x.ts y.ts, mrg hlt addH x.hs y.hs⟩
def sameW (x y : Wd) : Prop := x.a = y.a ∧ x.m = y.m ∧ x.mo = y.mo
structure Fit (x : Wd) : Prop where
  ev : 0 ≤ x.ev ∧ x.ev ≤ 1000
  su : 0 ≤ x.su ∧ x.su ≤ 1000000000000
  tt : x.ts.length ≤ 12
  rt : Rs LtR.lt x.ts
  l1 : 1 ≤ x.hs.length
  lh : x.hs.length ≤ 12
  rh : Rs hlt x.hs
  hs : ∀ z ∈ x.hs, 0 ≤ z.s ∧ z.s ≤ 1000000000000
theorem fit {x : Wd} (h : wB x = true) : Fit x := by
  unfold wB at h
  simp only [Bool.and_eq_true] at h
  obtain ⟨_, hc, ht, hh⟩ := h
  obtain ⟨h1, h2, _⟩ := counted_su hc
  unfold tagsB at ht
  unfold timedB hoursB at hh
  simp only [Bool.and_eq_true, decide_eq_true_eq] at ht hh
  refine ⟨by omega, h2, ht.1, rs_of _ tz _ (rise_iff.1 ht.2.1), hh.1.1, hh.1.2, rs_of _ H.zero _ (rise_iff.1 hh.2.1), fun z hz => ?_⟩
  have := List.all_eq_true.1 hh.2.2.1 z hz
  unfold hOk at this
  simp only [Bool.and_eq_true, decide_eq_true_eq] at this
  omega
theorem lt2_is {x y : Wd} (h : Rs lt y.ts) : lt2 x.ts y.ts y.ts.length = (jw x y).ts := by
  unfold lt2 jw
  rw [List.take_length]
  exact (mrg_fold lt fstT (fun a b c h1 h2 => LtR.lt_trans h1 h2) lt_te _ _ h).symm
theorem lh2_is {x y : Wd} (h : Rs hlt y.hs) : lh2 x.hs y.hs y.hs.length = (jw x y).hs := by
  unfold lh2 jw
  rw [List.take_length]
  exact (mrg_fold hlt addH hlt_tr hlt_te _ _ h).symm
/-- Both together are small. -/
structure Two (x y : Wd) : Prop where
  sx : x.Small
  sy : y.Small
  tt : x.ts.length + y.ts.length ≤ 1048576
  lh : x.hs.length + y.hs.length ≤ 1048576
theorem Two.jlt {x y : Wd} (h : Two x y) : (jw x y).ts.length ≤ 1048576 := by
  have := mrg_le lt fstT x.ts y.ts
  have := h.tt
  show (mrg lt fstT x.ts y.ts).length ≤ _
  omega
theorem Two.jlh {x y : Wd} (h : Two x y) : (jw x y).hs.length ≤ 1048576 := by
  have := mrg_le hlt addH x.hs y.hs
  have := h.lh
  show (mrg hlt addH x.hs y.hs).length ≤ _
  omega
theorem Two.jts {x y : Wd} (h : Two x y) : ∀ t ∈ (jw x y).ts, t.size ≤ 1048576 :=
  mrg_all lt fstT (fun t => t.size ≤ 1048576) (fun x y h1 _ => h1) x.ts y.ts h.sx.2.2.2.1 h.sy.2.2.2.1
/-- The program's WindowJoin. -/
theorem impl_join (x y : Wd) (ta1 : Option Addr) (tc1 : Nat) (ha1 : Option Addr) (hc1 : Nat) (ta2 : Option Addr) (tc2 : Nat) (ha2 : Option Addr) (hc2 : Nat) (w : World) (h2 : Two x y) (hL : Laid w)
    (sT1 : SlOk ta1 x.ts.length tc1) (sH1 : SlOk ha1 x.hs.length hc1) (sT2 : SlOk ta2 y.ts.length tc2) (sH2 : SlOk ha2 y.hs.length hc2) (hT1 : Tgs ta1 x.ts w) (hH1 : Hrs ha1 x.hs w) (hT2 : Tgs ta2 y.ts w) (hH2 : Hrs ha2 y.hs w) :
    Calls Tryd.prog 10 #[.agg (wcells x ta1 tc1 ha1 hc1), .agg (wcells y ta2 tc2 ha2 hc2)] w fun e w' => JPost (wB x) (wB y) (wB (jw x y)) (sameW x y) (jw x y) w.heap.size e w' ∧ Below w.heap.size w w' := by
  refine join_in x.a x.m x.mo x.ev x.su x.mx ta1 x.ts.length tc1 ha1 x.hs.length hc1 y.a y.m y.mo y.ev y.su y.mx ta2 y.ts.length tc2 ha2 y.hs.length hc2 (jw x y).ts (jw x y).hs (x.ev + y.ev) (x.su + y.su) (max x.mx y.mx) (wB x) (wB y) (wB (jw x y)) (jw x y) w hL
    (fun W hW => impl_right x.a x.m x.mo x.ev x.su x.mx x.ts x.hs ta1 tc1 ha1 hc1 W h2.sx.1 h2.sx.2.1 h2.sx.2.2.1 h2.sx.2.2.2.1 h2.sx.2.2.2.2 (hL.below hW) (hT1.below hW) (hH1.below hW))
    (fun W hW => impl_right y.a y.m y.mo y.ev y.su y.mx y.ts y.hs ta2 tc2 ha2 hc2 W h2.sy.1 h2.sy.2.1 h2.sy.2.2.1 h2.sy.2.2.2.1 h2.sy.2.2.2.2 (hL.below hW) (hT2.below hW) (hH2.below hW)) ?_
    (fun ao cc ho hcc W hW hT hH => impl_right x.a x.m x.mo _ _ _ (jw x y).ts (jw x y).hs ao cc ho hcc W h2.sx.1 h2.sx.2.1 h2.jlt h2.jts h2.jlh hW hT hH)
    (fun h ao cc ho hcc W hT hH => impl_win (jw x y) ao cc ho hcc W h2.sx.1 h2.sx.2.1 h2.jlt h2.jts h2.jlh (fit h).l1 hT hH)
  intro hx hy W hW
  have fx := fit hx
  have fy := fit hy
  exact with_in x.a x.m x.mo x.ev x.su x.mx ta1 x.ts.length tc1 ha1 x.hs.length hc1 y.a y.m y.mo y.ev y.su y.mx ta2 y.ts.length tc2 ha2 y.hs.length hc2 x.ts y.ts x.hs y.hs W rfl rfl rfl rfl
    (by have := fx.ev; omega) (by have := fy.ev; omega) (by have := fx.su; omega) (by have := fy.su; omega)
    (fun V hV => with_tags x.ts y.ts ta1 ta2 tc1 tc2 V (by have := fx.tt; have := fy.tt; omega) sT1 sT2 ((hT1.below hW).below hV) ((hT2.below hW).below hV))
    (fun V hV => with_hours x.hs y.hs ha1 ha2 hc1 hc2 V (by have := fx.lh; have := fy.lh; omega) (fun z hz => by have := fx.hs z hz; omega) (fun z hz => by have := fy.hs z hz; omega) sH1 sH2 ((hH1.below hW).below hV) ((hH2.below hW).below hV))
/-- The model's join of two windows that are right. -/
theorem spec_l07join (x y : Wd) (tb tf tc1 hb hf hc1 : Nat) (ta2 : Option Addr) (tc2 : Nat) (ha2 : Option Addr) (hc2 : Nat) (w : World) (h2 : Two x y) (hx : wB x = true) (hy : wB y = true) (hT1 : Tgs (some ⟨tb, tf, none⟩) x.ts w) (hH1 : Hrs (some ⟨hb, hf, none⟩) x.hs w) (hT2 : Tgs ta2 y.ts w) (hH2 : Hrs ha2 y.hs w) :
    Calls Tryd.prog 32 #[.agg (wcells x (some ⟨tb, tf, none⟩) tc1 (some ⟨hb, hf, none⟩) hc1), .agg (wcells y ta2 tc2 ha2 hc2)] w fun e w' => SPost w.heap.size (sameW x y) (wB (jw x y)) x.a x.m x.mo (x.ev + y.ev) (x.su + y.su) (max x.mx y.mx) (jw x y).ts (jw x y).hs e w' ∧ Below w.heap.size w w' := by
  have fx := fit hx
  have fy := fit hy
  have e1 : IntKind.i64.wrap (x.ev + y.ev) = x.ev + y.ev := IntWalk.i64_in _ ⟨by have := fx.ev; have := fy.ev; omega, by have := fx.ev; have := fy.ev; omega⟩
  have e2 : IntKind.i64.wrap (x.su + y.su) = x.su + y.su := IntWalk.i64_in _ ⟨by have := fx.su; have := fy.su; omega, by have := fx.su; have := fy.su; omega⟩
  have f1 : wrap64 (x.ev + y.ev) = x.ev + y.ev := by first | exact wrap64_in (by have := fx.ev; have := fy.ev; omega) (by have := fx.ev; have := fy.ev; omega) | (unfold wrap64; have := fx.ev; have := fy.ev; omega)
  have f2 : wrap64 (x.su + y.su) = x.su + y.su := by first | exact wrap64_in (by have := fx.su; have := fy.su; omega) (by have := fx.su; have := fy.su; omega) | (unfold wrap64; have := fx.su; have := fy.su; omega)
  have eT := lt2_is (x := x) fy.rt
  have eH := lh2_is (x := x) fy.rh
  have h := sjoin_in (x.ev + y.ev) (x.su + y.su) (max x.mx y.mx) x.a x.m x.mo x.ev x.su x.mx tb tf x.ts.length tc1 hb hf x.hs.length hc1 y.a y.m y.mo y.ev y.su y.mx ta2 y.ts.length tc2 ha2 y.hs.length hc2 x.ts y.ts x.hs y.hs w rfl rfl rfl rfl
    (by have := fx.tt; omega) (by have := fx.lh; omega) f1 e1 f2 e2 rfl hT1 hH1 hT2 hH2 (by have := fx.tt; have := fy.tt; omega) (by have := fx.lh; have := fy.lh; omega) fx.hs fy.hs fy.lh fx.l1 (wB (jw x y))
    (fun _ ta tc ha hc W hT hH => by
      rw [eT] at hT ⊢
      rw [eH] at hH ⊢
      exact spec_window_right (jw x y) ta tc ha hc W h2.sx.1 h2.sx.2.1 h2.jlt h2.jts hT hH)
  rw [eT, eH] at h
  exact h
end WinR
end Go.Proofs.YtmeemmbpkjfleaaDoor
namespace Go.Proofs.YtmeemmbpkjfleaaDoor
open Go.ChangeShapes Go.WideShapes Go.ChangeAt Go.RowKit
set_option linter.unusedVariables false
namespace WinR
open RowG (MadeG Rws)
open EvtR (Pt)
open LtR (lt)
open CatR (Blk Blk.new)
set_option maxRecDepth 100000 in
set_option maxHeartbeats 16000000 in
theorem swj_in (P : Value → Nat → World → Prop) (r1 r2 : Bool) (a1 m1 : ByteArray) (mo1 ev1 su1 mx1 : Int) (ta1 : Option Addr) (tl1 tc1 : Nat) (ha1 : Option Addr) (hl1 hc1 : Nat) (a2 m2 : ByteArray) (mo2 ev2 su2 mx2 : Int) (ta2 : Option Addr) (tl2 tc2 : Nat) (ha2 : Option Addr) (hl2 hc2 : Nat) (w : World)
    (hK : ∀ v base W W' g, P v base W → W.grownBy W' (some g) → g < base → P v base W')
    (hr1 : ∀ W, Below w.heap.size w W → Calls Tryd.prog 26 #[.agg #[.string a1, .string m1, .int .i64 mo1, .int .i64 ev1, .int .i64 su1, .int .i64 mx1, .slice ta1 tl1 tc1, .slice ha1 hl1 hc1]] W fun e w' => e = .returned (.bool r1) ∧ Below W.heap.size W w')
    (hr2 : ∀ W, Below w.heap.size w W → Calls Tryd.prog 26 #[.agg #[.string a2, .string m2, .int .i64 mo2, .int .i64 ev2, .int .i64 su2, .int .i64 mx2, .slice ta2 tl2 tc2, .slice ha2 hl2 hc2]] W fun e w' => e = .returned (.bool r2) ∧ Below W.heap.size W w')
    (hj : r1 = true → r2 = true → ∀ W, Below w.heap.size w W → Calls Tryd.prog 32 #[.agg #[.string a1, .string m1, .int .i64 mo1, .int .i64 ev1, .int .i64 su1, .int .i64 mx1, .slice ta1 tl1 tc1, .slice ha1 hl1 hc1], .agg #[.string a2, .string m2, .int .i64 mo2, .int .i64 ev2, .int .i64 su2, .int .i64 mx2, .slice ta2 tl2 tc2, .slice ha2 hl2 hc2]] W fun e w' => ∃ A M mo ev su mx ta tl tc ha hl hc cd, e = .returned (.agg #[.string A, .string M, .int .i64 mo, .int .i64 ev, .int .i64 su, .int .i64 mx, .slice ta tl tc, .slice ha hl hc, .int .i64 cd]) ∧ P (.agg #[.string A, .string M, .int .i64 mo, .int .i64 ev, .int .i64 su, .int .i64 mx, .slice ta tl tc, .slice ha hl hc, .int .i64 cd]) W.heap.size w' ∧ Below W.heap.size W w') :
    Calls Tryd.prog 8 #[.agg #[.string a1, .string m1, .int .i64 mo1, .int .i64 ev1, .int .i64 su1, .int .i64 mx1, .slice ta1 tl1 tc1, .slice ha1 hl1 hc1], .agg #[.string a2, .string m2, .int .i64 mo2, .int .i64 ev2, .int .i64 su2, .int .i64 mx2, .slice ta2 tl2 tc2, .slice ha2 hl2 hc2]] w fun e w' => ∃ v, e = .returned v ∧ (((r1 && r2) = false ∧ v = .agg #[.string ⟨#[]⟩, .string ⟨#[]⟩, .int .i64 0, .int .i64 0, .int .i64 0, .int .i64 0, .slice none 0 0, .slice none 0 0, .int .i64 1]) ∨ ((r1 && r2) = true ∧ ∃ base, w.heap.size ≤ base ∧ P v base w')) ∧ Below w.heap.size w w' := by
  have HK := hid_intro hK
  have HR1 := hid_intro hr1
  have HR2 := hid_intro hr2
  have HJ := hid_intro hj
  have HIL := hid_intro sill
  clear hK hr1 hr2 hj
  obtain ⟨W0, hW0⟩ : ∃ W0, W0 = (((w.alloc (.cells #[.string a1, .string m1, .int .i64 mo1, .int .i64 ev1, .int .i64 su1, .int .i64 mx1, .slice ta1 tl1 tc1, .slice ha1 hl1 hc1] 29)).alloc (.cells #[.string a2, .string m2, .int .i64 mo2, .int .i64 ev2, .int .i64 su2, .int .i64 mx2, .slice ta2 tl2 tc2, .slice ha2 hl2 hc2] 29)).alloc (.cells #[.string ⟨#[]⟩, .string ⟨#[]⟩, .int .i64 0, .int .i64 0, .int .i64 0, .int .i64 0, .slice none 0 0, .slice none 0 0, .int .i64 0] 31)) := ⟨_, rfl⟩
  have HB0 : Hid (Below w.heap.size w W0) := hid_intro (by rw [hW0]; exact (((Below.refl _ _).alloc (by simp; try omega) _).alloc (by simp; try omega) _).alloc (by simp; try omega) _)
  have HA0 : Hid (Blk w.heap.size [.string a1, .string m1, .int .i64 mo1, .int .i64 ev1, .int .i64 su1, .int .i64 mx1, .slice ta1 tl1 tc1, .slice ha1 hl1 hc1] W0) := hid_intro (by
    rw [hW0]
    exact ((Blk.new w [.string a1, .string m1, .int .i64 mo1, .int .i64 ev1, .int .i64 su1, .int .i64 mx1, .slice ta1 tl1 tc1, .slice ha1 hl1 hc1] 29).below ((Below.refl _ _).alloc (Nat.le_refl _) _)).below ((Below.refl _ _).alloc (Nat.le_refl _) _))
  have HC0 : Hid (Blk (w.heap.size + 1) [.string a2, .string m2, .int .i64 mo2, .int .i64 ev2, .int .i64 su2, .int .i64 mx2, .slice ta2 tl2 tc2, .slice ha2 hl2 hc2] W0) := hid_intro (by
    have := (Blk.new (w.alloc (.cells #[.string a1, .string m1, .int .i64 mo1, .int .i64 ev1, .int .i64 su1, .int .i64 mx1, .slice ta1 tl1 tc1, .slice ha1 hl1 hc1] 29)) [.string a2, .string m2, .int .i64 mo2, .int .i64 ev2, .int .i64 su2, .int .i64 mx2, .slice ta2 tl2 tc2, .slice ha2 hl2 hc2] 29).below ((Below.refl _ _).alloc (Nat.le_refl _) (.cells #[.string ⟨#[]⟩, .string ⟨#[]⟩, .int .i64 0, .int .i64 0, .int .i64 0, .int .i64 0, .slice none 0 0, .slice none 0 0, .int .i64 0] 31))
    rw [hW0]
    simp only [World.size_alloc] at this
    exact this)
  have HP0 : Hid (Pt (w.heap.size + 1 + 1) 9 W0) := hid_intro (by
    have := StR.pt_new ((w.alloc (.cells #[.string a1, .string m1, .int .i64 mo1, .int .i64 ev1, .int .i64 su1, .int .i64 mx1, .slice ta1 tl1 tc1, .slice ha1 hl1 hc1] 29)).alloc (.cells #[.string a2, .string m2, .int .i64 mo2, .int .i64 ev2, .int .i64 su2, .int .i64 mx2, .slice ta2 tl2 tc2, .slice ha2 hl2 hc2] 29)) [.string ⟨#[]⟩, .string ⟨#[]⟩, .int .i64 0, .int .i64 0, .int .i64 0, .int .i64 0, .slice none 0 0, .slice none 0 0, .int .i64 0] 31
    rw [hW0]
    simp only [World.size_alloc] at this
    exact this)
  have HW := hid_intro hW0
  clear hW0
  go_enter Tryd.func8, Tryd.ntmps8
  have p0 : W0.cell? ⟨w.heap.size, 0, none⟩ = some (.string a1) := HA0.out.2 0 (by simp)
  have p1 : W0.cell? ⟨w.heap.size, 1, none⟩ = some (.string m1) := HA0.out.2 1 (by simp)
  have p2 : W0.cell? ⟨w.heap.size, 2, none⟩ = some (.int .i64 mo1) := HA0.out.2 2 (by simp)
  have p3 : W0.cell? ⟨w.heap.size, 3, none⟩ = some (.int .i64 ev1) := HA0.out.2 3 (by simp)
  have p4 : W0.cell? ⟨w.heap.size, 4, none⟩ = some (.int .i64 su1) := HA0.out.2 4 (by simp)
  have p5 : W0.cell? ⟨w.heap.size, 5, none⟩ = some (.int .i64 mx1) := HA0.out.2 5 (by simp)
  have p6 : W0.cell? ⟨w.heap.size, 6, none⟩ = some (.slice ta1 tl1 tc1) := HA0.out.2 6 (by simp)
  have p7 : W0.cell? ⟨w.heap.size, 7, none⟩ = some (.slice ha1 hl1 hc1) := HA0.out.2 7 (by simp)
  have pl := HA0.out.1
  go_wp2_with fail
  rw [← HW.out]
  refine (HR1.out _ HB0.out).mono ?_
  rintro e w1 ⟨rfl, hb1⟩
  have HB1 := hid_intro (HB0.out.trans (hb1.mono HB0.out.size))
  have HA1 := hid_intro (HA0.out.below hb1)
  have HC1 := hid_intro (HC0.out.below hb1)
  have HP1 := hid_intro (HP0.out.below hb1)
  clear hb1 HB0 HA0 HC0 HP0
  clear p0 p1 p2 p3 p4 p5 p6 p7 pl
  cases r1
  · go_wp2_with fail
    refine (HIL.out 1 _).mono ?_
    rintro e w6 ⟨rfl, hb6⟩
    have HB6 := hid_intro (HB1.out.trans (hb6.mono HB1.out.size))
    have HP6 := hid_intro (HP1.out.below hb6)
    clear hb6
    have hp9 := HP6.out
    have hl9 := hp9.lt
    obtain ⟨ov0, r0⟩ := hp9.has 0 (by omega)
    have f0 := hp9.free 0 (by omega)
    obtain ⟨ov1, r1⟩ := hp9.has 1 (by omega)
    have f1 := hp9.free 1 (by omega)
    obtain ⟨ov2, r2⟩ := hp9.has 2 (by omega)
    have f2 := hp9.free 2 (by omega)
    obtain ⟨ov3, r3⟩ := hp9.has 3 (by omega)
    have f3 := hp9.free 3 (by omega)
    obtain ⟨ov4, r4⟩ := hp9.has 4 (by omega)
    have f4 := hp9.free 4 (by omega)
    obtain ⟨ov5, r5⟩ := hp9.has 5 (by omega)
    have f5 := hp9.free 5 (by omega)
    obtain ⟨ov6, r6⟩ := hp9.has 6 (by omega)
    have f6 := hp9.free 6 (by omega)
    obtain ⟨ov7, r7⟩ := hp9.has 7 (by omega)
    have f7 := hp9.free 7 (by omega)
    obtain ⟨ov8, r8⟩ := hp9.has 8 (by omega)
    have f8 := hp9.free 8 (by omega)
    have hgf := StR.stL_grown (w.heap.size + 1 + 1) [.string ⟨#[]⟩, .string ⟨#[]⟩, .int .i64 0, .int .i64 0, .int .i64 0, .int .i64 0, .slice none 0 0, .slice none 0 0, .int .i64 1] 0 w6
    have HBF := hid_intro (HB6.out.grown hgf HB6.out.size (fun k e => by simp only [Option.some.injEq] at e; omega))
    have HGF := hid_intro hgf
    simp only [StR.stL, Nat.zero_add, Nat.reduceAdd] at HBF HGF
    clear hgf hp9
    go_wp2_with fail
    refine bodyPost_ret (v := .agg #[.string ⟨#[]⟩, .string ⟨#[]⟩, .int .i64 0, .int .i64 0, .int .i64 0, .int .i64 0, .slice none 0 0, .slice none 0 0, .int .i64 1]) (by simp [results, Tryd.results8, go_sem, r0, r1, r2, r3, r4, r5, r6, r7, r8]) rfl ⟨_, rfl, .inl ⟨rfl, rfl⟩, HBF.out⟩
  have p0 : w1.cell? ⟨w.heap.size + 1, 0, none⟩ = some (.string a2) := HC1.out.2 0 (by simp)
  have p1 : w1.cell? ⟨w.heap.size + 1, 1, none⟩ = some (.string m2) := HC1.out.2 1 (by simp)
  have p2 : w1.cell? ⟨w.heap.size + 1, 2, none⟩ = some (.int .i64 mo2) := HC1.out.2 2 (by simp)
  have p3 : w1.cell? ⟨w.heap.size + 1, 3, none⟩ = some (.int .i64 ev2) := HC1.out.2 3 (by simp)
  have p4 : w1.cell? ⟨w.heap.size + 1, 4, none⟩ = some (.int .i64 su2) := HC1.out.2 4 (by simp)
  have p5 : w1.cell? ⟨w.heap.size + 1, 5, none⟩ = some (.int .i64 mx2) := HC1.out.2 5 (by simp)
  have p6 : w1.cell? ⟨w.heap.size + 1, 6, none⟩ = some (.slice ta2 tl2 tc2) := HC1.out.2 6 (by simp)
  have p7 : w1.cell? ⟨w.heap.size + 1, 7, none⟩ = some (.slice ha2 hl2 hc2) := HC1.out.2 7 (by simp)
  have pl := HC1.out.1
  go_wp2_with fail
  refine (HR2.out _ HB1.out).mono ?_
  rintro e w2 ⟨rfl, hb2⟩
  have HB2 := hid_intro (HB1.out.trans (hb2.mono HB1.out.size))
  have HA2 := hid_intro (HA1.out.below hb2)
  have HC2 := hid_intro (HC1.out.below hb2)
  have HP2 := hid_intro (HP1.out.below hb2)
  clear hb2 HB1 HA1 HC1 HP1
  clear p0 p1 p2 p3 p4 p5 p6 p7 pl
  cases r2
  · go_wp2_with fail
    refine (HIL.out 1 _).mono ?_
    rintro e w6 ⟨rfl, hb6⟩
    have HB6 := hid_intro (HB2.out.trans (hb6.mono HB2.out.size))
    have HP6 := hid_intro (HP2.out.below hb6)
    clear hb6
    have hp9 := HP6.out
    have hl9 := hp9.lt
    obtain ⟨ov0, r0⟩ := hp9.has 0 (by omega)
    have f0 := hp9.free 0 (by omega)
    obtain ⟨ov1, r1⟩ := hp9.has 1 (by omega)
    have f1 := hp9.free 1 (by omega)
    obtain ⟨ov2, r2⟩ := hp9.has 2 (by omega)
    have f2 := hp9.free 2 (by omega)
    obtain ⟨ov3, r3⟩ := hp9.has 3 (by omega)
    have f3 := hp9.free 3 (by omega)
    obtain ⟨ov4, r4⟩ := hp9.has 4 (by omega)
    have f4 := hp9.free 4 (by omega)
    obtain ⟨ov5, r5⟩ := hp9.has 5 (by omega)
    have f5 := hp9.free 5 (by omega)
    obtain ⟨ov6, r6⟩ := hp9.has 6 (by omega)
    have f6 := hp9.free 6 (by omega)
    obtain ⟨ov7, r7⟩ := hp9.has 7 (by omega)
    have f7 := hp9.free 7 (by omega)
    obtain ⟨ov8, r8⟩ := hp9.has 8 (by omega)
    have f8 := hp9.free 8 (by omega)
    have hgf := StR.stL_grown (w.heap.size + 1 + 1) [.string ⟨#[]⟩, .string ⟨#[]⟩, .int .i64 0, .int .i64 0, .int .i64 0, .int .i64 0, .slice none 0 0, .slice none 0 0, .int .i64 1] 0 w6
    have HBF := hid_intro (HB6.out.grown hgf HB6.out.size (fun k e => by simp only [Option.some.injEq] at e; omega))
    have HGF := hid_intro hgf
    simp only [StR.stL, Nat.zero_add, Nat.reduceAdd] at HBF HGF
    clear hgf hp9
    go_wp2_with fail
    refine bodyPost_ret (v := .agg #[.string ⟨#[]⟩, .string ⟨#[]⟩, .int .i64 0, .int .i64 0, .int .i64 0, .int .i64 0, .slice none 0 0, .slice none 0 0, .int .i64 1]) (by simp [results, Tryd.results8, go_sem, r0, r1, r2, r3, r4, r5, r6, r7, r8]) rfl ⟨_, rfl, .inl ⟨rfl, rfl⟩, HBF.out⟩
  have p0 : w2.cell? ⟨w.heap.size, 0, none⟩ = some (.string a1) := HA2.out.2 0 (by simp)
  have p1 : w2.cell? ⟨w.heap.size, 1, none⟩ = some (.string m1) := HA2.out.2 1 (by simp)
  have p2 : w2.cell? ⟨w.heap.size, 2, none⟩ = some (.int .i64 mo1) := HA2.out.2 2 (by simp)
  have p3 : w2.cell? ⟨w.heap.size, 3, none⟩ = some (.int .i64 ev1) := HA2.out.2 3 (by simp)
  have p4 : w2.cell? ⟨w.heap.size, 4, none⟩ = some (.int .i64 su1) := HA2.out.2 4 (by simp)
  have p5 : w2.cell? ⟨w.heap.size, 5, none⟩ = some (.int .i64 mx1) := HA2.out.2 5 (by simp)
  have p6 : w2.cell? ⟨w.heap.size, 6, none⟩ = some (.slice ta1 tl1 tc1) := HA2.out.2 6 (by simp)
  have p7 : w2.cell? ⟨w.heap.size, 7, none⟩ = some (.slice ha1 hl1 hc1) := HA2.out.2 7 (by simp)
  have pl := HA2.out.1
  have q0 : w2.cell? ⟨w.heap.size + 1, 0, none⟩ = some (.string a2) := HC2.out.2 0 (by simp)
  have q1 : w2.cell? ⟨w.heap.size + 1, 1, none⟩ = some (.string m2) := HC2.out.2 1 (by simp)
  have q2 : w2.cell? ⟨w.heap.size + 1, 2, none⟩ = some (.int .i64 mo2) := HC2.out.2 2 (by simp)
  have q3 : w2.cell? ⟨w.heap.size + 1, 3, none⟩ = some (.int .i64 ev2) := HC2.out.2 3 (by simp)
  have q4 : w2.cell? ⟨w.heap.size + 1, 4, none⟩ = some (.int .i64 su2) := HC2.out.2 4 (by simp)
  have q5 : w2.cell? ⟨w.heap.size + 1, 5, none⟩ = some (.int .i64 mx2) := HC2.out.2 5 (by simp)
  have q6 : w2.cell? ⟨w.heap.size + 1, 6, none⟩ = some (.slice ta2 tl2 tc2) := HC2.out.2 6 (by simp)
  have q7 : w2.cell? ⟨w.heap.size + 1, 7, none⟩ = some (.slice ha2 hl2 hc2) := HC2.out.2 7 (by simp)
  have ql := HC2.out.1
  go_wp2_with fail
  refine (HJ.out (by trivial) (by trivial) _ HB2.out).mono ?_
  rintro e w6 ⟨A, M, mo, ev, su, mx, ta, tl, tc, ha, hl, hc, cd, rfl, hp6, hb6⟩
  have HB6 := hid_intro (HB2.out.trans (hb6.mono HB2.out.size))
  have HP6 := hid_intro (HP2.out.below hb6)
  have HQ6 := hid_intro hp6
  have HS2 : Hid (w.heap.size + 1 + 1 < w2.heap.size) := hid_intro HP2.out.lt
  have HS2B : Hid (w.heap.size ≤ w2.heap.size) := hid_intro HB2.out.size
  clear hb6 hp6 HA2 HC2 HP2 HB2 HIL HR1 HR2 HJ
  clear p0 p1 p2 p3 p4 p5 p6 p7 pl
  clear q0 q1 q2 q3 q4 q5 q6 q7 ql
  have hp9 := HP6.out
  have hl9 := hp9.lt
  obtain ⟨ov0, r0⟩ := hp9.has 0 (by omega)
  have f0 := hp9.free 0 (by omega)
  obtain ⟨ov1, r1⟩ := hp9.has 1 (by omega)
  have f1 := hp9.free 1 (by omega)
  obtain ⟨ov2, r2⟩ := hp9.has 2 (by omega)
  have f2 := hp9.free 2 (by omega)
  obtain ⟨ov3, r3⟩ := hp9.has 3 (by omega)
  have f3 := hp9.free 3 (by omega)
  obtain ⟨ov4, r4⟩ := hp9.has 4 (by omega)
  have f4 := hp9.free 4 (by omega)
  obtain ⟨ov5, r5⟩ := hp9.has 5 (by omega)
  have f5 := hp9.free 5 (by omega)
  obtain ⟨ov6, r6⟩ := hp9.has 6 (by omega)
  have f6 := hp9.free 6 (by omega)
  obtain ⟨ov7, r7⟩ := hp9.has 7 (by omega)
  have f7 := hp9.free 7 (by omega)
  obtain ⟨ov8, r8⟩ := hp9.has 8 (by omega)
  have f8 := hp9.free 8 (by omega)
  have hgf := StR.stL_grown (w.heap.size + 1 + 1) [.string A, .string M, .int .i64 mo, .int .i64 ev, .int .i64 su, .int .i64 mx, .slice ta tl tc, .slice ha hl hc, .int .i64 cd] 0 w6
  have HBF := hid_intro (HB6.out.grown hgf HB6.out.size (fun k e => by simp only [Option.some.injEq] at e; omega))
  have HGF := hid_intro hgf
  simp only [StR.stL, Nat.zero_add, Nat.reduceAdd] at HBF HGF
  clear hgf hp9
  go_wp2_with fail
  refine bodyPost_ret (v := .agg #[.string A, .string M, .int .i64 mo, .int .i64 ev, .int .i64 su, .int .i64 mx, .slice ta tl tc, .slice ha hl hc, .int .i64 cd]) (by simp [results, Tryd.results8, go_sem, r0, r1, r2, r3, r4, r5, r6, r7, r8]) rfl ⟨_, rfl, .inr ⟨rfl, _, HS2B.out, HK.out _ _ _ _ _ HQ6.out HGF.out HS2.out⟩, HBF.out⟩
end WinR
end Go.Proofs.YtmeemmbpkjfleaaDoor
namespace Go.Proofs.YtmeemmbpkjfleaaDoor
open Go.ChangeShapes Go.WideShapes Go.ChangeAt Go.RowKit
set_option linter.unusedVariables false
namespace WinR
open RowG
open CatR (Blk Blk.new)
/-- A window of one's own: both lists stand at the start of blocks of their own, as long as their room. -/
def TwW (base : Nat) (x : Wd) (v : Value) (w : World) : Prop := ∃ g1 g2, v = .agg (wcells x (some ⟨g1, 0, none⟩) x.ts.length (some ⟨g2, 0, none⟩) x.hs.length) ∧ base ≤ g1 ∧ base ≤ g2 ∧ g1 ≠ g2 ∧ MadeG 1 tcells tz base (some ⟨g1, 0, none⟩) x.ts w ∧ MadeG 2 H.cells H.zero base (some ⟨g2, 0, none⟩) x.hs w
theorem TwW.below {base : Nat} {x : Wd} {v : Value} {w w' : World} (h : TwW base x v w) (hb : Below w.heap.size w w') : TwW base x v w' := by
  obtain ⟨g1, g2, e, l1, l2, hn, m1, m2⟩ := h
  exact ⟨g1, g2, e, l1, l2, hn, m1.below hb, m2.below hb⟩
theorem TwW.made {base : Nat} {x : Wd} {v : Value} {w : World} (h : TwW base x v w) : MadeW base x v w := by
  obtain ⟨g1, g2, e, l1, l2, hn, m1, m2⟩ := h
  exact ⟨_, _, _, _, e, m1, m2, .inr (.inr (fun b o b' o' e1 e2 => by simp at e1 e2; omega))⟩
set_option maxRecDepth 100000 in
set_option maxHeartbeats 8000000 in
theorem toTw_in (a m : ByteArray) (mo ev su mx : Int) (ta : Option Addr) (ts : List ByteArray) (tc : Nat) (ha : Option Addr) (hs : List H) (hc : Nat) (w : World) (ht : ts.length ≤ 1048576) (hh : hs.length ≤ 1048576) (hT : Tgs ta ts w) (hH : Hrs ha hs w) :
    Calls Tryd.prog 9 #[.agg #[.string a, .string m, .int .i64 mo, .int .i64 ev, .int .i64 su, .int .i64 mx, .slice ta ts.length tc, .slice ha hs.length hc]] w fun e w' => ∃ v, e = .returned v ∧ TwW w.heap.size ⟨a, m, mo, ev, su, mx, ts, hs⟩ v w' ∧ Below w.heap.size w w' := by
  have H1 := hid_intro (fun W (hW : Below w.heap.size w W) => toTs_any ta tc ts W ht (hT.below hW))
  have H2 := hid_intro (fun W (hW : Below w.heap.size w W) => toHs_any ha hc hs W hh (hH.below hW))
  have HF : Hid (∀ W g1 g2, w.heap.size ≤ g1 → w.heap.size ≤ g2 → g1 ≠ g2 → MadeG 1 tcells tz g1 (some ⟨g1, 0, none⟩) ts W → MadeG 2 H.cells H.zero g2 (some ⟨g2, 0, none⟩) hs W → TwW w.heap.size ⟨a, m, mo, ev, su, mx, ts, hs⟩ (.agg #[.string a, .string m, .int .i64 mo, .int .i64 ev, .int .i64 su, .int .i64 mx, .slice (some ⟨g1, 0, none⟩) ts.length ts.length, .slice (some ⟨g2, 0, none⟩) hs.length hs.length]) W) := hid_intro (fun W g1 g2 l1 l2 hn m1 m2 =>
    ⟨g1, g2, rfl, l1, l2, hn, m1.low l1, m2.low l2⟩)
  generalize TwW w.heap.size ⟨a, m, mo, ev, su, mx, ts, hs⟩ = M at *
  obtain ⟨tl, htl⟩ : ∃ tl, tl = ts.length := ⟨_, rfl⟩
  obtain ⟨hl, hhl⟩ : ∃ hl, hl = hs.length := ⟨_, rfl⟩
  have HTL := hid_intro htl
  have HHL := hid_intro hhl
  rw [← htl] at ht H1 HF ⊢
  rw [← hhl] at hh H2 HF ⊢
  clear hT hH htl hhl
  have HB0 : Hid (Below w.heap.size w (((w.alloc (.cells #[.string a, .string m, .int .i64 mo, .int .i64 ev, .int .i64 su, .int .i64 mx, .slice ta tl tc, .slice ha hl hc] 25)).alloc (.cells #[.string ⟨#[]⟩, .string ⟨#[]⟩, .int .i64 0, .int .i64 0, .int .i64 0, .int .i64 0, .slice none 0 0, .slice none 0 0] 29)).alloc (.cells #[.string a, .string m, .int .i64 mo, .int .i64 ev, .int .i64 su, .int .i64 mx, .slice none 0 0, .slice none 0 0] 29))) := hid_intro ((((Below.refl _ _).alloc (Nat.le_refl _) _).alloc (by simp) _).alloc (by simp; omega) _)
  have HX0 := hid_intro (((BlkW.new w [.string a, .string m, .int .i64 mo, .int .i64 ev, .int .i64 su, .int .i64 mx, .slice ta tl tc, .slice ha hl hc] 25).below ((Below.refl _ _).alloc (Nat.le_refl _) (Obj.cells #[.string ⟨#[]⟩, .string ⟨#[]⟩, .int .i64 0, .int .i64 0, .int .i64 0, .int .i64 0, .slice none 0 0, .slice none 0 0] 29))).below ((Below.refl _ _).alloc (Nat.le_refl _) (Obj.cells #[.string a, .string m, .int .i64 mo, .int .i64 ev, .int .i64 su, .int .i64 mx, .slice none 0 0, .slice none 0 0] 29)))
  have HY0 := hid_intro ((BlkW.new (w.alloc (.cells #[.string a, .string m, .int .i64 mo, .int .i64 ev, .int .i64 su, .int .i64 mx, .slice ta tl tc, .slice ha hl hc] 25)) [.string ⟨#[]⟩, .string ⟨#[]⟩, .int .i64 0, .int .i64 0, .int .i64 0, .int .i64 0, .slice none 0 0, .slice none 0 0] 29).below ((Below.refl _ _).alloc (Nat.le_refl _) (Obj.cells #[.string a, .string m, .int .i64 mo, .int .i64 ev, .int .i64 su, .int .i64 mx, .slice none 0 0, .slice none 0 0] 29)))
  have HZ0 := hid_intro (BlkW.new ((w.alloc (.cells #[.string a, .string m, .int .i64 mo, .int .i64 ev, .int .i64 su, .int .i64 mx, .slice ta tl tc, .slice ha hl hc] 25)).alloc (.cells #[.string ⟨#[]⟩, .string ⟨#[]⟩, .int .i64 0, .int .i64 0, .int .i64 0, .int .i64 0, .slice none 0 0, .slice none 0 0] 29)) [.string a, .string m, .int .i64 mo, .int .i64 ev, .int .i64 su, .int .i64 mx, .slice none 0 0, .slice none 0 0] 29)
  have e1 : (w.alloc (.cells #[.string a, .string m, .int .i64 mo, .int .i64 ev, .int .i64 su, .int .i64 mx, .slice ta tl tc, .slice ha hl hc] 25)).heap.size = w.heap.size + 1 := by simp
  have e2 : ((w.alloc (.cells #[.string a, .string m, .int .i64 mo, .int .i64 ev, .int .i64 su, .int .i64 mx, .slice ta tl tc, .slice ha hl hc] 25)).alloc (.cells #[.string ⟨#[]⟩, .string ⟨#[]⟩, .int .i64 0, .int .i64 0, .int .i64 0, .int .i64 0, .slice none 0 0, .slice none 0 0] 29)).heap.size = w.heap.size + 1 + 1 := by simp
  rw [e1] at HY0
  rw [e2] at HZ0
  clear e1 e2
  go_enter Tryd.func9, Tryd.ntmps9
  go_wp2_with fail
  refine (H1.out _ HB0.out).mono ?_
  rintro e w1 ⟨rfl, hT1, hP1, hb1⟩
  have HM1 := hid_intro (show MadeG 1 tcells tz _ _ ts w1 from ⟨hT1, .inr ⟨_, rfl, Nat.le_refl _, by rw [Nat.mul_one]; exact HTL.out ▸ hP1⟩⟩)
  obtain ⟨g1, hg1⟩ : ∃ g1, g1 = (((w.alloc (.cells #[.string a, .string m, .int .i64 mo, .int .i64 ev, .int .i64 su, .int .i64 mx, .slice ta tl tc, .slice ha hl hc] 25)).alloc (.cells #[.string ⟨#[]⟩, .string ⟨#[]⟩, .int .i64 0, .int .i64 0, .int .i64 0, .int .i64 0, .slice none 0 0, .slice none 0 0] 29)).alloc (.cells #[.string a, .string m, .int .i64 mo, .int .i64 ev, .int .i64 su, .int .i64 mx, .slice none 0 0, .slice none 0 0] 29)).heap.size := ⟨_, rfl⟩
  have HG1 : Hid (w.heap.size + 3 = g1) := hid_intro (by rw [hg1]; simp)
  have HG1b : Hid (g1 < w1.heap.size) := hid_intro (by rw [hg1]; exact hP1.lt)
  rw [← hg1] at HM1 ⊢
  clear hg1
  have HX1 := hid_intro (HX0.out.below hb1)
  have HY1 := hid_intro ((HY0.out.below hb1).other (w.heap.size + 1 + 1) 6 (.slice (some ⟨g1, 0, none⟩) tl tl) (by omega))
  have HZ1 := hid_intro ((HZ0.out.below hb1).set 6 (.slice (some ⟨g1, 0, none⟩) tl tl) (by simp))
  have HZ1' := hid_intro (HZ0.out.below hb1)
  have HB1 : Hid (Below w.heap.size w (w1.setCell ⟨w.heap.size + 1 + 1, 6, none⟩ (.slice (some ⟨g1, 0, none⟩) tl tl))) := hid_intro ((HB0.out.trans (hb1.mono HB0.out.size)).setCell (by simp; omega) _)
  obtain ⟨⟨xl, xc⟩, _⟩ := HX1.out
  have x7 : w1.cell? ⟨w.heap.size, 7, none⟩ = some (.slice ha hl hc) := xc 7 (by simp)
  obtain ⟨⟨zl, zk⟩, zf⟩ := HZ1'.out
  have z6 : w1.cell? ⟨w.heap.size + 1 + 1, 6, none⟩ = some (.slice none 0 0) := zk 6 (by simp)
  have f6 : w1.frozen? ⟨w.heap.size + 1 + 1, 6, none⟩ = false := zf 6 (by simp)
  clear xc zk zf hT1 hP1 hb1 HZ1' HX0 HY0 HZ0 HX1
  replace HM1 := hid_intro (MadeG.put HM1.out (w.heap.size + 1 + 1) 6 (.slice (some ⟨g1, 0, none⟩) tl tl) (.inr (fun b off e => by simp at e; have := HG1.out; omega)))
  go_wp2_with fail
  refine (H2.out _ HB1.out).mono ?_
  rintro e w2 ⟨rfl, hT2, hP2, hb2⟩
  have HM2 := hid_intro (show MadeG 2 H.cells H.zero _ _ hs w2 from ⟨hT2, .inr ⟨_, rfl, Nat.le_refl _, HHL.out ▸ hP2⟩⟩)
  obtain ⟨g2, hg2⟩ : ∃ g2, g2 = (w1.setCell ⟨w.heap.size + 1 + 1, 6, none⟩ (.slice (some ⟨g1, 0, none⟩) tl tl)).heap.size := ⟨_, rfl⟩
  have HG2 : Hid (g1 < g2) := hid_intro (by rw [hg2]; simpa using HG1b.out)
  rw [← hg2] at HM2 ⊢
  clear hg2
  replace HM1 := hid_intro (HM1.out.below hb2)
  replace HY1 := hid_intro (HY1.out.below hb2)
  replace HZ1 := hid_intro (HZ1.out.below hb2)
  replace HB1 := hid_intro (HB1.out.trans (hb2.mono HB1.out.size))
  clear hT2 hP2 hb2 x7 z6 f6 xl zl
  obtain ⟨⟨zl, zk⟩, zf⟩ := HZ1.out
  have z0 : w2.cell? ⟨w.heap.size + 1 + 1, 0, none⟩ = some (.string a) := zk 0 (by simp)
  have z1 : w2.cell? ⟨w.heap.size + 1 + 1, 1, none⟩ = some (.string m) := zk 1 (by simp)
  have z2 : w2.cell? ⟨w.heap.size + 1 + 1, 2, none⟩ = some (.int .i64 mo) := zk 2 (by simp)
  have z3 : w2.cell? ⟨w.heap.size + 1 + 1, 3, none⟩ = some (.int .i64 ev) := zk 3 (by simp)
  have z4 : w2.cell? ⟨w.heap.size + 1 + 1, 4, none⟩ = some (.int .i64 su) := zk 4 (by simp)
  have z5 : w2.cell? ⟨w.heap.size + 1 + 1, 5, none⟩ = some (.int .i64 mx) := zk 5 (by simp)
  have z6 : w2.cell? ⟨w.heap.size + 1 + 1, 6, none⟩ = some (.slice (some ⟨g1, 0, none⟩) tl tl) := zk 6 (by simp)
  have z7 : w2.cell? ⟨w.heap.size + 1 + 1, 7, none⟩ = some (.slice none 0 0) := zk 7 (by simp)
  have f7 : w2.frozen? ⟨w.heap.size + 1 + 1, 7, none⟩ = false := zf 7 (by simp)
  obtain ⟨⟨yl, yk⟩, yf⟩ := HY1.out
  have y0 : w2.cell? ⟨w.heap.size + 1, 0, none⟩ = some (.string ⟨#[]⟩) := yk 0 (by simp)
  have q0 : w2.frozen? ⟨w.heap.size + 1, 0, none⟩ = false := yf 0 (by simp)
  have y1 : w2.cell? ⟨w.heap.size + 1, 1, none⟩ = some (.string ⟨#[]⟩) := yk 1 (by simp)
  have q1 : w2.frozen? ⟨w.heap.size + 1, 1, none⟩ = false := yf 1 (by simp)
  have y2 : w2.cell? ⟨w.heap.size + 1, 2, none⟩ = some (.int .i64 0) := yk 2 (by simp)
  have q2 : w2.frozen? ⟨w.heap.size + 1, 2, none⟩ = false := yf 2 (by simp)
  have y3 : w2.cell? ⟨w.heap.size + 1, 3, none⟩ = some (.int .i64 0) := yk 3 (by simp)
  have q3 : w2.frozen? ⟨w.heap.size + 1, 3, none⟩ = false := yf 3 (by simp)
  have y4 : w2.cell? ⟨w.heap.size + 1, 4, none⟩ = some (.int .i64 0) := yk 4 (by simp)
  have q4 : w2.frozen? ⟨w.heap.size + 1, 4, none⟩ = false := yf 4 (by simp)
  have y5 : w2.cell? ⟨w.heap.size + 1, 5, none⟩ = some (.int .i64 0) := yk 5 (by simp)
  have q5 : w2.frozen? ⟨w.heap.size + 1, 5, none⟩ = false := yf 5 (by simp)
  have y6 : w2.cell? ⟨w.heap.size + 1, 6, none⟩ = some (.slice none 0 0) := yk 6 (by simp)
  have q6 : w2.frozen? ⟨w.heap.size + 1, 6, none⟩ = false := yf 6 (by simp)
  have y7 : w2.cell? ⟨w.heap.size + 1, 7, none⟩ = some (.slice none 0 0) := yk 7 (by simp)
  have q7 : w2.frozen? ⟨w.heap.size + 1, 7, none⟩ = false := yf 7 (by simp)
  clear zk zf yk yf HY1 HZ1
  have HN1 : Hid (∀ b off, (some ⟨g1, 0, none⟩ : Option Addr) = some ⟨b, off, none⟩ → ∀ g, g ≤ w.heap.size + 1 + 1 → b ≠ g) := hid_intro (fun b off e g hg => by simp at e; have := HG1.out; omega)
  have HN2 : Hid (∀ b off, (some ⟨g2, 0, none⟩ : Option Addr) = some ⟨b, off, none⟩ → ∀ g, g ≤ w.heap.size + 1 + 1 → b ≠ g) := hid_intro (fun b off e g hg => by simp at e; have := HG1.out; have := HG2.out; omega)
  go_wp2_with fail
  refine bodyPost_ret (v := .agg #[.string a, .string m, .int .i64 mo, .int .i64 ev, .int .i64 su, .int .i64 mx, .slice (some ⟨g1, 0, none⟩) tl tl, .slice (some ⟨g2, 0, none⟩) hl hl]) (by simp [results, Tryd.results9, go_sem, y0, y1, y2, y3, y4, y5, y6, y7]) rfl ⟨_, rfl, HF.out _ g1 g2 (by have := HG1.out; omega) (by have := HG1.out; have := HG2.out; omega) (by have := HG2.out; omega) ?_ ?_, ?_⟩
  · exact (MadeG.put (MadeG.put (MadeG.put (MadeG.put (MadeG.put (MadeG.put (MadeG.put (MadeG.put (MadeG.put HM1.out _ _ _ (.inr (fun b off e => HN1.out b off e _ (by omega)))) _ _ _ (.inr (fun b off e => HN1.out b off e _ (by omega)))) _ _ _ (.inr (fun b off e => HN1.out b off e _ (by omega)))) _ _ _ (.inr (fun b off e => HN1.out b off e _ (by omega)))) _ _ _ (.inr (fun b off e => HN1.out b off e _ (by omega)))) _ _ _ (.inr (fun b off e => HN1.out b off e _ (by omega)))) _ _ _ (.inr (fun b off e => HN1.out b off e _ (by omega)))) _ _ _ (.inr (fun b off e => HN1.out b off e _ (by omega)))) _ _ _ (.inr (fun b off e => HN1.out b off e _ (by omega))))
  · exact (MadeG.put (MadeG.put (MadeG.put (MadeG.put (MadeG.put (MadeG.put (MadeG.put (MadeG.put (MadeG.put HM2.out _ _ _ (.inr (fun b off e => HN2.out b off e _ (by omega)))) _ _ _ (.inr (fun b off e => HN2.out b off e _ (by omega)))) _ _ _ (.inr (fun b off e => HN2.out b off e _ (by omega)))) _ _ _ (.inr (fun b off e => HN2.out b off e _ (by omega)))) _ _ _ (.inr (fun b off e => HN2.out b off e _ (by omega)))) _ _ _ (.inr (fun b off e => HN2.out b off e _ (by omega)))) _ _ _ (.inr (fun b off e => HN2.out b off e _ (by omega)))) _ _ _ (.inr (fun b off e => HN2.out b off e _ (by omega)))) _ _ _ (.inr (fun b off e => HN2.out b off e _ (by omega))))
  · exact (((((((((HB1.out.setCell (by simp; omega) _).setCell (by simp) _).setCell (by simp) _).setCell (by simp) _).setCell (by simp) _).setCell (by simp) _).setCell (by simp) _).setCell (by simp) _).setCell (by simp) _)
theorem toTw_any (v : Value) (x : Wd) (w : World) (ht : x.ts.length ≤ 1048576) (hh : x.hs.length ≤ 1048576) (h : IsWd v x w) :
    Calls Tryd.prog 9 #[v] w fun e w' => ∃ v', e = .returned v' ∧ TwW w.heap.size x v' w' ∧ Below w.heap.size w w' := by
  obtain ⟨ta, tc, ha, hc, rfl, hT, hH⟩ := h
  exact toTw_in x.a x.m x.mo x.ev x.su x.mx ta x.ts tc ha x.hs hc w ht hh hT hH
end WinR
end Go.Proofs.YtmeemmbpkjfleaaDoor
namespace Go.Proofs.YtmeemmbpkjfleaaDoor
open Go.ChangeShapes Go.WideShapes Go.ChangeAt Go.RowKit
set_option linter.unusedVariables false
namespace MarkR
theorem hid_intro {p : Prop} (h : p) : Hid p := h
theorem conv_m (w : World) (z : Int) : (convert 46 9 (.slice (some ⟨w.heap.size, 0, none⟩) 1 1)).run Tryd.prog (w.alloc (Obj.cells #[.int .u8 z] 5)) = .ok (.string (strOfNums [z])) (w.alloc (Obj.cells #[.int .u8 z] 5)) := by
  refine run_convert_bytes_arg _ 46 5 Tryd.underlying46 Tryd.underlying5 w.heap.size 0 1 1 _ rfl ?_ 9 Tryd.underlying9
  intro i hi
  match i, hi with
  | 0, _ => simp [go_sem]
/-- The digits put ahead of a text. -/
def mk : Nat → Nat → ByteArray → ByteArray
  | 0, _, out => out
  | f + 1, k, out => if k = 0 then out else mk f (k / 10) (strOfNums [48 + ((k % 10 : Nat) : Int)] ++ out)
def mT (k : Nat) : ByteArray := (⟨#[109]⟩ : ByteArray) ++ mk 9 k ⟨#[]⟩
set_option maxRecDepth 100000 in
set_option maxHeartbeats 4000000 in
theorem mark_any (K : Nat) (h0 : 1 ≤ K) (h : K < 100000000) (w : World) : Calls Tryd.prog 80 #[.int .i64 K] w fun e w' => e = .returned (.string (mT K)) ∧ Below w.heap.size w w' := by
  have h1 : ¬ (K : Int) ≤ 0 := by omega
  have HT : Hid (mT K = (⟨#[109]⟩ : ByteArray) ++ mk 9 K ⟨#[]⟩) := rfl
  generalize mT K = R at *
  go_enter Tryd.func80, Tryd.ntmps80
  go_wp2_with fail
  go_loopw [0, 3] (fun x z wr => ∃ (f k : Nat) (out : ByteArray), x = .int .i64 (k : Int) ∧ z = .string out ∧ k < 10 ^ f ∧ f ≤ 9 ∧ Hid (mk 9 K ⟨#[]⟩ = mk f k out) ∧ out.size + f = 9 ∧ Hid (Below w.heap.size w wr)) (fun x _ _ => (intOf x).toNat)
  case atStart => exact ⟨9, K, ⟨#[]⟩, rfl, rfl, by omega, by omega, rfl, rfl, hid_intro (Below.refl _ _)⟩
  case round =>
    obtain ⟨f, k, out, rfl, rfl, hk, hf, HD, hz, HB⟩ := hrel
    by_cases hk0 : k = 0
    · subst hk0
      have HO : Hid (R = (⟨#[109]⟩ : ByteArray) ++ out) := hid_intro (by rw [HT.out, HD.out]; cases f <;> simp [mk])
      have q1 : ¬ 9223372036854775807 < 1 + out.size := by omega
      go_wp2_with fail
      go_ret
      exact ⟨ret_str HO.out.symm, HB.out⟩
    · obtain ⟨g, rfl⟩ : ∃ g, f = g + 1 := ⟨f - 1, by rcases f with _ | f; simp at hk; omega; omega⟩
      have hk2 : k / 10 < 10 ^ g := by rw [Nat.pow_succ] at hk; omega
      have HD2 : Hid (mk 9 K ⟨#[]⟩ = mk g (k / 10) (strOfNums [48 + ((k % 10 : Nat) : Int)] ++ out)) := hid_intro (by rw [HD.out, mk, if_neg hk0])
      have hkb : k < 1000000000 := by
        have : 10 ^ (g + 1) ≤ 10 ^ 9 := Nat.pow_le_pow_right (by omega) hf
        omega
      have k1 : (0 : Int) < (k : Int) := by omega
      have e1 : (k : Int) % 10 = ((k % 10 : Nat) : Int) := by omega
      have e2 : (k : Int) / 10 = ((k / 10 : Nat) : Int) := by omega
      have e3 : (k : Int).tmod 10 = ((k % 10 : Nat) : Int) := by rw [Int.tmod_eq_emod_of_nonneg (by omega)]; omega
      have e4 : (k : Int).tdiv 10 = ((k / 10 : Nat) : Int) := by rw [Int.tdiv_eq_ediv_of_nonneg (by omega)]; omega
      have d10 : k % 10 < 10 := by omega
      have dk : k / 10 < k := by omega
      have hC : (strOfNums [48 + ((k % 10 : Nat) : Int)]).size = 1 := strOfNums_size _
      have hcv := conv_m wr (48 + ((k % 10 : Nat) : Int))
      generalize k % 10 = d at *
      generalize k / 10 = q at *
      generalize strOfNums [48 + (d : Int)] = T at *
      have q1 : ¬ 9223372036854775807 < T.size + out.size := by omega
      have HDk := hid_intro dk
      clear dk hk HD
      go_wp2_with fail
      go_roundw
      case rel => exact ⟨g, q, T ++ out, rfl, rfl, hk2, by omega, HD2, by rw [ByteArray.size_append]; omega, hid_intro (HB.out.alloc HB.out.size _)⟩
      case measure => simp [intOf]; have := HDk.out; omega
end MarkR
end Go.Proofs.YtmeemmbpkjfleaaDoor
namespace Go.Proofs.YtmeemmbpkjfleaaDoor
open Go.ChangeShapes Go.WideShapes Go.ChangeAt Go.RowKit
set_option linter.unusedVariables false
namespace WinR
open RowG (Wr MadeG grown_set)
open EvtR (Pt)
open CatR (Blk Blk.new)
open MarkR (mk mT mark_any)
/-- Only blocks between two numbers are written. -/
structure Outs (base top : Nat) (w w' : World) : Prop where
  os : w'.os = w.os
  tape : w'.tape = w.tape
  output : w'.output = w.output
  size : w.heap.size ≤ w'.heap.size
  block : ∀ k, k < w.heap.size → k < base ∨ top ≤ k → w'.heap[k]? = w.heap[k]?
theorem Outs.refl (base top : Nat) (w : World) : Outs base top w w := ⟨rfl, rfl, rfl, Nat.le_refl _, fun _ _ _ => rfl⟩
theorem Outs.trans {base top : Nat} {w w1 w2 : World} (h : Outs base top w w1) (h2 : Outs base top w1 w2) : Outs base top w w2 :=
  ⟨h2.os.trans h.os, h2.tape.trans h.tape, h2.output.trans h.output, Nat.le_trans h.size h2.size, fun k hk hn => (h2.block k (Nat.lt_of_lt_of_le hk h.size) hn).trans (h.block k hk hn)⟩
theorem Outs.below {base top : Nat} {w w1 w2 : World} (h : Outs base top w w1) (hb : Below w1.heap.size w1 w2) : Outs base top w w2 :=
  h.trans ⟨hb.os, hb.tape, hb.output, hb.size, fun k hk _ => hb.block k hk⟩
theorem Outs.grown {base top : Nat} {w w1 w2 : World} {g : Nat} (h : Outs base top w w1) (hg : w1.grownBy w2 (some g)) (h1 : base ≤ g) (h2 : g < top) : Outs base top w w2 :=
  h.trans ⟨hg.os, hg.tape, hg.output, hg.size, fun k hk hn => hg.block k hk (by simp; omega)⟩
theorem Outs.bel {base top : Nat} {w w' : World} (h : Outs base top w w') {B : Nat} (hB : B ≤ base) (hw : B ≤ w.heap.size) : Below B w w' :=
  ⟨h.os, h.tape, h.output, by have := h.size; omega, fun k hk => h.block k (by omega) (.inl (by omega))⟩
theorem Outs.blkw {base top b : Nat} {cs : List Value} {w w' : World} (h : Outs base top w w') (hp : BlkW b cs w) (hg : b < base ∨ top ≤ b) : BlkW b cs w' := by
  have e := h.block b hp.1.1 hg
  exact ⟨⟨Nat.lt_of_lt_of_le hp.1.1 h.size, fun i hi => (World.cell?_of_block (a := ⟨b, i, none⟩) e).trans (hp.1.2 i hi)⟩, fun i hi => (World.frozen?_of_block (a := ⟨b, i, none⟩) e).trans (hp.2 i hi)⟩
theorem Outs.blk {base top b : Nat} {cs : List Value} {w w' : World} (h : Outs base top w w') (hp : Blk b cs w) (hg : b < base ∨ top ≤ b) : Blk b cs w' := by
  have e := h.block b hp.1 hg
  exact ⟨Nat.lt_of_lt_of_le hp.1 h.size, fun i hi => (World.cell?_of_block (a := ⟨b, i, none⟩) e).trans (hp.2 i hi)⟩
theorem gtrans {w w1 w2 : World} {g : Option Nat} (h1 : w.grownBy w1 g) (h2 : w1.grownBy w2 g) : w.grownBy w2 g :=
  ⟨h2.os.trans h1.os, h2.tape.trans h1.tape, h2.output.trans h1.output, Nat.le_trans h1.size h2.size, fun k hk hne => (h2.block k (by have := h1.size; omega) hne).trans (h1.block k hk hne)⟩
theorem rgrown {w w' : World} (hb : Below w.heap.size w w') (row : Option Nat) : w.grownBy w' row := ⟨hb.os, hb.tape, hb.output, hb.size, fun k hk _ => hb.block k hk⟩
/-- The cells of marked tags, of marked hours. -/
def mtC (K o : Nat) : Option Value := some (.string (mT (K + o)))
def mhC (K o : Nat) : Option Value := some (.int .i64 ((K + o : Nat) : Int))
theorem mark_st {f : Nat → Option Value} {g m j : Nat} {w0 w : World} (hp : Pt g m w) (hm : Wr f j g w) (hg : w0.grownBy w (some g)) (hj : j < m) (v : Value) (hv : f j = some v) :
    Pt g m (w.setCell ⟨g, j, none⟩ v) ∧ Wr f (j + 1) g (w.setCell ⟨g, j, none⟩ v) ∧ w0.grownBy (w.setCell ⟨g, j, none⟩ v) (some g) :=
  ⟨hp.set _ _, hm.more hp hj v hv, gtrans hg (grown_set _ g _ _)⟩
set_option maxRecDepth 100000 in
set_option maxHeartbeats 4000000 in
theorem markT (g n cap K : Nat) (w : World) (hn : n ≤ 1048576) (hK : 1 ≤ K ∧ K ≤ 10000000) (h0 : Pt g n w) :
    Calls Tryd.prog 41 #[.slice (some ⟨g, 0, none⟩) n cap, .int .i64 K] w fun e w' => e = .returned (.int .i64 (K + n : Nat)) ∧ Pt g n w' ∧ Wr (mtC K) n g w' ∧ w.grownBy w' (some g) := by
  have HP := hid_intro h0
  obtain ⟨k1, k2⟩ := hK
  have HT : Hid (∀ (z : Int) (L : Nat), z = L → 1 ≤ L → L < 100000000 → ∀ w, Calls Tryd.prog 80 #[.int .i64 z] w fun e w' => e = .returned (.string (mT L)) ∧ Below w.heap.size w w') := hid_intro (fun z L e h0 h w => by subst e; exact mark_any L h0 h w)
  clear h0
  go_enter Tryd.func41, Tryd.ntmps41
  go_wp2_with fail
  go_loopw [5, 1] (fun x z wr => ∃ i : Nat, x = .int .i64 (i : Int) ∧ z = .int .i64 ((K : Int) + (i : Int)) ∧ i ≤ n ∧ Hid (Pt g n wr) ∧ Hid (Wr (mtC K) i g wr) ∧ Hid (w.grownBy wr (some g))) (fun x _ _ => n - (intOf x).toNat)
  case atStart => exact ⟨0, rfl, by simp, by omega, HP, hid_intro (fun o ho => absurd ho (by omega)), hid_intro ⟨rfl, rfl, rfl, Nat.le_refl _, fun _ _ _ => rfl⟩⟩
  case round =>
    obtain ⟨i, rfl, rfl, hi, HP, HM, HG⟩ := hrel
    by_cases hin : i = n
    · subst hin
      go_wp2_with fail
      go_ret
      exact ⟨by go_num, HP.out, HM.out, HG.out⟩
    · have h1 : (i : Int) < (n : Int) := by omega
      go_wp2_with fail
      refine (HT.out _ (K + i) (by push_cast; omega) (by omega) (by omega) _).mono ?_
      rintro e w1 ⟨rfl, hb⟩
      have HP1 := hid_intro (HP.out.below hb)
      have HM1 := hid_intro (HM.out.below HP.out hb)
      have HG1 := hid_intro (gtrans HG.out (rgrown hb _))
      obtain ⟨v0, c0⟩ := HP1.out.has i (by omega)
      have f0 := HP1.out.free i (by omega)
      have HS := hid_intro (mark_st HP1.out HM1.out HG1.out (by omega) (.string (mT (K + i))) rfl)
      clear hb HP HM HG HP1 HM1 HG1
      go_wp2_with fail
      go_roundw
      case rel => exact ⟨i + 1, by go_num, by (congr 1) <;> omega, by omega, hid_intro HS.out.1, hid_intro HS.out.2.1, hid_intro HS.out.2.2⟩
      case measure => simp [intOf]; omega
set_option maxRecDepth 100000 in
set_option maxHeartbeats 4000000 in
theorem markH (g n cap K : Nat) (w : World) (hn : n ≤ 1048576) (hK : 1 ≤ K ∧ K ≤ 20000000) (h0 : Pt g (n * 2) w) :
    Calls Tryd.prog 42 #[.slice (some ⟨g, 0, none⟩) n cap, .int .i64 K] w fun e w' => e = .returned (.int .i64 (K + 2 * n : Nat)) ∧ Pt g (n * 2) w' ∧ Wr (mhC K) (n * 2) g w' ∧ w.grownBy w' (some g) := by
  have HP := hid_intro h0
  obtain ⟨k1, k2⟩ := hK
  clear h0
  go_enter Tryd.func42, Tryd.ntmps42
  go_wp2_with fail
  go_loopw [5, 1] (fun x z wr => ∃ i : Nat, x = .int .i64 (i : Int) ∧ z = .int .i64 ((K : Int) + 2 * (i : Int)) ∧ i ≤ n ∧ Hid (Pt g (n * 2) wr) ∧ Hid (Wr (mhC K) (i * 2) g wr) ∧ Hid (w.grownBy wr (some g))) (fun x _ _ => n - (intOf x).toNat)
  case atStart => exact ⟨0, rfl, by simp, by omega, HP, hid_intro (fun o ho => absurd ho (by omega)), hid_intro ⟨rfl, rfl, rfl, Nat.le_refl _, fun _ _ _ => rfl⟩⟩
  case round =>
    obtain ⟨i, rfl, rfl, hi, HP, HM, HG⟩ := hrel
    by_cases hin : i = n
    · subst hin
      go_wp2_with fail
      go_ret
      exact ⟨by go_num, HP.out, HM.out, HG.out⟩
    · have h1 : (i : Int) < (n : Int) := by omega
      obtain ⟨v0, c0⟩ := HP.out.has (i * 2) (by omega)
      have f0 := HP.out.free (i * 2) (by omega)
      obtain ⟨v1, c1⟩ := HP.out.has (i * 2 + 1) (by omega)
      have f1 := HP.out.free (i * 2 + 1) (by omega)
      have HS := hid_intro (mark_st HP.out HM.out HG.out (by omega) (.int .i64 ((K : Int) + 2 * (i : Int))) (by unfold mhC; congr 2; push_cast; omega))
      have HS2 := hid_intro (mark_st HS.out.1 HS.out.2.1 HS.out.2.2 (by omega) (.int .i64 ((K : Int) + 2 * (i : Int) + 1)) (by unfold mhC; congr 2; push_cast; omega))
      clear HP HM HG HS
      go_wp2_with fail
      go_roundw
      case rel => exact ⟨i + 1, by go_num, by (congr 1) <;> omega, by omega, hid_intro HS2.out.1, hid_intro (by rw [show (i + 1) * 2 = i * 2 + 1 + 1 by omega]; exact HS2.out.2.1), hid_intro HS2.out.2.2⟩
      case measure => simp [intOf]; omega
/-- What a round of the marked tags reads. -/
def MTx (w : World) (g o : Nat) (t0 : ByteArray) (W : World) : Prop := Below w.heap.size w W ∧ g < W.heap.size ∧ W.cell? ⟨g, o, none⟩ = some (.string t0)
theorem MTx.below {w w1 w2 : World} {g o : Nat} {t0 : ByteArray} (h : MTx w g o t0 w1) (hb : Below w1.heap.size w1 w2) : MTx w g o t0 w2 :=
  ⟨h.1.trans (hb.mono h.1.size), Nat.lt_of_lt_of_le h.2.1 hb.size, (hb.cell (p := ⟨g, o, none⟩) h.2.1).trans h.2.2⟩
set_option maxRecDepth 100000 in
set_option maxHeartbeats 4000000 in
theorem heldT (g n cap K : Nat) (w : World) (hn : n ≤ 1048576) (hK : 1 ≤ K ∧ K ≤ 10000000) (h0 : g < w.heap.size) (hm : Wr (mtC K) n g w) :
    Calls Tryd.prog 81 #[.slice (some ⟨g, 0, none⟩) n cap, .int .i64 K] w fun e w' => e = .returned (.int .i64 (K + n : Nat)) ∧ Below w.heap.size w w' := by
  have HP := hid_intro h0
  have HM := hid_intro hm
  obtain ⟨k1, k2⟩ := hK
  clear h0 hm
  go_enter Tryd.func81, Tryd.ntmps81
  go_wp2_with fail
  go_loopw [5, 1] (fun x z wr => ∃ i : Nat, x = .int .i64 (i : Int) ∧ z = .int .i64 ((K : Int) + (i : Int)) ∧ i ≤ n ∧ Hid (Below w.heap.size w wr)) (fun x _ _ => n - (intOf x).toNat)
  case atStart => exact ⟨0, rfl, by simp, by omega, hid_intro (Below.refl _ _)⟩
  case round =>
    obtain ⟨i, rfl, rfl, hi, HB⟩ := hrel
    by_cases hin : i = n
    · subst hin
      go_wp2_with fail
      go_ret
      exact ⟨by go_num, HB.out⟩
    · have h1 : (i : Int) < (n : Int) := by omega
      have q0 : wr.cell? ⟨g, i, none⟩ = some (.string (mT (K + i))) := (HB.out.cell (p := ⟨g, i, none⟩) HP.out).trans (HM.out i (by omega))
      have HT0 : Hid (∀ w, Calls Tryd.prog 80 #[.int .i64 ((K : Int) + (i : Int))] w fun e w' => e = .returned (.string (mT (K + i))) ∧ Below w.heap.size w w') := hid_intro (fun w => by have := mark_any (K + i) (by omega) (by omega) w; rw [show ((K + i : Nat) : Int) = (K : Int) + (i : Int) by omega] at this; exact this)
      generalize mT (K + i) = T0 at *
      have hgl : g < wr.heap.size := Nat.lt_of_lt_of_le HP.out HB.out.size
      have HS0 : Hid (MTx w g i T0 wr.drew) := hid_intro (MTx.below ⟨HB.out, hgl, q0⟩ (Below.refl _ _).drew)
      go_wp2_with fail
      go_region_held3 (fun w' => Below w.heap.size w w' ∧ g < w'.heap.size ∧ w'.cell? ⟨g, i, none⟩ = some (.string T0)) (first | assumption | (exact HS0.out) | (exact MTx.below (w := w) (g := g) (o := i) (t0 := T0) (by assumption) hb))
        (first | (go_at_call 80; refine (HT0.out _).mono ?_; rintro e w' ⟨rfl, hb⟩))
      rename_i hS
      have HB2 := hid_intro hS.1
      clear hS HS0 q0
      go_wp2_with fail
      go_roundw
      case rel => exact ⟨i + 1, by go_num, by (congr 1) <;> omega, by omega, HB2⟩
      case measure => simp [intOf]; omega
set_option maxRecDepth 100000 in
set_option maxHeartbeats 4000000 in
theorem heldH (g n cap K : Nat) (w : World) (hn : n ≤ 1048576) (hK : 1 ≤ K ∧ K ≤ 20000000) (h0 : g < w.heap.size) (hm : Wr (mhC K) (n * 2) g w) :
    Calls Tryd.prog 82 #[.slice (some ⟨g, 0, none⟩) n cap, .int .i64 K] w fun e w' => e = .returned (.int .i64 (K + 2 * n : Nat)) ∧ Below w.heap.size w w' := by
  have HP := hid_intro h0
  have HM := hid_intro hm
  obtain ⟨k1, k2⟩ := hK
  clear h0 hm
  go_enter Tryd.func82, Tryd.ntmps82
  go_wp2_with fail
  go_loopw [5, 1] (fun x z wr => ∃ i : Nat, x = .int .i64 (i : Int) ∧ z = .int .i64 ((K : Int) + 2 * (i : Int)) ∧ i ≤ n ∧ Hid (Below w.heap.size w wr)) (fun x _ _ => n - (intOf x).toNat)
  case atStart => exact ⟨0, rfl, by simp, by omega, hid_intro (Below.refl _ _)⟩
  case round =>
    obtain ⟨i, rfl, rfl, hi, HB⟩ := hrel
    by_cases hin : i = n
    · subst hin
      go_wp2_with fail
      go_ret
      exact ⟨by go_num, HB.out⟩
    · have h1 : (i : Int) < (n : Int) := by omega
      have q0 : wr.cell? ⟨g, i * 2, none⟩ = some (.int .i64 ((K : Int) + 2 * (i : Int))) := ((HB.out.cell (p := ⟨g, i * 2, none⟩) HP.out).trans (HM.out (i * 2) (by omega))).trans (by unfold mhC; congr 2; push_cast; omega)
      have q1 : wr.cell? ⟨g, i * 2 + 1, none⟩ = some (.int .i64 ((K : Int) + 2 * (i : Int) + 1)) := ((HB.out.cell (p := ⟨g, i * 2 + 1, none⟩) HP.out).trans (HM.out (i * 2 + 1) (by omega))).trans (by unfold mhC; congr 2; push_cast; omega)
      go_wp2_with fail
      try (go_quiet (fail); go_wp2_with fail)
      go_roundw
      case rel => exact ⟨i + 1, by go_num, by (congr 1) <;> omega, by omega, hid_intro (by first | exact HB.out | exact bdN HB.out _)⟩
      case measure => simp [intOf]; omega
set_option maxHeartbeats 4000000 in
theorem nil_any (f : Nat) (hf : f = 41 ∨ f = 42 ∨ f = 81 ∨ f = 82) (ao : Option Addr) (cap K : Nat) (w : World) (hK : K ≤ 20000000) : Calls Tryd.prog f #[.slice ao 0 cap, .int .i64 K] w fun e w' => e = .returned (.int .i64 K) ∧ Below w.heap.size w w' := by
  rcases hf with rfl | rfl | rfl | rfl
  · go_enter Tryd.func41, Tryd.ntmps41
    go_wp2_with fail
    go_loopw [5, 1] (fun x z wr => x = .int .i64 0 ∧ z = .int .i64 (K : Int) ∧ Hid (Below w.heap.size w wr)) (fun x _ _ => 0)
    case atStart => exact ⟨rfl, rfl, hid_intro (Below.refl _ _)⟩
    case round =>
      obtain ⟨rfl, rfl, HB⟩ := hrel
      go_wp2_with fail
      go_ret
      exact ⟨rfl, HB.out⟩
  · go_enter Tryd.func42, Tryd.ntmps42
    go_wp2_with fail
    go_loopw [5, 1] (fun x z wr => x = .int .i64 0 ∧ z = .int .i64 (K : Int) ∧ Hid (Below w.heap.size w wr)) (fun x _ _ => 0)
    case atStart => exact ⟨rfl, rfl, hid_intro (Below.refl _ _)⟩
    case round =>
      obtain ⟨rfl, rfl, HB⟩ := hrel
      go_wp2_with fail
      go_ret
      exact ⟨rfl, HB.out⟩
  · go_enter Tryd.func81, Tryd.ntmps81
    go_wp2_with fail
    go_loopw [5, 1] (fun x z wr => x = .int .i64 0 ∧ z = .int .i64 (K : Int) ∧ Hid (Below w.heap.size w wr)) (fun x _ _ => 0)
    case atStart => exact ⟨rfl, rfl, hid_intro (Below.refl _ _)⟩
    case round =>
      obtain ⟨rfl, rfl, HB⟩ := hrel
      go_wp2_with fail
      go_ret
      exact ⟨rfl, HB.out⟩
  · go_enter Tryd.func82, Tryd.ntmps82
    go_wp2_with fail
    go_loopw [5, 1] (fun x z wr => x = .int .i64 0 ∧ z = .int .i64 (K : Int) ∧ Hid (Below w.heap.size w wr)) (fun x _ _ => 0)
    case atStart => exact ⟨rfl, rfl, hid_intro (Below.refl _ _)⟩
    case round =>
      obtain ⟨rfl, rfl, HB⟩ := hrel
      go_wp2_with fail
      go_ret
      exact ⟨rfl, HB.out⟩
/-- The marks stand in the window's lists. -/
def MkdW (ta ha : Option Addr) (tl hl K : Nat) (w : World) : Prop := (tl = 0 ∨ ∃ g, ta = some ⟨g, 0, none⟩ ∧ Pt g tl w ∧ Wr (mtC K) tl g w) ∧ (hl = 0 ∨ ∃ g, ha = some ⟨g, 0, none⟩ ∧ Pt g (hl * 2) w ∧ Wr (mhC (K + tl)) (hl * 2) g w)
theorem MkdW.below {ta ha : Option Addr} {tl hl K : Nat} {w w' : World} (h : MkdW ta ha tl hl K w) (hb : Below w.heap.size w w') : MkdW ta ha tl hl K w' :=
  ⟨h.1.imp id (fun ⟨g, e, p, q⟩ => ⟨g, e, p.below hb, q.below p hb⟩), h.2.imp id (fun ⟨g, e, p, q⟩ => ⟨g, e, p.below hb, q.below p hb⟩)⟩
theorem pt_out {base top g m : Nat} {w w' : World} (h : Outs base top w w') (hp : Pt g m w) (hg : g < base ∨ top ≤ g) : Pt g m w' := by
  have e := h.block g hp.lt hg
  exact ⟨Nat.lt_of_lt_of_le hp.lt h.size, fun o ho => by obtain ⟨v, hv⟩ := hp.has o ho; exact ⟨v, (World.cell?_of_block (a := ⟨g, o, none⟩) e).trans hv⟩, fun o ho => (World.frozen?_of_block (a := ⟨g, o, none⟩) e).trans (hp.free o ho)⟩
theorem wr_grown {f : Nat → Option Value} {n g m x : Nat} {w w' : World} (h : Wr f n g w) (hp : Pt g m w) (hg : w.grownBy w' (some x)) (hx : g ≠ x) : Wr f n g w' :=
  fun o ho => (World.cell?_of_block (a := ⟨g, o, none⟩) (hg.block g hp.lt (by simp; exact hx))).trans (h o ho)
theorem pt_grown {g m x : Nat} {w w' : World} (hp : Pt g m w) (hg : w.grownBy w' (some x)) (hx : g ≠ x) : Pt g m w' := by
  have e := hg.block g hp.lt (by simp; exact hx)
  exact ⟨Nat.lt_of_lt_of_le hp.lt hg.size, fun o ho => by obtain ⟨v, hv⟩ := hp.has o ho; exact ⟨v, (World.cell?_of_block (a := ⟨g, o, none⟩) e).trans hv⟩, fun o ho => (World.frozen?_of_block (a := ⟨g, o, none⟩) e).trans (hp.free o ho)⟩
set_option maxRecDepth 100000 in
set_option maxHeartbeats 4000000 in
theorem markW_in (a m : ByteArray) (mo ev su mx : Int) (ta : Option Addr) (tl tc : Nat) (ha : Option Addr) (hl hc K base top : Nat) (w : World) (lt : tl ≤ 1048576) (lh : hl ≤ 1048576) (hK : 1 ≤ K ∧ K ≤ 10000000) (htop : top ≤ w.heap.size)
    (hT : tl = 0 ∨ ∃ g, ta = some ⟨g, 0, none⟩ ∧ base ≤ g ∧ g < top ∧ Pt g tl w) (hH : hl = 0 ∨ ∃ g, ha = some ⟨g, 0, none⟩ ∧ base ≤ g ∧ g < top ∧ Pt g (hl * 2) w) (hA : Apart ta ha tl hl) :
    Calls Tryd.prog 13 #[.agg #[.string a, .string m, .int .i64 mo, .int .i64 ev, .int .i64 su, .int .i64 mx, .slice ta tl tc, .slice ha hl hc], .int .i64 K] w fun e w' => e = .returned (.int .i64 (K + tl + 2 * hl : Nat)) ∧ MkdW ta ha tl hl K w' ∧ Outs base top w w' := by
  have HT : Hid (∀ W, Below w.heap.size w W → Calls Tryd.prog 41 #[.slice ta tl tc, .int .i64 K] W fun e w' => e = .returned (.int .i64 (K + tl : Nat)) ∧ (tl = 0 ∨ ∃ g, ta = some ⟨g, 0, none⟩ ∧ Pt g tl w' ∧ Wr (mtC K) tl g w') ∧ (hl = 0 ∨ ∃ g, ha = some ⟨g, 0, none⟩ ∧ base ≤ g ∧ g < top ∧ Pt g (hl * 2) w') ∧ Outs base top w w' ∧ ∀ b cs, Blk b cs W → b < base ∨ top ≤ b → Blk b cs w') := hid_intro (fun W hW => by
    have O0 := (Outs.refl base top w).below hW
    rcases Nat.eq_zero_or_pos tl with rfl | hpos
    · exact (nil_any _ (.inl rfl) ta tc K W (by omega)).mono fun e w' ⟨e1, e2⟩ => ⟨e1, .inl rfl, hH.imp id (fun ⟨g, q1, q2, q3, q4⟩ => ⟨g, q1, q2, q3, (q4.below hW).below e2⟩), O0.below e2, fun b cs hb _ => hb.below e2⟩
    · obtain ⟨g, rfl, g1, g2, hp⟩ := hT.resolve_left (by omega)
      refine (markT g tl tc K W lt hK (hp.below hW)).mono fun e w' ⟨e1, e2, e3, e4⟩ => ⟨e1, .inr ⟨g, rfl, e2, e3⟩, ?_, O0.grown e4 g1 g2, fun b cs hb hn => ?_⟩
      · rcases Nat.eq_zero_or_pos hl with rfl | hpos2
        · exact .inl rfl
        · obtain ⟨g', rfl, q2, q3, q4⟩ := hH.resolve_left (by omega)
          have := (hA.resolve_left (by omega)).resolve_left (by omega) g 0 g' 0 rfl rfl
          exact .inr ⟨g', rfl, q2, q3, pt_grown (q4.below hW) e4 (fun e => this e.symm)⟩
      · have e := e4.block b hb.1 (by simp; omega)
        exact ⟨Nat.lt_of_lt_of_le hb.1 e4.size, fun i hi => (World.cell?_of_block (a := ⟨b, i, none⟩) e).trans (hb.2 i hi)⟩)
  have HH : Hid (∀ W, Outs base top w W → (tl = 0 ∨ ∃ g, ta = some ⟨g, 0, none⟩ ∧ Pt g tl W ∧ Wr (mtC K) tl g W) → (hl = 0 ∨ ∃ g, ha = some ⟨g, 0, none⟩ ∧ base ≤ g ∧ g < top ∧ Pt g (hl * 2) W) → Calls Tryd.prog 42 #[.slice ha hl hc, .int .i64 (K + tl : Nat)] W fun e w' => e = .returned (.int .i64 (K + tl + 2 * hl : Nat)) ∧ MkdW ta ha tl hl K w' ∧ Outs base top w w') := hid_intro (fun W O0 hm hh => by
    rcases Nat.eq_zero_or_pos hl with rfl | hpos
    · exact (nil_any _ (.inr (.inl rfl)) ha hc (K + tl) W (by omega)).mono fun e w' ⟨e1, e2⟩ => ⟨e1, ⟨hm.imp id (fun ⟨g, q1, q2, q3⟩ => ⟨g, q1, q2.below e2, q3.below q2 e2⟩), .inl rfl⟩, O0.below e2⟩
    · obtain ⟨g, rfl, g1, g2, hp⟩ := hh.resolve_left (by omega)
      refine (markH g hl hc (K + tl) W lh (by omega) hp).mono fun e w' ⟨e1, e2, e3, e4⟩ => ⟨e1, ⟨?_, .inr ⟨g, rfl, e2, e3⟩⟩, O0.grown e4 g1 g2⟩
      rcases Nat.eq_zero_or_pos tl with rfl | hpos2
      · exact .inl rfl
      · obtain ⟨g', rfl, q2, q3⟩ := hm.resolve_left (by omega)
        have := (hA.resolve_left (by omega)).resolve_left (by omega) g' 0 g 0 rfl rfl
        exact .inr ⟨g', rfl, pt_grown q2 e4 this, wr_grown q3 q2 e4 this⟩)
  have HB0 : Hid (Below w.heap.size w (w.alloc (.cells #[.string a, .string m, .int .i64 mo, .int .i64 ev, .int .i64 su, .int .i64 mx, .slice ta tl tc, .slice ha hl hc] 29))) := hid_intro ((Below.refl _ _).alloc (Nat.le_refl _) _)
  have HX0 := hid_intro (Blk.new w [.string a, .string m, .int .i64 mo, .int .i64 ev, .int .i64 su, .int .i64 mx, .slice ta tl tc, .slice ha hl hc] 29)
  have HTP := hid_intro htop
  generalize MkdW ta ha tl hl K = MM at *
  clear hT hH hA htop
  go_enter Tryd.func13, Tryd.ntmps13
  go_wp2_with fail
  refine (HT.out _ HB0.out).mono ?_
  rintro e w1 ⟨rfl, ht1, hh1, ho1, hbk⟩
  have HX1 := hid_intro (hbk _ _ HX0.out (.inr HTP.out))
  have HT1 := hid_intro ht1
  have HH1 := hid_intro hh1
  have HO1 := hid_intro ho1
  clear ht1 hh1 ho1 hbk
  obtain ⟨xl, xc⟩ := HX1.out
  have x7 : w1.cell? ⟨w.heap.size, 7, none⟩ = some (.slice ha hl hc) := xc 7 (by simp)
  clear xc
  go_wp2_with fail
  refine (HH.out _ HO1.out HT1.out HH1.out).mono ?_
  rintro e w2 ⟨rfl, hm2, ho2⟩
  have HM2 := hid_intro hm2
  have HO2 := hid_intro ho2
  clear hm2 ho2
  go_wp2_with fail
  go_ret
  exact ⟨rfl, HM2.out, HO2.out⟩
set_option maxRecDepth 100000 in
set_option maxHeartbeats 4000000 in
theorem heldW_in (a m : ByteArray) (mo ev su mx : Int) (ta : Option Addr) (tl tc : Nat) (ha : Option Addr) (hl hc K : Nat) (w : World) (lt : tl ≤ 1048576) (lh : hl ≤ 1048576) (hK : 1 ≤ K ∧ K ≤ 10000000) (hM : MkdW ta ha tl hl K w) :
    Calls Tryd.prog 43 #[.agg #[.string a, .string m, .int .i64 mo, .int .i64 ev, .int .i64 su, .int .i64 mx, .slice ta tl tc, .slice ha hl hc], .int .i64 K] w fun e w' => e = .returned (.int .i64 (K + tl + 2 * hl : Nat)) ∧ Below w.heap.size w w' := by
  have HT : Hid (∀ W, Below w.heap.size w W → Calls Tryd.prog 81 #[.slice ta tl tc, .int .i64 K] W fun e w' => e = .returned (.int .i64 (K + tl : Nat)) ∧ Below W.heap.size W w') := hid_intro (fun W hW => by
    rcases Nat.eq_zero_or_pos tl with rfl | hpos
    · exact nil_any _ (.inr (.inr (.inl rfl))) ta tc K W (by omega)
    · obtain ⟨g, rfl, q2, q3⟩ := (hM.below hW).1.resolve_left (by omega)
      exact heldT g tl tc K W lt hK q2.lt q3)
  have HH : Hid (∀ W, Below w.heap.size w W → Calls Tryd.prog 82 #[.slice ha hl hc, .int .i64 (K + tl : Nat)] W fun e w' => e = .returned (.int .i64 (K + tl + 2 * hl : Nat)) ∧ Below W.heap.size W w') := hid_intro (fun W hW => by
    rcases Nat.eq_zero_or_pos hl with rfl | hpos
    · exact nil_any _ (.inr (.inr (.inr rfl))) ha hc (K + tl) W (by omega)
    · obtain ⟨g, rfl, q2, q3⟩ := (hM.below hW).2.resolve_left (by omega)
      exact heldH g hl hc (K + tl) W lh (by omega) q2.lt q3)
  have HB0 : Hid (Below w.heap.size w (w.alloc (.cells #[.string a, .string m, .int .i64 mo, .int .i64 ev, .int .i64 su, .int .i64 mx, .slice ta tl tc, .slice ha hl hc] 29))) := hid_intro ((Below.refl _ _).alloc (Nat.le_refl _) _)
  have HX0 := hid_intro (Blk.new w [.string a, .string m, .int .i64 mo, .int .i64 ev, .int .i64 su, .int .i64 mx, .slice ta tl tc, .slice ha hl hc] 29)
  have n1 : ¬ (((K + tl : Nat) : Int) < 0) := by omega
  have n2 : ¬ (((K + tl + 2 * hl : Nat) : Int) < 0) := by omega
  generalize K + tl + 2 * hl = K2 at *
  generalize hK1 : K + tl = K1 at *
  clear hM
  go_enter Tryd.func43, Tryd.ntmps43
  go_wp2_with fail
  refine (HT.out _ HB0.out).mono ?_
  rintro e w1 ⟨rfl, hb1⟩
  have HB1 := hid_intro (HB0.out.trans (hb1.mono HB0.out.size))
  have HX1 := hid_intro (HX0.out.below hb1)
  clear hb1
  obtain ⟨xl, xc⟩ := HX1.out
  have x7 : w1.cell? ⟨w.heap.size, 7, none⟩ = some (.slice ha hl hc) := xc 7 (by simp)
  clear xc
  go_wp2_with fail
  refine (HH.out _ HB1.out).mono ?_
  rintro e w2 ⟨rfl, hb2⟩
  have HB2 := hid_intro (HB1.out.trans (hb2.mono HB1.out.size))
  clear hb2
  go_wp2_with fail
  go_ret
  exact ⟨rfl, HB2.out⟩
/-- A window that was made is marked. -/
theorem markW (base top K : Nat) (x : Wd) (ta : Option Addr) (tc : Nat) (ha : Option Addr) (hc : Nat) (w : World) (lt : x.ts.length ≤ 1048576) (lh : x.hs.length ≤ 1048576) (hK : 1 ≤ K ∧ K ≤ 10000000) (htop : top ≤ w.heap.size)
    (h1 : MadeG 1 tcells tz base ta x.ts w) (h2 : MadeG 2 H.cells H.zero base ha x.hs w) (h3 : Apart ta ha x.ts.length x.hs.length) (t1 : ∀ g, ta = some ⟨g, 0, none⟩ → g < top) (t2 : ∀ g, ha = some ⟨g, 0, none⟩ → g < top) :
    Calls Tryd.prog 13 #[.agg (wcells x ta tc ha hc), .int .i64 K] w fun e w' => e = .returned (.int .i64 (K + x.ts.length + 2 * x.hs.length : Nat)) ∧ MkdW ta ha x.ts.length x.hs.length K w' ∧ Outs base top w w' :=
  markW_in x.a x.m x.mo x.ev x.su x.mx ta x.ts.length tc ha x.hs.length hc K base top w lt lh hK htop (h1.own.imp id (fun ⟨g, e1, e2, e3⟩ => ⟨g, e1, e2, t1 g e1, by rw [Nat.mul_one] at e3; exact e3⟩)) (h2.own.imp id (fun ⟨g, e1, e2, e3⟩ => ⟨g, e1, e2, t2 g e1, e3⟩)) h3
end WinR
end Go.Proofs.YtmeemmbpkjfleaaDoor
namespace Go.Proofs.YtmeemmbpkjfleaaDoor
open Go.ChangeShapes Go.WideShapes Go.ChangeAt Go.RowKit
set_option linter.unusedVariables false
namespace WinR
open RowG (MadeG Rws)
open LtR (lt)
open DateR (Laid)
open CatR (Blk Blk.new)
/-- What is handed back, as cells. -/
def ocells (z : Wd) (ta : Option Addr) (tc : Nat) (ha : Option Addr) (hc : Nat) (cd : Int) : Array Value := #[.string z.a, .string z.m, .int .i64 z.mo, .int .i64 z.ev, .int .i64 z.su, .int .i64 z.mx, .slice ta z.ts.length tc, .slice ha z.hs.length hc, .int .i64 cd]
/-- An answer whose lists lie in blocks from base on. -/
def NewO (base : Nat) (z : Wd) (cd : Int) (v : Value) (w : World) : Prop := ∃ ta tc ha hc, v = .agg (ocells z ta tc ha hc cd) ∧ Tgs ta z.ts w ∧ Hrs ha z.hs w ∧ (z.ts.length = 0 ∨ ∀ b off, ta = some ⟨b, off, none⟩ → base ≤ b) ∧ (z.hs.length = 0 ∨ ∀ b off, ha = some ⟨b, off, none⟩ → base ≤ b)
/-- An answer of one's own. -/
def MadeO (base : Nat) (z : Wd) (cd : Int) (v : Value) (w : World) : Prop := ∃ ta tc ha hc, v = .agg (ocells z ta tc ha hc cd) ∧ MadeG 1 tcells tz base ta z.ts w ∧ MadeG 2 H.cells H.zero base ha z.hs w ∧ Apart ta ha z.ts.length z.hs.length
theorem wz_new_o (base : Nat) (cd : Int) (w : World) : NewO base wz cd (.agg #[.string ⟨#[]⟩, .string ⟨#[]⟩, .int .i64 0, .int .i64 0, .int .i64 0, .int .i64 0, .slice none 0 0, .slice none 0 0, .int .i64 cd]) w :=
  ⟨none, 0, none, 0, rfl, .inl rfl, .inl rfl, .inl rfl, .inl rfl⟩
theorem wz_made_o (base : Nat) (cd : Int) (w : World) : MadeO base wz cd (.agg #[.string ⟨#[]⟩, .string ⟨#[]⟩, .int .i64 0, .int .i64 0, .int .i64 0, .int .i64 0, .slice none 0 0, .slice none 0 0, .int .i64 cd]) w :=
  ⟨none, 0, none, 0, rfl, ⟨.inl rfl, .inl rfl⟩, ⟨.inl rfl, .inl rfl⟩, .inl rfl⟩
theorem made_out {base : Nat} {z : Wd} {cd : Int} {v : Value} {w : World} (h : MadeW base z v w) : MadeO base z cd (outW v cd) w := by
  obtain ⟨ta, tc, ha, hc, rfl, h1, h2, h3⟩ := h
  exact ⟨ta, tc, ha, hc, rfl, h1, h2, h3⟩
theorem slok (g n : Nat) (h : n ≤ 1048576) : SlOk (some ⟨g, 0, none⟩) n n := .inr ⟨g, 0, rfl, Nat.le_refl _, by unfold maxLen; omega⟩
/-- The model's WindowJoin of two windows of one's own. -/
theorem spec_join (x y : Wd) (b1 b2 : Nat) (v1 v2 : Value) (w : World) (h2 : Two x y) (t1 : TwW b1 x v1 w) (t2 : TwW b2 y v2 w) :
    Calls Tryd.prog 8 #[v1, v2] w fun e w' => ∃ v, e = .returned v ∧ (((wB x && wB y) = false ∧ v = .agg #[.string ⟨#[]⟩, .string ⟨#[]⟩, .int .i64 0, .int .i64 0, .int .i64 0, .int .i64 0, .slice none 0 0, .slice none 0 0, .int .i64 1]) ∨ ((wB x && wB y) = true ∧ ∃ base, w.heap.size ≤ base ∧ SPost base (sameW x y) (wB (jw x y)) x.a x.m x.mo (x.ev + y.ev) (x.su + y.su) (max x.mx y.mx) (jw x y).ts (jw x y).hs (.returned v) w')) ∧ Below w.heap.size w w' := by
  obtain ⟨g1, g2, rfl, l1, l2, hn, m1, m2⟩ := t1
  obtain ⟨k1, k2, rfl, j1, j2, jn, n1, n2⟩ := t2
  refine swj_in (fun v base w' => SPost base (sameW x y) (wB (jw x y)) x.a x.m x.mo (x.ev + y.ev) (x.su + y.su) (max x.mx y.mx) (jw x y).ts (jw x y).hs (.returned v) w') (wB x) (wB y) x.a x.m x.mo x.ev x.su x.mx _ x.ts.length x.ts.length _ x.hs.length x.hs.length y.a y.m y.mo y.ev y.su y.mx _ y.ts.length y.ts.length _ y.hs.length y.hs.length w ?_
    (fun W hW => spec_window_right x _ _ _ _ W h2.sx.1 h2.sx.2.1 h2.sx.2.2.1 h2.sx.2.2.2.1 (Tgs.below m1.rws hW) (Hrs.below m2.rws hW))
    (fun W hW => spec_window_right y _ _ _ _ W h2.sy.1 h2.sy.2.1 h2.sy.2.2.1 h2.sy.2.2.2.1 (Tgs.below n1.rws hW) (Hrs.below n2.rws hW)) ?_
  · intro v base W W' g hp hg hlt
    rcases hp with ⟨q1, q2⟩ | ⟨q1, q2, q3⟩ | ⟨q1, q2, ta, tc, ha, hc, q3, q4, q5, q6, q7⟩
    · exact .inl ⟨q1, q2⟩
    · exact .inr (.inl ⟨q1, q2, q3⟩)
    · refine .inr (.inr ⟨q1, q2, ta, tc, ha, hc, q3, Rws.keep q4 hg (.inr (fun b off e => ?_)), Rws.keep q5 hg (.inr (fun b off e => ?_)), q6, q7⟩)
      · have := q6 b off e
        omega
      · have := q7 b off e
        omega
  · intro hx hy W hW
    refine (spec_l07join x y g1 0 x.ts.length g2 0 x.hs.length _ y.ts.length _ y.hs.length W h2 hx hy (Tgs.below m1.rws hW) (Hrs.below m2.rws hW) (Tgs.below n1.rws hW) (Hrs.below n2.rws hW)).mono ?_
    rintro e w' ⟨hp, hb⟩
    have hp' := hp
    rcases hp with ⟨q1, rfl⟩ | ⟨q1, q2, rfl⟩ | ⟨q1, q2, ta, tc, ha, hc, rfl, q4, q5, q6, q7⟩
    · exact ⟨_, _, _, _, _, _, _, _, _, _, _, _, _, rfl, hp', hb⟩
    · exact ⟨_, _, _, _, _, _, _, _, _, _, _, _, _, rfl, hp', hb⟩
    · exact ⟨_, _, _, _, _, _, _, _, _, _, _, _, _, rfl, hp', hb⟩
/-- One answer of both. -/
theorem join_both (x y : Wd) (h2 : Two x y) : ∃ (z : Wd) (cd : Int), z.ts.length ≤ 1048576 ∧ z.hs.length ≤ 1048576 ∧
    (∀ b1 b2 v1 v2 w, Laid w → TwW b1 x v1 w → TwW b2 y v2 w → Calls Tryd.prog 10 #[v1, v2] w fun e w' => ∃ v, e = .returned v ∧ MadeO w.heap.size z cd v w' ∧ Below w.heap.size w w') ∧
    (∀ b1 b2 v1 v2 w, TwW b1 x v1 w → TwW b2 y v2 w → Calls Tryd.prog 8 #[v1, v2] w fun e w' => ∃ v, e = .returned v ∧ NewO w.heap.size z cd v w' ∧ Below w.heap.size w w') := by
  have hi : ∀ b1 b2 v1 v2 w, Laid w → TwW b1 x v1 w → TwW b2 y v2 w → Calls Tryd.prog 10 #[v1, v2] w fun e w' => JPost (wB x) (wB y) (wB (jw x y)) (sameW x y) (jw x y) w.heap.size e w' ∧ Below w.heap.size w w' := by
    rintro b1 b2 v1 v2 w hL ⟨g1, g2, rfl, l1, l2, hn, m1, m2⟩ ⟨k1, k2, rfl, j1, j2, jn, n1, n2⟩
    exact impl_join x y _ _ _ _ _ _ _ _ w h2 hL (slok _ _ h2.sx.2.2.1) (slok _ _ h2.sx.2.2.2.2) (slok _ _ h2.sy.2.2.1) (slok _ _ h2.sy.2.2.2.2) m1.rws m2.rws n1.rws n2.rws
  have hs := fun b1 b2 v1 v2 w t1 t2 => spec_join x y b1 b2 v1 v2 w h2 t1 t2
  by_cases hr : (wB x && wB y) = false
  · refine ⟨wz, 1, by simp [wz], by simp [wz], fun b1 b2 v1 v2 w hL t1 t2 => (hi b1 b2 v1 v2 w hL t1 t2).mono ?_, fun b1 b2 v1 v2 w t1 t2 => (hs b1 b2 v1 v2 w t1 t2).mono ?_⟩
    · rintro e w' ⟨⟨_, rfl⟩ | ⟨q, _⟩ | ⟨q, _⟩ | ⟨q, _⟩, hb⟩
      · exact ⟨_, rfl, wz_made_o _ _ _, hb⟩
      all_goals (rw [hr] at q; cases q)
    · rintro e w' ⟨v, rfl, ⟨_, rfl⟩ | ⟨q, _⟩, hb⟩
      · exact ⟨_, rfl, wz_new_o _ _ _, hb⟩
      · rw [hr] at q; cases q
  · by_cases hm : sameW x y
    · cases h3 : wB (jw x y)
      · refine ⟨wz, 9, by simp [wz], by simp [wz], fun b1 b2 v1 v2 w hL t1 t2 => (hi b1 b2 v1 v2 w hL t1 t2).mono ?_, fun b1 b2 v1 v2 w t1 t2 => (hs b1 b2 v1 v2 w t1 t2).mono ?_⟩
        · rintro e w' ⟨⟨q, _⟩ | ⟨_, q, _⟩ | ⟨_, _, _, rfl⟩ | ⟨_, _, q, _⟩, hb⟩
          · exact absurd q hr
          · exact absurd hm q
          · exact ⟨_, rfl, wz_made_o _ _ _, hb⟩
          · rw [h3] at q; cases q
        · rintro e w' ⟨v, rfl, ⟨q, _⟩ | ⟨_, base, _, ⟨q, _⟩ | ⟨_, _, e⟩ | ⟨_, q, _⟩⟩, hb⟩
          · exact absurd q hr
          · exact absurd hm q
          · cases e
            exact ⟨_, rfl, wz_new_o _ _ _, hb⟩
          · rw [h3] at q; cases q
      · refine ⟨jw x y, 0, h2.jlt, h2.jlh, fun b1 b2 v1 v2 w hL t1 t2 => (hi b1 b2 v1 v2 w hL t1 t2).mono ?_, fun b1 b2 v1 v2 w t1 t2 => (hs b1 b2 v1 v2 w t1 t2).mono ?_⟩
        · rintro e w' ⟨⟨q, _⟩ | ⟨_, q, _⟩ | ⟨_, _, q, _⟩ | ⟨_, _, _, v, rfl, hv⟩, hb⟩
          · exact absurd q hr
          · exact absurd hm q
          · rw [h3] at q; cases q
          · exact ⟨_, rfl, made_out hv, hb⟩
        · rintro e w' ⟨v, rfl, ⟨q, _⟩ | ⟨_, base, hbase, ⟨q, _⟩ | ⟨_, q, _⟩ | ⟨_, _, ta, tc, ha, hc, e, q4, q5, q6, q7⟩⟩, hb⟩
          · exact absurd q hr
          · exact absurd hm q
          · rw [h3] at q; cases q
          · cases e
            exact ⟨_, rfl, ⟨ta, tc, ha, hc, rfl, q4, q5, .inr (fun b off e => Nat.le_trans hbase (q6 b off e)), .inr (fun b off e => Nat.le_trans hbase (q7 b off e))⟩, hb⟩
    · refine ⟨wz, 10, by simp [wz], by simp [wz], fun b1 b2 v1 v2 w hL t1 t2 => (hi b1 b2 v1 v2 w hL t1 t2).mono ?_, fun b1 b2 v1 v2 w t1 t2 => (hs b1 b2 v1 v2 w t1 t2).mono ?_⟩
      · rintro e w' ⟨⟨q, _⟩ | ⟨_, _, rfl⟩ | ⟨_, q, _⟩ | ⟨_, q, _⟩, hb⟩
        · exact absurd q hr
        · exact ⟨_, rfl, wz_made_o _ _ _, hb⟩
        · exact absurd q hm
        · exact absurd q hm
      · rintro e w' ⟨v, rfl, ⟨q, _⟩ | ⟨_, base, _, ⟨_, e⟩ | ⟨q, _⟩ | ⟨q, _⟩⟩, hb⟩
        · exact absurd q hr
        · cases e
          exact ⟨_, rfl, wz_new_o _ _ _, hb⟩
        · exact absurd q hm
        · exact absurd q hm
end WinR
end Go.Proofs.YtmeemmbpkjfleaaDoor
namespace Go.Proofs.YtmeemmbpkjfleaaDoor
open Go.ChangeShapes Go.WideShapes Go.ChangeAt Go.RowKit
set_option linter.unusedVariables false
namespace WinR
open RowG (MadeG Rws)
open EvtR (Pt)
open CatR (Blk Blk.new)
def IsO (v : Value) (z : Wd) (cd : Int) (w : World) : Prop := ∃ ta tc ha hc, v = .agg (ocells z ta tc ha hc cd) ∧ Tgs ta z.ts w ∧ Hrs ha z.hs w
theorem IsO.below {v : Value} {z : Wd} {cd : Int} {w w' : World} (h : IsO v z cd w) (hb : Below w.heap.size w w') : IsO v z cd w' := by
  obtain ⟨ta, tc, ha, hc, e, h1, h2⟩ := h
  exact ⟨ta, tc, ha, hc, e, h1.below hb, h2.below hb⟩
theorem NewO.is {base : Nat} {z : Wd} {cd : Int} {v : Value} {w : World} (h : NewO base z cd v w) : IsO v z cd w := by
  obtain ⟨ta, tc, ha, hc, e, h1, h2, _⟩ := h
  exact ⟨ta, tc, ha, hc, e, h1, h2⟩
theorem MadeO.is {base : Nat} {z : Wd} {cd : Int} {v : Value} {w : World} (h : MadeO base z cd v w) : IsO v z cd w := by
  obtain ⟨ta, tc, ha, hc, e, h1, h2, _⟩ := h
  exact ⟨ta, tc, ha, hc, e, h1.rws, h2.rws⟩
set_option maxRecDepth 100000 in
set_option maxHeartbeats 8000000 in
theorem eqO_in (a m : ByteArray) (mo ev su mx cd : Int) (ta : Option Addr) (tl tc : Nat) (ha : Option Addr) (hl hc : Nat) (ta' : Option Addr) (tc' : Nat) (ha' : Option Addr) (hc' : Nat) (w : World)
    (hE : ∀ W, Below w.heap.size w W → Calls Tryd.prog 12 #[.agg #[.string a, .string m, .int .i64 mo, .int .i64 ev, .int .i64 su, .int .i64 mx, .slice ta tl tc, .slice ha hl hc], .agg #[.string a, .string m, .int .i64 mo, .int .i64 ev, .int .i64 su, .int .i64 mx, .slice ta' tl tc', .slice ha' hl hc']] W fun e w' => e = .returned (.bool true) ∧ Below W.heap.size W w') :
    Calls Tryd.prog 11 #[.agg #[.string a, .string m, .int .i64 mo, .int .i64 ev, .int .i64 su, .int .i64 mx, .slice ta tl tc, .slice ha hl hc, .int .i64 cd], .agg #[.string a, .string m, .int .i64 mo, .int .i64 ev, .int .i64 su, .int .i64 mx, .slice ta' tl tc', .slice ha' hl hc', .int .i64 cd]] w fun e w' => e = .returned (.bool true) ∧ Below w.heap.size w w' := by
  have HE := hid_intro hE
  clear hE
  have HA0 : Hid (Below w.heap.size w ((w.alloc (.cells #[.string a, .string m, .int .i64 mo, .int .i64 ev, .int .i64 su, .int .i64 mx, .slice ta tl tc, .slice ha hl hc, .int .i64 cd] 31)).alloc (.cells #[.string a, .string m, .int .i64 mo, .int .i64 ev, .int .i64 su, .int .i64 mx, .slice ta' tl tc', .slice ha' hl hc', .int .i64 cd] 31))) := hid_intro (((Below.refl _ _).alloc (by simp; try omega) _).alloc (by simp; try omega) _)
  have HX0 := hid_intro ((Blk.new w [.string a, .string m, .int .i64 mo, .int .i64 ev, .int .i64 su, .int .i64 mx, .slice ta tl tc, .slice ha hl hc, .int .i64 cd] 31).below ((Below.refl _ _).alloc (Nat.le_refl _) (.cells #[.string a, .string m, .int .i64 mo, .int .i64 ev, .int .i64 su, .int .i64 mx, .slice ta' tl tc', .slice ha' hl hc', .int .i64 cd] 31)))
  have HY0 := hid_intro (Blk.new (w.alloc (.cells #[.string a, .string m, .int .i64 mo, .int .i64 ev, .int .i64 su, .int .i64 mx, .slice ta tl tc, .slice ha hl hc, .int .i64 cd] 31)) [.string a, .string m, .int .i64 mo, .int .i64 ev, .int .i64 su, .int .i64 mx, .slice ta' tl tc', .slice ha' hl hc', .int .i64 cd] 31)
  have e1 : (w.alloc (.cells #[.string a, .string m, .int .i64 mo, .int .i64 ev, .int .i64 su, .int .i64 mx, .slice ta tl tc, .slice ha hl hc, .int .i64 cd] 31)).heap.size = w.heap.size + 1 := by simp
  rw [e1] at HY0
  clear e1
  go_enter Tryd.func11, Tryd.ntmps11
  go_wp2_with fail
  refine (HE.out _ HA0.out).mono ?_
  rintro e w1 ⟨rfl, hb1⟩
  have HB1 := hid_intro (HA0.out.trans (hb1.mono HA0.out.size))
  have hx := HX0.out.below hb1
  have hy := HY0.out.below hb1
  have x8 : w1.cell? ⟨w.heap.size, 8, none⟩ = some (.int .i64 cd) := hx.2 8 (by simp)
  have y8 : w1.cell? ⟨w.heap.size + 1, 8, none⟩ = some (.int .i64 cd) := hy.2 8 (by simp)
  have xl := hx.1
  have yl := hy.1
  clear hx hy hb1 HX0 HY0 HA0
  go_wp2_with fail
  go_ret
  exact ⟨rfl, HB1.out⟩
theorem eqO_any (v v' : Value) (z : Wd) (cd : Int) (w : World) (lt : z.ts.length ≤ 1048576) (lh : z.hs.length ≤ 1048576) (h : IsO v z cd w) (h' : IsO v' z cd w) :
    Calls Tryd.prog 11 #[v, v'] w fun e w' => e = .returned (.bool true) ∧ Below w.heap.size w w' := by
  obtain ⟨ta, tc, ha, hc, rfl, h1, h2⟩ := h
  obtain ⟨ta', tc', ha', hc', rfl, h1', h2'⟩ := h'
  exact eqO_in z.a z.m z.mo z.ev z.su z.mx cd ta z.ts.length tc ha z.hs.length hc ta' tc' ha' hc' w (fun W hW => eqW_any _ _ z W lt lh ⟨ta, tc, ha, hc, rfl, h1.below hW, h2.below hW⟩ ⟨ta', tc', ha', hc', rfl, h1'.below hW, h2'.below hW⟩)
set_option maxRecDepth 100000 in
set_option maxHeartbeats 8000000 in
theorem markO_in (D : World → Prop) (a m : ByteArray) (mo ev su mx cd Q : Int) (ta : Option Addr) (tl tc : Nat) (ha : Option Addr) (hl hc base top : Nat) (w : World)
    (hG : ∀ W, Below w.heap.size w W → Calls Tryd.prog 13 #[.agg #[.string a, .string m, .int .i64 mo, .int .i64 ev, .int .i64 su, .int .i64 mx, .slice ta tl tc, .slice ha hl hc], .int .i64 1] W fun e w' => e = .returned (.int .i64 Q) ∧ D w' ∧ Outs base top W w') :
    Calls Tryd.prog 14 #[.agg #[.string a, .string m, .int .i64 mo, .int .i64 ev, .int .i64 su, .int .i64 mx, .slice ta tl tc, .slice ha hl hc, .int .i64 cd], .int .i64 1] w fun e w' => e = .returned (.int .i64 Q) ∧ D w' ∧ Outs base top w w' := by
  have HG := hid_intro hG
  clear hG
  have HA0 : Hid (Below w.heap.size w (w.alloc (.cells #[.string a, .string m, .int .i64 mo, .int .i64 ev, .int .i64 su, .int .i64 mx, .slice ta tl tc, .slice ha hl hc, .int .i64 cd] 31))) := hid_intro ((Below.refl _ _).alloc (Nat.le_refl _) _)
  go_enter Tryd.func14, Tryd.ntmps14
  go_wp2_with fail
  refine (HG.out _ HA0.out).mono ?_
  rintro e w1 ⟨rfl, hD, ho⟩
  have HD := hid_intro hD
  have HO := hid_intro (((Outs.refl base top w).below HA0.out).trans ho)
  clear hD ho
  go_wp2_with fail
  go_ret
  exact ⟨rfl, HD.out, HO.out⟩
set_option maxRecDepth 100000 in
set_option maxHeartbeats 8000000 in
theorem heldO_in (a m : ByteArray) (mo ev su mx cd Q : Int) (hQ : ¬ Q < 0) (ta : Option Addr) (tl tc : Nat) (ha : Option Addr) (hl hc : Nat) (w : World)
    (hG : ∀ W, Below w.heap.size w W → Calls Tryd.prog 43 #[.agg #[.string a, .string m, .int .i64 mo, .int .i64 ev, .int .i64 su, .int .i64 mx, .slice ta tl tc, .slice ha hl hc], .int .i64 1] W fun e w' => e = .returned (.int .i64 Q) ∧ Below W.heap.size W w') :
    Calls Tryd.prog 15 #[.agg #[.string a, .string m, .int .i64 mo, .int .i64 ev, .int .i64 su, .int .i64 mx, .slice ta tl tc, .slice ha hl hc, .int .i64 cd], .int .i64 1] w fun e w' => e = .returned (.int .i64 Q) ∧ Below w.heap.size w w' := by
  have HG := hid_intro hG
  clear hG
  have HA0 : Hid (Below w.heap.size w (w.alloc (.cells #[.string a, .string m, .int .i64 mo, .int .i64 ev, .int .i64 su, .int .i64 mx, .slice ta tl tc, .slice ha hl hc, .int .i64 cd] 31))) := hid_intro ((Below.refl _ _).alloc (Nat.le_refl _) _)
  go_enter Tryd.func15, Tryd.ntmps15
  go_wp2_with fail
  refine (HG.out _ HA0.out).mono ?_
  rintro e w1 ⟨rfl, hb⟩
  have HO := hid_intro (HA0.out.trans (hb.mono HA0.out.size))
  clear hb
  go_wp2_with fail
  go_ret
  exact ⟨rfl, HO.out⟩
end WinR
end Go.Proofs.YtmeemmbpkjfleaaDoor
namespace Go.Proofs.YtmeemmbpkjfleaaDoor
open Go.ChangeShapes Go.WideShapes Go.ChangeAt Go.RowKit
set_option linter.unusedVariables false
namespace CatR
/-- A tier, a credit, a meter, a catalog. -/
structure Ti where
  u : Int
  p : Int
structure Cr where
  a : ByteArray
  m : Int
structure Me where
  n : ByteArray
  g : Int
  wh : Bool
  f : Int
  l : Int
  ts : List Ti
structure Ca where
  ms : List Me
  cs : List Cr
def Ti.zero : Ti := ⟨0, 0⟩
def Cr.zero : Cr := ⟨⟨#[]⟩, 0⟩
def Me.zero : Me := ⟨⟨#[]⟩, 0, false, 0, 0, []⟩
/-- The cells of a tier, of a credit stand at a place. -/
def TiAt (w : World) (b o : Nat) (t : Ti) : Prop := w.cell? ⟨b, o, none⟩ = some (.int .i64 t.u) ∧ w.cell? ⟨b, o + 1, none⟩ = some (.int .i64 t.p)
def CrAt (w : World) (b o : Nat) (t : Cr) : Prop := w.cell? ⟨b, o, none⟩ = some (.string t.a) ∧ w.cell? ⟨b, o + 1, none⟩ = some (.int .i64 t.m)
/-- The row holds these tiers, these credits; it lies in none of the shunned blocks. -/
def Tis (ao : Option Addr) (len : Nat) (ts : List Ti) (w : World) : Prop := ts.length = len ∧ (len = 0 ∨ ∃ b off, ao = some ⟨b, off, none⟩ ∧ b < w.heap.size ∧ ∀ j, j < len → TiAt w b (off + j * 2) (ts.getD j Ti.zero))
def Crs (ao : Option Addr) (len : Nat) (ts : List Cr) (w : World) : Prop := ts.length = len ∧ (len = 0 ∨ ∃ b off, ao = some ⟨b, off, none⟩ ∧ b < w.heap.size ∧ ∀ j, j < len → CrAt w b (off + j * 2) (ts.getD j Cr.zero))
/-- A meter's cells at a place, its tiers elsewhere. -/
def MeAt (w : World) (b o : Nat) (m : Me) : Prop := ∃ ta tc, w.cell? ⟨b, o, none⟩ = some (.string m.n) ∧ w.cell? ⟨b, o + 1, none⟩ = some (.int .i64 m.g) ∧ w.cell? ⟨b, o + 2, none⟩ = some (.bool m.wh) ∧ w.cell? ⟨b, o + 3, none⟩ = some (.int .i64 m.f) ∧ w.cell? ⟨b, o + 4, none⟩ = some (.int .i64 m.l) ∧ w.cell? ⟨b, o + 5, none⟩ = some (.slice ta m.ts.length tc) ∧ Tis ta m.ts.length m.ts w
def Mes (ao : Option Addr) (len : Nat) (ms : List Me) (w : World) : Prop := ms.length = len ∧ (len = 0 ∨ ∃ b off, ao = some ⟨b, off, none⟩ ∧ b < w.heap.size ∧ ∀ j, j < len → MeAt w b (off + j * 6) (ms.getD j Me.zero))
/-- A meter's value, a catalog's. -/
def IsMe (v : Value) (m : Me) (w : World) : Prop := ∃ ta tc, v = .agg #[.string m.n, .int .i64 m.g, .bool m.wh, .int .i64 m.f, .int .i64 m.l, .slice ta m.ts.length tc] ∧ Tis ta m.ts.length m.ts w
def IsCa (v : Value) (c : Ca) (w : World) : Prop := ∃ ma mc ca cc, v = .agg #[.slice ma c.ms.length mc, .slice ca c.cs.length cc] ∧ Mes ma c.ms.length c.ms w ∧ Crs ca c.cs.length c.cs w
theorem TiAt.below {w w' : World} {b o : Nat} {e : Ti} (h : TiAt w b o e) (hl : b < w.heap.size) (hb : Below w.heap.size w w') : TiAt w' b o e :=
  ⟨(hb.cell (p := ⟨b, o, none⟩) hl).trans h.1, (hb.cell (p := ⟨b, o + 1, none⟩) hl).trans h.2⟩
theorem CrAt.below {w w' : World} {b o : Nat} {e : Cr} (h : CrAt w b o e) (hl : b < w.heap.size) (hb : Below w.heap.size w w') : CrAt w' b o e :=
  ⟨(hb.cell (p := ⟨b, o, none⟩) hl).trans h.1, (hb.cell (p := ⟨b, o + 1, none⟩) hl).trans h.2⟩
theorem Tis.below {ao : Option Addr} {len : Nat} {es : List Ti} {w w' : World} (h : Tis ao len es w) (hb : Below w.heap.size w w') : Tis ao len es w' := by
  refine ⟨h.1, ?_⟩
  rcases h.2 with h0 | ⟨b, off, rfl, hlt, hc⟩
  · exact .inl h0
  · exact .inr ⟨b, off, rfl, by have := hb.size; omega, fun j hj => (hc j hj).below hlt hb⟩
theorem Crs.below {ao : Option Addr} {len : Nat} {es : List Cr} {w w' : World} (h : Crs ao len es w) (hb : Below w.heap.size w w') : Crs ao len es w' := by
  refine ⟨h.1, ?_⟩
  rcases h.2 with h0 | ⟨b, off, rfl, hlt, hc⟩
  · exact .inl h0
  · exact .inr ⟨b, off, rfl, by have := hb.size; omega, fun j hj => (hc j hj).below hlt hb⟩
theorem MeAt.below {w w' : World} {b o : Nat} {e : Me} (h : MeAt w b o e) (hl : b < w.heap.size) (hb : Below w.heap.size w w') : MeAt w' b o e := by
  obtain ⟨ta, tc, h0, h1, h2, h3, h4, h5, h6⟩ := h
  have f := fun k => hb.cell (p := ⟨b, k, none⟩) hl
  exact ⟨ta, tc, (f _).trans h0, (f _).trans h1, (f _).trans h2, (f _).trans h3, (f _).trans h4, (f _).trans h5, h6.below hb⟩
theorem Mes.below {ao : Option Addr} {len : Nat} {es : List Me} {w w' : World} (h : Mes ao len es w) (hb : Below w.heap.size w w') : Mes ao len es w' := by
  refine ⟨h.1, ?_⟩
  rcases h.2 with h0 | ⟨b, off, rfl, hlt, hc⟩
  · exact .inl h0
  · exact .inr ⟨b, off, rfl, by have := hb.size; omega, fun j hj => (hc j hj).below hlt hb⟩
theorem IsMe.below {v : Value} {m : Me} {w w' : World} (h : IsMe v m w) (hb : Below w.heap.size w w') : IsMe v m w' := by
  obtain ⟨ta, tc, hv, ht⟩ := h
  exact ⟨ta, tc, hv, ht.below hb⟩
theorem IsCa.below {v : Value} {m : Ca} {w w' : World} (h : IsCa v m w) (hb : Below w.heap.size w w') : IsCa v m w' := by
  obtain ⟨ma, mc, ca, cc, hv, h1, h2⟩ := h
  exact ⟨ma, mc, ca, cc, hv, h1.below hb, h2.below hb⟩
theorem tis_at {ao : Option Addr} {len : Nat} {es : List Ti} {w : World} (h : Tis ao len es w) (k : Nat) (hk : k < len) : ∃ b off, ao = some ⟨b, off, none⟩ ∧ b < w.heap.size ∧ TiAt w b (off + k * 2) (es.getD k Ti.zero) := by
  rcases h.2 with h0 | ⟨b, off, rfl, hlt, hc⟩
  · omega
  · exact ⟨b, off, rfl, hlt, hc k hk⟩
theorem crs_at {ao : Option Addr} {len : Nat} {es : List Cr} {w : World} (h : Crs ao len es w) (k : Nat) (hk : k < len) : ∃ b off, ao = some ⟨b, off, none⟩ ∧ b < w.heap.size ∧ CrAt w b (off + k * 2) (es.getD k Cr.zero) := by
  rcases h.2 with h0 | ⟨b, off, rfl, hlt, hc⟩
  · omega
  · exact ⟨b, off, rfl, hlt, hc k hk⟩
theorem mes_at {ao : Option Addr} {len : Nat} {es : List Me} {w : World} (h : Mes ao len es w) (k : Nat) (hk : k < len) : ∃ b off, ao = some ⟨b, off, none⟩ ∧ b < w.heap.size ∧ MeAt w b (off + k * 6) (es.getD k Me.zero) := by
  rcases h.2 with h0 | ⟨b, off, rfl, hlt, hc⟩
  · omega
  · exact ⟨b, off, rfl, hlt, hc k hk⟩
theorem getD_memG {α : Type} (es : List α) (d : α) (k : Nat) (h : k < es.length) : es.getD k d ∈ es := by
  have : es.getD k d = es[k] := by simp [List.getD, h]
  rw [this]; exact List.getElem_mem h
theorem Tis.nil (ao : Option Addr) (w : World) : Tis ao 0 [] w := ⟨rfl, .inl rfl⟩
end CatR
end Go.Proofs.YtmeemmbpkjfleaaDoor
namespace Go.Proofs.YtmeemmbpkjfleaaDoor
open Go.ChangeShapes Go.WideShapes Go.ChangeAt Go.RowKit Go.Deep
set_option linter.unusedVariables false
namespace CatR
section
variable {H : Type} {enc : TypeId × Value → H} {P : Program} {w : World} {base : Nat} {spare : Nat → Bool} {held : Bool}
theorem lst2 {α : Type} {cs : List α} (h : cs.length = 2) : ∃ c0 c1, cs = [c0, c1] := by
  match cs, h with
  | [c0, c1], _ => exact ⟨c0, c1, rfl⟩
theorem lst6 {α : Type} {cs : List α} (h : cs.length = 6) : ∃ c0 c1 c2 c3 c4 c5, cs = [c0, c1, c2, c3, c4, c5] := by
  match cs, h with
  | [c0, c1, c2, c3, c4, c5], _ => exact ⟨c0, c1, c2, c3, c4, c5, rfl⟩
theorem cellsAt {a : Addr} {cs : List Value} {n : Nat} (h : w.cells? base a n = some cs) (j : Nat) (hj : j < n) : w.cell? (a.add j) = cs[j]? := by
  obtain ⟨_, h1, h2⟩ := World.cells?_some h
  exact h2 j hj
/-- A row that came in: each element by what its cells are. -/
theorem row_open {α : Type} (sz : Nat) (cel : α → List Value → Prop) (d : α) {t e : TypeId} {fuel : Nat} {ao : Option Addr} {len cap : Nat} {x : DataW H × List MemPlace} (ht : P.underlying t = some (.slice e)) (hC : P.cellsOf e = sz) (hsz : 0 < sz)
    (key : ∀ fuel cs x, DataW.trod enc P w base spare held fuel e cs = some x → ∃ a, cel a cs ∧ cs.length = sz)
    (h : DataW.trod enc P w base spare held fuel t [.slice ao len cap] = some x) :
    len ≤ maxLen ∧ ∃ f : Nat → α, (∀ j, j < len → ∃ cs, cel (f j) cs) ∧ (len = 0 ∨ ∃ b off, ao = some ⟨b, off, none⟩ ∧ b < w.heap.size ∧ ∀ j, j < len → ∃ cs, cel (f j) cs ∧ ∀ i, i < sz → w.cell? ⟨b, off + j * sz + i, none⟩ = cs[i]?) := by
  rcases DataW.trod_slice ht h with ⟨hcs, _⟩ | ⟨a, len', cap', elems, rest, n, _, hcs, _, hb, hl, hm, hlen, hel, _, _⟩
  · simp only [List.cons.injEq, Value.slice.injEq, and_true] at hcs
    obtain ⟨rfl, rfl, rfl⟩ := hcs
    exact ⟨Nat.zero_le _, fun _ => d, fun j hj => absurd hj (by omega), .inl rfl⟩
  · simp only [List.cons.injEq, Value.slice.injEq, and_true] at hcs
    obtain ⟨rfl, rfl, rfl⟩ := hcs
    have key2 : ∀ i, i < len → ∃ E1 : α, ∃ cs, cel E1 cs ∧ cs.length = sz ∧ w.cells? base (a.add (i * sz)) sz = some cs := by
      intro i hi
      have h1 := hel i hi
      rw [hC, List.getElem?_eq_getElem (by omega)] at h1
      cases hc : w.cells? base (a.add (i * sz)) sz with
      | none => rw [hc] at h1; simp at h1
      | some cs =>
        rw [hc] at h1
        simp only [Option.bind_some] at h1
        obtain ⟨E1, q1, q2⟩ := key _ _ _ h1
        exact ⟨E1, cs, q1, q2, rfl⟩
    have : ∃ f : Nat → α, ∀ i, i < len → ∃ cs, cel (f i) cs ∧ cs.length = sz ∧ w.cells? base (a.add (i * sz)) sz = some cs := by
      refine ⟨fun i => if hi : i < len then Classical.choose (key2 i hi) else d, fun i hi => ?_⟩
      simp only [hi, dif_pos]
      exact Classical.choose_spec (key2 i hi)
    obtain ⟨f, hf⟩ := this
    refine ⟨by omega, f, fun j hj => by obtain ⟨cs, h1, _⟩ := hf j hj; exact ⟨cs, h1⟩, ?_⟩
    by_cases h0 : len = 0
    · exact .inl h0
    · obtain ⟨b, off, spot⟩ := a
      obtain ⟨cs0, g0, g1, g2⟩ := hf 0 (by omega)
      have hc0 := cellsAt g2 0 hsz
      rw [List.getElem?_eq_getElem (by omega)] at hc0
      have hc1 : w.cell? ⟨b, off, spot⟩ = some cs0[0] := by simpa [Addr.add] using hc0
      obtain rfl : spot = none := World.cell?_spot hc1
      refine .inr ⟨b, off, rfl, World.block_lt_of_cell? w _ hc1, fun j hj => ?_⟩
      obtain ⟨cs, q1, q2, q3⟩ := hf j hj
      refine ⟨cs, q1, fun i hi => ?_⟩
      have g := cellsAt q3 i hi
      have ad : ((⟨b, off, none⟩ : Addr).add (j * sz)).add i = ⟨b, off + j * sz + i, none⟩ := by
        unfold Addr.add
        split <;> split <;> simp_all
      rw [ad] at g
      exact g
theorem lst_getD {α : Type} (f : Nat → α) (d : α) (len j : Nat) (hj : j < len) : ((List.range len).map f).getD j d = f j := by simp [List.getD, hj]
theorem tis_open {t e : TypeId} {f0 f1 : Field} {fuel : Nat} {ao : Option Addr} {len cap : Nat} {x : DataW H × List MemPlace} (ht : P.underlying t = some (.slice e)) (hs : P.underlying e = some (.struct #[f0, f1])) (hone : oneCellFields P #[f0, f1] = true) (hC : P.cellsOf e = 2)
    (u0 : P.underlying f0.type = some (.int .i64)) (u1 : P.underlying f1.type = some (.int .i64))
    (h : DataW.trod enc P w base spare held fuel t [.slice ao len cap] = some x) : len ≤ maxLen ∧ ∃ ts : List Ti, ts.length = len ∧ Tis ao len ts w := by
  obtain ⟨h1, f, _, h2⟩ := row_open 2 (fun (a : Ti) cs => cs = [.int .i64 a.u, .int .i64 a.p]) Ti.zero ht hC (by omega) (fun fuel cs x h => by
    obtain ⟨xs, n, _, _, hl, hlen, hf⟩ := DataW.trod_struct hs h
    obtain ⟨c0, c1, rfl⟩ := lst2 (hl.trans hC)
    obtain ⟨y0, y1, rfl⟩ := lst2 (show xs.length = 2 from hlen)
    obtain ⟨o0, k0⟩ := hone_of hone 0 f0 rfl
    obtain ⟨o1, k1⟩ := hone_of hone 1 f1 rfl
    have h0 := hf 0 f0 rfl
    have h1 := hf 1 f1 rfl
    simp [o0, k0] at h0
    simp [o1, k1] at h1
    obtain ⟨p, e0, _, _⟩ := DataW.trod_int u0 h0
    obtain ⟨q, e1, _, _⟩ := DataW.trod_int u1 h1
    simp only [List.cons.injEq, and_true] at e0 e1
    subst e0 e1
    exact ⟨⟨p, q⟩, rfl, rfl⟩) h
  refine ⟨h1, (List.range len).map f, by simp, by simp, ?_⟩
  rcases h2 with h2 | ⟨b, off, rfl, hb, hc⟩
  · exact .inl h2
  · refine .inr ⟨b, off, rfl, hb, fun j hj => ?_⟩
    obtain ⟨cs, rfl, g⟩ := hc j hj
    rw [lst_getD f _ len j hj]
    exact ⟨g 0 (by omega), g 1 (by omega)⟩
theorem crs_open {t e : TypeId} {f0 f1 : Field} {fuel : Nat} {ao : Option Addr} {len cap : Nat} {x : DataW H × List MemPlace} (ht : P.underlying t = some (.slice e)) (hs : P.underlying e = some (.struct #[f0, f1])) (hone : oneCellFields P #[f0, f1] = true) (hC : P.cellsOf e = 2)
    (u0 : P.underlying f0.type = some .string) (u1 : P.underlying f1.type = some (.int .i64))
    (h : DataW.trod enc P w base spare held fuel t [.slice ao len cap] = some x) : len ≤ maxLen ∧ ∃ cs : List Cr, cs.length = len ∧ (∀ i, i < len → (cs.getD i Cr.zero).a.size ≤ maxLen) ∧ Crs ao len cs w := by
  obtain ⟨h1, f, hq, h2⟩ := row_open 2 (fun (a : Cr) cs => cs = [.string a.a, .int .i64 a.m] ∧ a.a.size ≤ maxLen) Cr.zero ht hC (by omega) (fun fuel cs x h => by
    obtain ⟨xs, n, _, _, hl, hlen, hf⟩ := DataW.trod_struct hs h
    obtain ⟨c0, c1, rfl⟩ := lst2 (hl.trans hC)
    obtain ⟨y0, y1, rfl⟩ := lst2 (show xs.length = 2 from hlen)
    obtain ⟨o0, k0⟩ := hone_of hone 0 f0 rfl
    obtain ⟨o1, k1⟩ := hone_of hone 1 f1 rfl
    have h0 := hf 0 f0 rfl
    have h1 := hf 1 f1 rfl
    simp [o0, k0] at h0
    simp [o1, k1] at h1
    obtain ⟨p, e0, _, s0⟩ := DataW.trod_string u0 h0
    obtain ⟨q, e1, _, _⟩ := DataW.trod_int u1 h1
    simp only [List.cons.injEq, and_true] at e0 e1
    subst e0 e1
    exact ⟨⟨p, q⟩, ⟨rfl, s0⟩, rfl⟩) h
  refine ⟨h1, (List.range len).map f, by simp, fun i hi => ?_, by simp, ?_⟩
  · rw [lst_getD f _ len i hi]
    obtain ⟨cs, _, h⟩ := hq i hi
    exact h
  rcases h2 with h2 | ⟨b, off, rfl, hb, hc⟩
  · exact .inl h2
  · refine .inr ⟨b, off, rfl, hb, fun j hj => ?_⟩
    obtain ⟨cs, ⟨rfl, _⟩, g⟩ := hc j hj
    rw [lst_getD f _ len j hj]
    exact ⟨g 0 (by omega), g 1 (by omega)⟩
/-- A meter that came in, cell by cell. -/
theorem me_open {t tt te : TypeId} {f0 f1 f2 f3 f4 f5 g0 g1 : Field} {fuel : Nat} {cs : List Value} {x : DataW H × List MemPlace} (hs : P.underlying t = some (.struct #[f0, f1, f2, f3, f4, f5])) (hone : oneCellFields P #[f0, f1, f2, f3, f4, f5] = true) (hC : P.cellsOf t = 6)
    (u0 : P.underlying f0.type = some .string) (u1 : P.underlying f1.type = some (.int .i64)) (u2 : P.underlying f2.type = some .bool) (u3 : P.underlying f3.type = some (.int .i64)) (u4 : P.underlying f4.type = some (.int .i64)) (u5 : P.underlying f5.type = some (.slice te))
    (hs2 : P.underlying te = some (.struct #[g0, g1])) (hone2 : oneCellFields P #[g0, g1] = true) (hC2 : P.cellsOf te = 2) (v0 : P.underlying g0.type = some (.int .i64)) (v1 : P.underlying g1.type = some (.int .i64))
    (h : DataW.trod enc P w base spare held fuel t cs = some x) :
    ∃ (m : Me) (ta : Option Addr) (tc : Nat), cs = [.string m.n, .int .i64 m.g, .bool m.wh, .int .i64 m.f, .int .i64 m.l, .slice ta m.ts.length tc] ∧ m.n.size ≤ maxLen ∧ m.ts.length ≤ maxLen ∧ Tis ta m.ts.length m.ts w := by
  obtain ⟨xs, n, _, _, hl, hlen, hf⟩ := DataW.trod_struct hs h
  obtain ⟨c0, c1, c2, c3, c4, c5, rfl⟩ := lst6 (hl.trans hC)
  obtain ⟨y0, y1, y2, y3, y4, y5, rfl⟩ := lst6 (show xs.length = 6 from hlen)
  obtain ⟨o0, k0⟩ := hone_of hone 0 f0 rfl
  obtain ⟨o1, k1⟩ := hone_of hone 1 f1 rfl
  obtain ⟨o2, k2⟩ := hone_of hone 2 f2 rfl
  obtain ⟨o3, k3⟩ := hone_of hone 3 f3 rfl
  obtain ⟨o4, k4⟩ := hone_of hone 4 f4 rfl
  obtain ⟨o5, k5⟩ := hone_of hone 5 f5 rfl
  have h0 := hf 0 f0 rfl
  have h1 := hf 1 f1 rfl
  have h2 := hf 2 f2 rfl
  have h3 := hf 3 f3 rfl
  have h4 := hf 4 f4 rfl
  have h5 := hf 5 f5 rfl
  simp [o0, k0] at h0
  simp [o1, k1] at h1
  simp [o2, k2] at h2
  simp [o3, k3] at h3
  simp [o4, k4] at h4
  simp [o5, k5] at h5
  obtain ⟨i, e0, _, s0⟩ := DataW.trod_string u0 h0
  obtain ⟨a, e1, _, s1⟩ := DataW.trod_int u1 h1
  obtain ⟨q, e2, _⟩ := DataW.trod_bool u2 h2
  obtain ⟨p, e3, _, s3⟩ := DataW.trod_int u3 h3
  obtain ⟨r, e4, _, s4⟩ := DataW.trod_int u4 h4
  obtain ⟨ta, tl, tc, rfl⟩ : ∃ ta tl tc, c5 = .slice ta tl tc := by
    rcases DataW.trod_slice u5 h5 with ⟨hcs, _⟩ | ⟨a, len', cap', _, _, _, _, hcs, _⟩
    · simp only [List.cons.injEq, and_true] at hcs
      exact ⟨_, _, _, hcs⟩
    · simp only [List.cons.injEq, and_true] at hcs
      exact ⟨_, _, _, hcs⟩
  obtain ⟨q1, ts, rfl, q2⟩ := tis_open u5 hs2 hone2 hC2 v0 v1 h5
  simp only [List.cons.injEq, and_true] at e0 e1 e2 e3 e4
  subst e0 e1 e2 e3 e4
  exact ⟨⟨i, a, q, p, r, ts⟩, ta, tc, rfl, s0, q1, q2⟩
theorem mes_open {ts t tt te : TypeId} {f0 f1 f2 f3 f4 f5 g0 g1 : Field} {fuel : Nat} {ao : Option Addr} {len cap : Nat} {x : DataW H × List MemPlace} (ht : P.underlying ts = some (.slice t)) (hs : P.underlying t = some (.struct #[f0, f1, f2, f3, f4, f5])) (hone : oneCellFields P #[f0, f1, f2, f3, f4, f5] = true) (hC : P.cellsOf t = 6)
    (u0 : P.underlying f0.type = some .string) (u1 : P.underlying f1.type = some (.int .i64)) (u2 : P.underlying f2.type = some .bool) (u3 : P.underlying f3.type = some (.int .i64)) (u4 : P.underlying f4.type = some (.int .i64)) (u5 : P.underlying f5.type = some (.slice te))
    (hs2 : P.underlying te = some (.struct #[g0, g1])) (hone2 : oneCellFields P #[g0, g1] = true) (hC2 : P.cellsOf te = 2) (v0 : P.underlying g0.type = some (.int .i64)) (v1 : P.underlying g1.type = some (.int .i64))
    (h : DataW.trod enc P w base spare held fuel ts [.slice ao len cap] = some x) :
    len ≤ maxLen ∧ ∃ ms : List Me, ms.length = len ∧ (∀ i, i < len → (ms.getD i Me.zero).n.size ≤ maxLen ∧ (ms.getD i Me.zero).ts.length ≤ maxLen) ∧ Mes ao len ms w := by
  obtain ⟨h1, f, hq, h2⟩ := row_open 6 (fun (m : Me) cs => ∃ (ta : Option Addr) (tc : Nat), cs = [.string m.n, .int .i64 m.g, .bool m.wh, .int .i64 m.f, .int .i64 m.l, .slice ta m.ts.length tc] ∧ m.n.size ≤ maxLen ∧ m.ts.length ≤ maxLen ∧ Tis ta m.ts.length m.ts w) Me.zero ht hC (by omega) (fun fuel cs x h => by
    obtain ⟨m, ta, tc, rfl, q⟩ := me_open (tt := tt) hs hone hC u0 u1 u2 u3 u4 u5 hs2 hone2 hC2 v0 v1 h
    exact ⟨m, ⟨ta, tc, rfl, q⟩, rfl⟩) h
  refine ⟨h1, (List.range len).map f, by simp, fun i hi => ?_, by simp, ?_⟩
  · rw [lst_getD f _ len i hi]
    obtain ⟨cs, _, _, _, q1, q2, _⟩ := hq i hi
    exact ⟨q1, q2⟩
  rcases h2 with h2 | ⟨b, off, rfl, hb, hc⟩
  · exact .inl h2
  · refine .inr ⟨b, off, rfl, hb, fun j hj => ?_⟩
    obtain ⟨cs, ⟨ta, tc, rfl, _, _, q3⟩, g⟩ := hc j hj
    rw [lst_getD f _ len j hj]
    exact ⟨ta, tc, g 0 (by omega), g 1 (by omega), g 2 (by omega), g 3 (by omega), g 4 (by omega), g 5 (by omega), q3⟩
theorem slice_of {t e : TypeId} {fuel : Nat} {c : Value} {x : DataW H × List MemPlace} (u5 : P.underlying t = some (.slice e)) (h5 : DataW.trod enc P w base spare held fuel t [c] = some x) : ∃ ta tl tc, c = .slice ta tl tc := by
  rcases DataW.trod_slice u5 h5 with ⟨hcs, _⟩ | ⟨a, len', cap', _, _, _, _, hcs, _⟩
  · simp only [List.cons.injEq, and_true] at hcs
    exact ⟨_, _, _, hcs⟩
  · simp only [List.cons.injEq, and_true] at hcs
    exact ⟨_, _, _, hcs⟩
/-- The two cells of a catalog that came in, each as its field reads. -/
theorem ca_cells {t a b : TypeId} {f0 f1 : Field} {fuel : Nat} {cs : List Value} {x : DataW H × List MemPlace} (hs : P.underlying t = some (.struct #[f0, f1])) (hone : oneCellFields P #[f0, f1] = true) (hC : P.cellsOf t = 2)
    (u0 : P.underlying f0.type = some (.slice a)) (u1 : P.underlying f1.type = some (.slice b))
    (h : DataW.trod enc P w base spare held fuel t cs = some x) :
    ∃ ma ml mc ca cl cc, cs = [.slice ma ml mc, .slice ca cl cc] ∧ (∃ n y, DataW.trod enc P w base spare held n f0.type [.slice ma ml mc] = some y) ∧ ∃ n y, DataW.trod enc P w base spare held n f1.type [.slice ca cl cc] = some y := by
  obtain ⟨xs, n, _, _, hl, hlen, hf⟩ := DataW.trod_struct hs h
  obtain ⟨c0, c1, rfl⟩ := lst2 (hl.trans hC)
  obtain ⟨y0, y1, rfl⟩ := lst2 (show xs.length = 2 from hlen)
  obtain ⟨o0, k0⟩ := hone_of hone 0 f0 rfl
  obtain ⟨o1, k1⟩ := hone_of hone 1 f1 rfl
  have h0 := hf 0 f0 rfl
  have h1 := hf 1 f1 rfl
  simp [o0, k0] at h0
  simp [o1, k1] at h1
  obtain ⟨ma, ml, mc, rfl⟩ := slice_of u0 h0
  obtain ⟨ca, cl, cc, rfl⟩ := slice_of u1 h1
  exact ⟨ma, ml, mc, ca, cl, cc, rfl, ⟨n, _, h0⟩, ⟨n, _, h1⟩⟩
end
end CatR
end Go.Proofs.YtmeemmbpkjfleaaDoor
namespace Go.Proofs.YtmeemmbpkjfleaaDoor
open Go.ChangeShapes Go.WideShapes Go.ChangeAt Go.RowKit Go.Deep
set_option linter.unusedVariables false
namespace WinR
open RowG
open CatR (row_open lst2 lst_getD slice_of)
section
variable {J : Type} {enc : TypeId × Value → J} {P : Program} {w : World} {base : Nat} {spare : Nat → Bool} {held : Bool}
theorem lst1 {α : Type} {cs : List α} (h : cs.length = 1) : ∃ c0, cs = [c0] := by
  match cs, h with
  | [c0], _ => exact ⟨c0, rfl⟩
theorem lst8 {α : Type} {cs : List α} (h : cs.length = 8) : ∃ c0 c1 c2 c3 c4 c5 c6 c7, cs = [c0, c1, c2, c3, c4, c5, c6, c7] := by
  match cs, h with
  | [c0, c1, c2, c3, c4, c5, c6, c7], _ => exact ⟨c0, c1, c2, c3, c4, c5, c6, c7, rfl⟩
theorem tags_open {t e : TypeId} {fuel : Nat} {ao : Option Addr} {len cap : Nat} {x : DataW J × List MemPlace} (ht : P.underlying t = some (.slice e)) (hs : P.underlying e = some .string) (hC : P.cellsOf e = 1)
    (h : DataW.trod enc P w base spare held fuel t [.slice ao len cap] = some x) : len ≤ maxLen ∧ ∃ ts : List ByteArray, ts.length = len ∧ (∀ t ∈ ts, t.size ≤ maxLen) ∧ Tgs ao ts w := by
  obtain ⟨h1, f, hq, h2⟩ := row_open 1 (fun (a : ByteArray) cs => cs = [.string a] ∧ a.size ≤ maxLen) tz ht hC (by omega) (fun fuel cs x h => by
    obtain ⟨i, e0, _, s0⟩ := DataW.trod_string hs h
    exact ⟨i, ⟨e0, s0⟩, by rw [e0]; rfl⟩) h
  refine ⟨h1, (List.range len).map f, by simp, fun t ht => ?_, ?_⟩
  · obtain ⟨i, hi, rfl⟩ := List.mem_map.1 ht
    obtain ⟨cs, _, q⟩ := hq i (List.mem_range.1 hi)
    exact q
  rcases h2 with h2 | ⟨b, off, rfl, hb, hc⟩
  · exact .inl (by simpa using h2)
  · refine .inr ⟨b, off, rfl, hb, fun j hj i hi => ?_⟩
    have hj' : j < len := by simpa using hj
    obtain ⟨cs, ⟨rfl, _⟩, g⟩ := hc j hj'
    rw [lst_getD f _ len j hj']
    exact g i hi
theorem hrs_open {t e : TypeId} {f0 f1 : Field} {fuel : Nat} {ao : Option Addr} {len cap : Nat} {x : DataW J × List MemPlace} (ht : P.underlying t = some (.slice e)) (hs : P.underlying e = some (.struct #[f0, f1])) (hone : oneCellFields P #[f0, f1] = true) (hC : P.cellsOf e = 2)
    (u0 : P.underlying f0.type = some (.int .i64)) (u1 : P.underlying f1.type = some (.int .i64))
    (h : DataW.trod enc P w base spare held fuel t [.slice ao len cap] = some x) : len ≤ maxLen ∧ ∃ hs : List H, hs.length = len ∧ Hrs ao hs w := by
  obtain ⟨h1, f, _, h2⟩ := row_open 2 (fun (a : H) cs => cs = [.int .i64 a.h, .int .i64 a.s]) H.zero ht hC (by omega) (fun fuel cs x h => by
    obtain ⟨xs, n, _, _, hl, hlen, hf⟩ := DataW.trod_struct hs h
    obtain ⟨c0, c1, rfl⟩ := lst2 (hl.trans hC)
    obtain ⟨y0, y1, rfl⟩ := lst2 (show xs.length = 2 from hlen)
    obtain ⟨o0, k0⟩ := hone_of hone 0 f0 rfl
    obtain ⟨o1, k1⟩ := hone_of hone 1 f1 rfl
    have h0 := hf 0 f0 rfl
    have h1 := hf 1 f1 rfl
    simp [o0, k0] at h0
    simp [o1, k1] at h1
    obtain ⟨p, e0, _, _⟩ := DataW.trod_int u0 h0
    obtain ⟨q, e1, _, _⟩ := DataW.trod_int u1 h1
    simp only [List.cons.injEq, and_true] at e0 e1
    subst e0 e1
    exact ⟨⟨p, q⟩, rfl, rfl⟩) h
  refine ⟨h1, (List.range len).map f, by simp, ?_⟩
  rcases h2 with h2 | ⟨b, off, rfl, hb, hc⟩
  · exact .inl (by simpa using h2)
  · refine .inr ⟨b, off, rfl, hb, fun j hj i hi => ?_⟩
    have hj' : j < len := by simpa using hj
    obtain ⟨cs, rfl, g⟩ := hc j hj'
    rw [lst_getD f _ len j hj']
    exact g i hi
/-- A window that came in, cell by cell. -/
theorem win_open {t te th : TypeId} {f0 f1 f2 f3 f4 f5 f6 f7 g0 g1 : Field} {fuel : Nat} {cs : List Value} {x : DataW J × List MemPlace} (hs : P.underlying t = some (.struct #[f0, f1, f2, f3, f4, f5, f6, f7])) (hone : oneCellFields P #[f0, f1, f2, f3, f4, f5, f6, f7] = true) (hC : P.cellsOf t = 8)
    (u0 : P.underlying f0.type = some .string) (u1 : P.underlying f1.type = some .string) (u2 : P.underlying f2.type = some (.int .i64)) (u3 : P.underlying f3.type = some (.int .i64)) (u4 : P.underlying f4.type = some (.int .i64)) (u5 : P.underlying f5.type = some (.int .i64)) (u6 : P.underlying f6.type = some (.slice te)) (u7 : P.underlying f7.type = some (.slice th))
    (ut : P.underlying te = some .string) (hCt : P.cellsOf te = 1) (hs2 : P.underlying th = some (.struct #[g0, g1])) (hone2 : oneCellFields P #[g0, g1] = true) (hC2 : P.cellsOf th = 2) (v0 : P.underlying g0.type = some (.int .i64)) (v1 : P.underlying g1.type = some (.int .i64))
    (h : DataW.trod enc P w base spare held fuel t cs = some x) :
    ∃ (x : Wd) (ta : Option Addr) (tc : Nat) (ha : Option Addr) (hc : Nat), cs = (wcells x ta tc ha hc).toList ∧ x.In ∧ Tgs ta x.ts w ∧ Hrs ha x.hs w := by
  obtain ⟨xs, n, _, _, hl, hlen, hf⟩ := DataW.trod_struct hs h
  obtain ⟨c0, c1, c2, c3, c4, c5, c6, c7, rfl⟩ := lst8 (hl.trans hC)
  obtain ⟨y0, y1, y2, y3, y4, y5, y6, y7, rfl⟩ := lst8 (show xs.length = 8 from hlen)
  obtain ⟨o0, k0⟩ := hone_of hone 0 f0 rfl
  obtain ⟨o1, k1⟩ := hone_of hone 1 f1 rfl
  obtain ⟨o2, k2⟩ := hone_of hone 2 f2 rfl
  obtain ⟨o3, k3⟩ := hone_of hone 3 f3 rfl
  obtain ⟨o4, k4⟩ := hone_of hone 4 f4 rfl
  obtain ⟨o5, k5⟩ := hone_of hone 5 f5 rfl
  obtain ⟨o6, k6⟩ := hone_of hone 6 f6 rfl
  obtain ⟨o7, k7⟩ := hone_of hone 7 f7 rfl
  have h0 := hf 0 f0 rfl
  have h1 := hf 1 f1 rfl
  have h2 := hf 2 f2 rfl
  have h3 := hf 3 f3 rfl
  have h4 := hf 4 f4 rfl
  have h5 := hf 5 f5 rfl
  have h6 := hf 6 f6 rfl
  have h7 := hf 7 f7 rfl
  simp [o0, k0] at h0
  simp [o1, k1] at h1
  simp [o2, k2] at h2
  simp [o3, k3] at h3
  simp [o4, k4] at h4
  simp [o5, k5] at h5
  simp [o6, k6] at h6
  simp [o7, k7] at h7
  obtain ⟨a, e0, _, s0⟩ := DataW.trod_string u0 h0
  obtain ⟨m, e1, _, s1⟩ := DataW.trod_string u1 h1
  obtain ⟨p, e2, _, _⟩ := DataW.trod_int u2 h2
  obtain ⟨q, e3, _, _⟩ := DataW.trod_int u3 h3
  obtain ⟨r, e4, _, _⟩ := DataW.trod_int u4 h4
  obtain ⟨s, e5, _, _⟩ := DataW.trod_int u5 h5
  obtain ⟨ta, tl, tc, rfl⟩ := slice_of u6 h6
  obtain ⟨ha, hl', hc, rfl⟩ := slice_of u7 h7
  obtain ⟨q1, ts, rfl, q2, q3⟩ := tags_open u6 ut hCt h6
  obtain ⟨r1, hs', rfl, r3⟩ := hrs_open u7 hs2 hone2 hC2 v0 v1 h7
  simp only [List.cons.injEq, and_true] at e0 e1 e2 e3 e4 e5
  subst e0 e1 e2 e3 e4 e5
  exact ⟨⟨a, m, p, q, r, s, ts, hs'⟩, ta, tc, ha, hc, rfl, ⟨s0, s1, q1, q2, r1⟩, q3, r3⟩
end
end WinR
end Go.Proofs.YtmeemmbpkjfleaaDoor
namespace Go.Proofs.YtmeemmbpkjfleaaDoor
open Go.ChangeShapes Go.WideShapes Go.RowKit
namespace Lay
theorem own : ownKnob Tryd.prog.godebug = none := by kernel_rfl
theorem laidOut : laidOutB Tryd.prog = true := by kernel_rfl
theorem gv : Tryd.prog.globalNamed "loop.example/g00562/impl.monthLengths" = some 0 := by kernel_rfl
theorem gt : (Tryd.prog.globals[0]?).map (·.type) = some 159 := by kernel_rfl
theorem cellsE : Tryd.prog.cellsOf 2 = 1 := by kernel_rfl
theorem cellsT : Tryd.prog.cellsOf 159 = 12 := by kernel_rfl
def laid {H : Type} : List (String × DataW H) := [("loop.example/g00562/impl.monthLengths", Rows.laid_loop_example_g00562_impl_monthLengths)]
theorem of_tab {W : World} (hT : Lib.TabIs Tryd.prog W "loop.example/g00562/impl.monthLengths" .i64 DateR.tab) : DateR.Laid W := by
  have hc : ∀ k : Nat, k < 12 → W.cell? ⟨0, k, none⟩ = some (.int .i64 (DateR.tab.getD k 0)) := fun k hk => hT.cell gv k hk
  refine ⟨?_, hc⟩
  rcases Nat.lt_or_ge 0 W.heap.size with h | h
  · exact h
  · have h0 : W.heap[0]? = none := Array.getElem?_eq_none h
    have := hc 0 (by omega)
    simp [World.cell?, h0] at this
theorem of_laid {W : World} (h : laidMetH Tryd.prog laid W) : DateR.Laid W := by
  rw [MakeChecks.laidMetH_plain _ _ _ (by kernel_rfl)] at h
  exact of_tab (Lib.tabIs_of_head gv gt Tryd.underlying159 Tryd.underlying2 cellsE cellsT (zs := DateR.tab) (k := .i64) h)
theorem door_met (os : Os) (args : Array Value) : laidMetH Tryd.prog laid ((World.doorLaid Tryd.prog 400 os).forCall (fun _ _ => 0) ⟨#[], args, []⟩).memory :=
  laidMetH_of_parts3 (fuel := 8) (laidMet_of_run' 8 (by kernel_rfl) (by kernel_rfl)) (by kernel_rfl) (by kernel_rfl)
end Lay
end Go.Proofs.YtmeemmbpkjfleaaDoor
