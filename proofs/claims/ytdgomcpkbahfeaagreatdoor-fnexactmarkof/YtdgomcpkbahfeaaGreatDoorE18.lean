/-
  What a right document is: both sides say the same. The condition: at most 1048576 lines, texts of at most 1048576 bytes.
  What a right ledger is: documents counted and added by account and month. No condition.
  Periods as keys of a map. The conditions: accounts of at most 1048576 bytes, months that are numbers of 64 bits.
  A document that came in, read as rows. No condition.
  Lists of documents: read, sized, copied and held against each other by the law. The condition: at most 1048576 documents.
-/
import Derived.DeepKeys4
import Derived.Maps.OwnSet
import Derived.Test.YtdgomcpkbahfeaaGreatDoorE17
namespace Go.Proofs.YtdgomcpkbahfeaaGreatDoor
open Go.ChangeShapes Go.WideShapes Go.ChangeAt Go.RowKit
set_option linter.unusedVariables false
namespace DocR
open LinR RowG LtR
open NameR (nameB)
open CatR (Blk Blk.new)
theorem inW (n low high : Int) (w : World) : Calls Tryz.prog 73 #[.int .i64 n, .int .i64 low, .int .i64 high] w fun e w' => e = .returned (.bool (decide (low ≤ n ∧ n ≤ high))) ∧ w' = w := by
  rcases (show (¬ low ≤ n) ∨ (low ≤ n ∧ ¬ n ≤ high) ∨ (low ≤ n ∧ n ≤ high) by omega) with h | ⟨h1, h2⟩ | ⟨h1, h2⟩
  all_goals
    go_enter Tryz.func73, Tryz.ntmps73
    go_wp2
    go_ret
    exact ⟨ret_bool (by first | (simp [*]; done) | (simp; omega)), rfl⟩
theorem isW (n low high : Int) (w : World) : Calls Tryz.prog 52 #[.int .i64 n, .int .i64 low, .int .i64 high] w fun e w' => e = .returned (.bool (decide (low ≤ n ∧ n ≤ high))) ∧ w' = w := by
  rcases (show (¬ low ≤ n) ∨ (low ≤ n ∧ ¬ n ≤ high) ∨ (low ≤ n ∧ n ≤ high) by omega) with h | ⟨h1, h2⟩ | ⟨h1, h2⟩
  all_goals
    go_enter Tryz.func52, Tryz.ntmps52
    go_wp2
    go_ret
    exact ⟨ret_bool (by first | (simp [*]; done) | (simp; omega)), rfl⟩
theorem iMon (n : Int) (w : World) : Calls Tryz.prog 34 #[.int .i64 n] w fun e w' => e = .returned (.bool (decide (0 ≤ n ∧ n ≤ 2760))) ∧ w' = w := by
  have H := inW n 0 2760
  generalize decide (0 ≤ n ∧ n ≤ 2760) = b at *
  go_enter Tryz.func34, Tryz.ntmps34
  go_wp2_with (go_at_call 73; refine (H _).mono ?_; rintro e w' ⟨rfl, rfl⟩)
  go_ret
  exact ⟨rfl, rfl⟩
theorem sMon (n : Int) (w : World) : Calls Tryz.prog 21 #[.int .i64 n] w fun e w' => e = .returned (.bool (decide (0 ≤ n ∧ n ≤ 2760))) ∧ w' = w := by
  have H := isW n 0 2760
  generalize decide (0 ≤ n ∧ n ≤ 2760) = b at *
  go_enter Tryz.func21, Tryz.ntmps21
  go_wp2_with (go_at_call 52; refine (H _).mono ?_; rintro e w' ⟨rfl, rfl⟩)
  go_ret
  exact ⟨rfl, rfl⟩
/-- Is this a right document? -/
def dB (x : D) : Bool := nameB x.a && (decide (0 ≤ x.mo ∧ x.mo ≤ 2760) && (decide (0 ≤ x.sq ∧ x.sq ≤ 1000000) && (sB x.ls && (decide (x.sq = 0) || decide (0 < x.ls.length)))))
theorem five (b1 b2 b3 b4 b5 b6 : Bool) : (b1 = false) ∨ (b1 = true ∧ b2 = false) ∨ (b1 = true ∧ b2 = true ∧ b3 = false) ∨ (b1 = true ∧ b2 = true ∧ b3 = true ∧ b4 = false) ∨ (b1 = true ∧ b2 = true ∧ b3 = true ∧ b4 = true ∧ b5 = true) ∨ (b1 = true ∧ b2 = true ∧ b3 = true ∧ b4 = true ∧ b5 = false ∧ b6 = true) ∨ (b1 = true ∧ b2 = true ∧ b3 = true ∧ b4 = true ∧ b5 = false ∧ b6 = false) := by
  cases b1 <;> cases b2 <;> cases b3 <;> cases b4 <;> cases b5 <;> cases b6 <;> simp
set_option maxRecDepth 100000 in
set_option maxHeartbeats 8000000 in
theorem iright_in (a : ByteArray) (mo sq : Int) (la : Option Addr) (ll lc : Nat) (b1 b2 b3 b4 b5 b6 : Bool) (w : World) (hll : ll ≤ 1048576)
    (h1 : ∀ W, Calls Tryz.prog 110 #[.string a] W fun e w' => e = .returned (.bool b1) ∧ w' = W)
    (h2 : ∀ W, Calls Tryz.prog 34 #[.int .i64 mo] W fun e w' => e = .returned (.bool b2) ∧ w' = W)
    (h3 : ∀ W, Calls Tryz.prog 73 #[.int .i64 sq, .int .i64 0, .int .i64 1000000] W fun e w' => e = .returned (.bool b3) ∧ w' = W)
    (h4 : ∀ W, Below w.heap.size w W → Calls Tryz.prog 143 #[.slice la ll lc] W fun e w' => e = .returned (.bool b4) ∧ Below W.heap.size W w') (h5 : b5 = decide (sq = 0)) (h6 : b6 = decide (0 < ll)) :
    Calls Tryz.prog 112 #[.agg #[.string a, .int .i64 mo, .int .i64 sq, .slice la ll lc]] w fun e w' => e = .returned (.bool (b1 && (b2 && (b3 && (b4 && (b5 || b6)))))) ∧ Below w.heap.size w w' := by
  have H1 := hid_intro h1
  have H2 := hid_intro h2
  have H3 := hid_intro h3
  have H4 := hid_intro h4
  clear h1 h2 h3 h4
  have HB0 : Hid (Below w.heap.size w (w.alloc (.cells #[.string a, .int .i64 mo, .int .i64 sq, .slice la ll lc] 106))) := hid_intro ((Below.refl _ _).alloc (Nat.le_refl _) _)
  have HX0 := hid_intro (Blk.new w [.string a, .int .i64 mo, .int .i64 sq, .slice la ll lc] 106)
  rcases five b1 b2 b3 b4 b5 b6 with rfl | ⟨rfl, rfl⟩ | ⟨rfl, rfl, rfl⟩ | ⟨rfl, rfl, rfl, rfl⟩ | ⟨rfl, rfl, rfl, rfl, rfl⟩ | ⟨rfl, rfl, rfl, rfl, rfl, rfl⟩ | ⟨rfl, rfl, rfl, rfl, rfl, rfl⟩
  · clear h5 h6
    go_enter Tryz.func112, Tryz.ntmps112
    go_wp2_with (go_at_call 110; refine (H1.out _).mono ?_; rintro e w1 ⟨rfl, rfl⟩)
    go_ret
    exact ⟨rfl, HB0.out⟩
  · clear h5 h6
    go_enter Tryz.func112, Tryz.ntmps112
    go_wp2_with (first | (go_at_call 110; refine (H1.out _).mono ?_; rintro e w1 ⟨rfl, rfl⟩) | (go_at_call 34; refine (H2.out _).mono ?_; rintro e w1 ⟨rfl, rfl⟩) | (go_at_call 73; refine (H3.out _).mono ?_; rintro e w1 ⟨rfl, rfl⟩))
    go_ret
    exact ⟨rfl, HB0.out⟩
  · clear h5 h6
    go_enter Tryz.func112, Tryz.ntmps112
    go_wp2_with (first | (go_at_call 110; refine (H1.out _).mono ?_; rintro e w1 ⟨rfl, rfl⟩) | (go_at_call 34; refine (H2.out _).mono ?_; rintro e w1 ⟨rfl, rfl⟩) | (go_at_call 73; refine (H3.out _).mono ?_; rintro e w1 ⟨rfl, rfl⟩))
    go_ret
    exact ⟨rfl, HB0.out⟩
  · clear h5 h6
    go_enter Tryz.func112, Tryz.ntmps112
    go_wp2_with (first | (go_at_call 110; refine (H1.out _).mono ?_; rintro e w1 ⟨rfl, rfl⟩) | (go_at_call 34; refine (H2.out _).mono ?_; rintro e w1 ⟨rfl, rfl⟩) | (go_at_call 73; refine (H3.out _).mono ?_; rintro e w1 ⟨rfl, rfl⟩))
    refine (H4.out _ HB0.out).mono ?_
    rintro e w2 ⟨rfl, hb2⟩
    have HB2 := hid_intro (HB0.out.trans (hb2.mono HB0.out.size))
    obtain ⟨xl, xc⟩ := HX0.out.below hb2
    have p2 : w2.cell? ⟨w.heap.size, 2, none⟩ = some (.int .i64 sq) := xc 2 (by simp)
    have p3 : w2.cell? ⟨w.heap.size, 3, none⟩ = some (.slice la ll lc) := xc 3 (by simp)
    clear xc hb2
    go_wp2_with fail
    go_ret
    exact ⟨rfl, HB2.out⟩
  · obtain rfl : sq = 0 := of_decide_eq_true h5.symm
    clear h5 h6
    go_enter Tryz.func112, Tryz.ntmps112
    go_wp2_with (first | (go_at_call 110; refine (H1.out _).mono ?_; rintro e w1 ⟨rfl, rfl⟩) | (go_at_call 34; refine (H2.out _).mono ?_; rintro e w1 ⟨rfl, rfl⟩) | (go_at_call 73; refine (H3.out _).mono ?_; rintro e w1 ⟨rfl, rfl⟩))
    refine (H4.out _ HB0.out).mono ?_
    rintro e w2 ⟨rfl, hb2⟩
    have HB2 := hid_intro (HB0.out.trans (hb2.mono HB0.out.size))
    obtain ⟨xl, xc⟩ := HX0.out.below hb2
    have p2 : w2.cell? ⟨w.heap.size, 2, none⟩ = some (.int .i64 0) := xc 2 (by simp)
    have p3 : w2.cell? ⟨w.heap.size, 3, none⟩ = some (.slice la ll lc) := xc 3 (by simp)
    clear xc hb2
    go_wp2_with fail
    go_ret
    exact ⟨rfl, HB2.out⟩
  · have q5 : ¬ sq = 0 := of_decide_eq_false h5.symm
    have q5' : (sq == 0) = false := by simpa using q5
    have HQ : Hid (decide (0 < ll) = true) := hid_intro h6.symm
    clear h5 h6
    go_enter Tryz.func112, Tryz.ntmps112
    go_wp2_with (first | (go_at_call 110; refine (H1.out _).mono ?_; rintro e w1 ⟨rfl, rfl⟩) | (go_at_call 34; refine (H2.out _).mono ?_; rintro e w1 ⟨rfl, rfl⟩) | (go_at_call 73; refine (H3.out _).mono ?_; rintro e w1 ⟨rfl, rfl⟩))
    refine (H4.out _ HB0.out).mono ?_
    rintro e w2 ⟨rfl, hb2⟩
    have HB2 := hid_intro (HB0.out.trans (hb2.mono HB0.out.size))
    obtain ⟨xl, xc⟩ := HX0.out.below hb2
    have p2 : w2.cell? ⟨w.heap.size, 2, none⟩ = some (.int .i64 sq) := xc 2 (by simp)
    have p3 : w2.cell? ⟨w.heap.size, 3, none⟩ = some (.slice la ll lc) := xc 3 (by simp)
    clear xc hb2
    go_wp2_with fail
    go_ret
    exact ⟨ret_bool HQ.out, HB2.out⟩
  · have q5 : ¬ sq = 0 := of_decide_eq_false h5.symm
    have q5' : (sq == 0) = false := by simpa using q5
    have HQ : Hid (decide (0 < ll) = false) := hid_intro h6.symm
    clear h5 h6
    go_enter Tryz.func112, Tryz.ntmps112
    go_wp2_with (first | (go_at_call 110; refine (H1.out _).mono ?_; rintro e w1 ⟨rfl, rfl⟩) | (go_at_call 34; refine (H2.out _).mono ?_; rintro e w1 ⟨rfl, rfl⟩) | (go_at_call 73; refine (H3.out _).mono ?_; rintro e w1 ⟨rfl, rfl⟩))
    refine (H4.out _ HB0.out).mono ?_
    rintro e w2 ⟨rfl, hb2⟩
    have HB2 := hid_intro (HB0.out.trans (hb2.mono HB0.out.size))
    obtain ⟨xl, xc⟩ := HX0.out.below hb2
    have p2 : w2.cell? ⟨w.heap.size, 2, none⟩ = some (.int .i64 sq) := xc 2 (by simp)
    have p3 : w2.cell? ⟨w.heap.size, 3, none⟩ = some (.slice la ll lc) := xc 3 (by simp)
    clear xc hb2
    go_wp2_with fail
    go_ret
    exact ⟨ret_bool HQ.out, HB2.out⟩
set_option maxRecDepth 100000 in
set_option maxHeartbeats 8000000 in
theorem sright_in (a : ByteArray) (mo sq : Int) (la : Option Addr) (ll lc : Nat) (b1 b2 b3 b4 b5 b6 : Bool) (w : World) (hll : ll ≤ 1048576)
    (h1 : ∀ W, Calls Tryz.prog 51 #[.string a] W fun e w' => e = .returned (.bool b1) ∧ w' = W)
    (h2 : ∀ W, Calls Tryz.prog 21 #[.int .i64 mo] W fun e w' => e = .returned (.bool b2) ∧ w' = W)
    (h3 : ∀ W, Calls Tryz.prog 52 #[.int .i64 sq, .int .i64 0, .int .i64 1000000] W fun e w' => e = .returned (.bool b3) ∧ w' = W)
    (h4 : ∀ W, Below w.heap.size w W → Calls Tryz.prog 94 #[.slice la ll lc] W fun e w' => e = .returned (.bool b4) ∧ Below W.heap.size W w') (h5 : b5 = decide (sq = 0)) (h6 : b6 = decide (0 < ll)) :
    Calls Tryz.prog 55 #[.agg #[.string a, .int .i64 mo, .int .i64 sq, .slice la ll lc]] w fun e w' => e = .returned (.bool (b1 && (b2 && (b3 && (b4 && (b5 || b6)))))) ∧ Below w.heap.size w w' := by
  have H1 := hid_intro h1
  have H2 := hid_intro h2
  have H3 := hid_intro h3
  have H4 := hid_intro h4
  clear h1 h2 h3 h4
  have HB0 : Hid (Below w.heap.size w (w.alloc (.cells #[.string a, .int .i64 mo, .int .i64 sq, .slice la ll lc] 106))) := hid_intro ((Below.refl _ _).alloc (Nat.le_refl _) _)
  have HX0 := hid_intro (Blk.new w [.string a, .int .i64 mo, .int .i64 sq, .slice la ll lc] 106)
  rcases five b1 b2 b3 b4 b5 b6 with rfl | ⟨rfl, rfl⟩ | ⟨rfl, rfl, rfl⟩ | ⟨rfl, rfl, rfl, rfl⟩ | ⟨rfl, rfl, rfl, rfl, rfl⟩ | ⟨rfl, rfl, rfl, rfl, rfl, rfl⟩ | ⟨rfl, rfl, rfl, rfl, rfl, rfl⟩
  · clear h5 h6
    go_enter Tryz.func55, Tryz.ntmps55
    go_wp2_with (go_at_call 51; refine (H1.out _).mono ?_; rintro e w1 ⟨rfl, rfl⟩)
    go_ret
    exact ⟨rfl, HB0.out⟩
  · clear h5 h6
    go_enter Tryz.func55, Tryz.ntmps55
    go_wp2_with (first | (go_at_call 51; refine (H1.out _).mono ?_; rintro e w1 ⟨rfl, rfl⟩) | (go_at_call 21; refine (H2.out _).mono ?_; rintro e w1 ⟨rfl, rfl⟩) | (go_at_call 52; refine (H3.out _).mono ?_; rintro e w1 ⟨rfl, rfl⟩))
    go_ret
    exact ⟨rfl, HB0.out⟩
  · clear h5 h6
    go_enter Tryz.func55, Tryz.ntmps55
    go_wp2_with (first | (go_at_call 51; refine (H1.out _).mono ?_; rintro e w1 ⟨rfl, rfl⟩) | (go_at_call 21; refine (H2.out _).mono ?_; rintro e w1 ⟨rfl, rfl⟩) | (go_at_call 52; refine (H3.out _).mono ?_; rintro e w1 ⟨rfl, rfl⟩))
    go_ret
    exact ⟨rfl, HB0.out⟩
  · clear h5 h6
    go_enter Tryz.func55, Tryz.ntmps55
    go_wp2_with (first | (go_at_call 51; refine (H1.out _).mono ?_; rintro e w1 ⟨rfl, rfl⟩) | (go_at_call 21; refine (H2.out _).mono ?_; rintro e w1 ⟨rfl, rfl⟩) | (go_at_call 52; refine (H3.out _).mono ?_; rintro e w1 ⟨rfl, rfl⟩))
    refine (H4.out _ HB0.out).mono ?_
    rintro e w2 ⟨rfl, hb2⟩
    have HB2 := hid_intro (HB0.out.trans (hb2.mono HB0.out.size))
    obtain ⟨xl, xc⟩ := HX0.out.below hb2
    have p2 : w2.cell? ⟨w.heap.size, 2, none⟩ = some (.int .i64 sq) := xc 2 (by simp)
    have p3 : w2.cell? ⟨w.heap.size, 3, none⟩ = some (.slice la ll lc) := xc 3 (by simp)
    clear xc hb2
    go_wp2_with fail
    go_ret
    exact ⟨rfl, HB2.out⟩
  · obtain rfl : sq = 0 := of_decide_eq_true h5.symm
    clear h5 h6
    go_enter Tryz.func55, Tryz.ntmps55
    go_wp2_with (first | (go_at_call 51; refine (H1.out _).mono ?_; rintro e w1 ⟨rfl, rfl⟩) | (go_at_call 21; refine (H2.out _).mono ?_; rintro e w1 ⟨rfl, rfl⟩) | (go_at_call 52; refine (H3.out _).mono ?_; rintro e w1 ⟨rfl, rfl⟩))
    refine (H4.out _ HB0.out).mono ?_
    rintro e w2 ⟨rfl, hb2⟩
    have HB2 := hid_intro (HB0.out.trans (hb2.mono HB0.out.size))
    obtain ⟨xl, xc⟩ := HX0.out.below hb2
    have p2 : w2.cell? ⟨w.heap.size, 2, none⟩ = some (.int .i64 0) := xc 2 (by simp)
    have p3 : w2.cell? ⟨w.heap.size, 3, none⟩ = some (.slice la ll lc) := xc 3 (by simp)
    clear xc hb2
    go_wp2_with fail
    go_ret
    exact ⟨rfl, HB2.out⟩
  · have q5 : ¬ sq = 0 := of_decide_eq_false h5.symm
    have q5' : (sq == 0) = false := by simpa using q5
    have HQ : Hid (decide (0 < ll) = true) := hid_intro h6.symm
    clear h5 h6
    go_enter Tryz.func55, Tryz.ntmps55
    go_wp2_with (first | (go_at_call 51; refine (H1.out _).mono ?_; rintro e w1 ⟨rfl, rfl⟩) | (go_at_call 21; refine (H2.out _).mono ?_; rintro e w1 ⟨rfl, rfl⟩) | (go_at_call 52; refine (H3.out _).mono ?_; rintro e w1 ⟨rfl, rfl⟩))
    refine (H4.out _ HB0.out).mono ?_
    rintro e w2 ⟨rfl, hb2⟩
    have HB2 := hid_intro (HB0.out.trans (hb2.mono HB0.out.size))
    obtain ⟨xl, xc⟩ := HX0.out.below hb2
    have p2 : w2.cell? ⟨w.heap.size, 2, none⟩ = some (.int .i64 sq) := xc 2 (by simp)
    have p3 : w2.cell? ⟨w.heap.size, 3, none⟩ = some (.slice la ll lc) := xc 3 (by simp)
    clear xc hb2
    go_wp2_with fail
    go_ret
    exact ⟨ret_bool HQ.out, HB2.out⟩
  · have q5 : ¬ sq = 0 := of_decide_eq_false h5.symm
    have q5' : (sq == 0) = false := by simpa using q5
    have HQ : Hid (decide (0 < ll) = false) := hid_intro h6.symm
    clear h5 h6
    go_enter Tryz.func55, Tryz.ntmps55
    go_wp2_with (first | (go_at_call 51; refine (H1.out _).mono ?_; rintro e w1 ⟨rfl, rfl⟩) | (go_at_call 21; refine (H2.out _).mono ?_; rintro e w1 ⟨rfl, rfl⟩) | (go_at_call 52; refine (H3.out _).mono ?_; rintro e w1 ⟨rfl, rfl⟩))
    refine (H4.out _ HB0.out).mono ?_
    rintro e w2 ⟨rfl, hb2⟩
    have HB2 := hid_intro (HB0.out.trans (hb2.mono HB0.out.size))
    obtain ⟨xl, xc⟩ := HX0.out.below hb2
    have p2 : w2.cell? ⟨w.heap.size, 2, none⟩ = some (.int .i64 sq) := xc 2 (by simp)
    have p3 : w2.cell? ⟨w.heap.size, 3, none⟩ = some (.slice la ll lc) := xc 3 (by simp)
    clear xc hb2
    go_wp2_with fail
    go_ret
    exact ⟨ret_bool HQ.out, HB2.out⟩
theorem impl_doc (x : D) (la : Option Addr) (lc : Nat) (w : World) (h : x.Sm) (hL : Lis la x.ls w) : Calls Tryz.prog 112 #[.agg (dcells x la lc)] w fun e w' => e = .returned (.bool (dB x)) ∧ Below w.heap.size w w' :=
  iright_in x.a x.mo x.sq la x.ls.length lc _ _ _ _ _ _ w h.2.1 (fun W => NameR.impl_any x.a W h.1) (fun W => iMon x.mo W) (fun W => inW x.sq 0 1000000 W) (fun W hW => impl_lines la lc x.ls W h.2.1 h.2.2 (hL.below hW)) rfl rfl
theorem spec_doc (x : D) (la : Option Addr) (lc : Nat) (w : World) (h : x.Sm) (hL : Lis la x.ls w) : Calls Tryz.prog 55 #[.agg (dcells x la lc)] w fun e w' => e = .returned (.bool (dB x)) ∧ Below w.heap.size w w' :=
  sright_in x.a x.mo x.sq la x.ls.length lc _ _ _ _ _ _ w h.2.1 (fun W => NameR.spec_any x.a W h.1) (fun W => sMon x.mo W) (fun W => isW x.sq 0 1000000 W) (fun W hW => spec_lines la lc x.ls W h.2.1 h.2.2 (hL.below hW)) rfl rfl
end DocR
end Go.Proofs.YtdgomcpkbahfeaaGreatDoor
namespace Go.Proofs.YtdgomcpkbahfeaaGreatDoor
open Go.ChangeShapes Go.WideShapes Go.ChangeAt Go.RowKit
set_option linter.unusedVariables false
namespace LedR
open LinR RowG LtR NetR DocR
/-- Is it of this account and month? -/
def of (a : ByteArray) (m : Int) (d : D) : Bool := d.a.toList == a.toList && d.mo == m
theorem of_iff {a : ByteArray} {m : Int} {d : D} : of a m d = true ↔ d.a = a ∧ d.mo = m := by
  unfold of
  simp only [Bool.and_eq_true, beq_iff_eq]
  exact ⟨fun h => ⟨toList_inj h.1, h.2⟩, fun h => ⟨by rw [h.1], h.2⟩⟩
theorem of_self (d : D) : of d.a d.mo d = true := of_iff.2 ⟨rfl, rfl⟩
def D.zero : D := ⟨⟨#[]⟩, 0, 0, []⟩
/-- How many there are of it, and what they come to. -/
def cnt (ds : List D) (a : ByteArray) (m : Int) : Nat := (ds.filter (of a m)).length
def net (ds : List D) (a : ByteArray) (m : Int) : List N := ds.foldl (fun L d => bif of a m d then all L d.ls 1 else L) []
theorem tk_more (ds : List D) (k : Nat) (h : k < ds.length) : ds.take (k + 1) = ds.take k ++ [ds.getD k D.zero] := take_more (z := D.zero) ds k h
theorem cnt_more (ds : List D) (k : Nat) (h : k < ds.length) (a : ByteArray) (m : Int) : cnt (ds.take (k + 1)) a m = cnt (ds.take k) a m + (bif of a m (ds.getD k D.zero) then 1 else 0) := by
  unfold cnt
  rw [tk_more ds k h, List.filter_append]
  generalize ds.getD k D.zero = X
  cases hx : of a m X <;> simp [hx]
theorem net_more (ds : List D) (k : Nat) (h : k < ds.length) (a : ByteArray) (m : Int) : net (ds.take (k + 1)) a m = bif of a m (ds.getD k D.zero) then all (net (ds.take k) a m) (ds.getD k D.zero).ls 1 else net (ds.take k) a m := by
  unfold net
  rw [tk_more ds k h, List.foldl_append]
  rfl
theorem cnt_le (ds : List D) (a : ByteArray) (m : Int) : cnt ds a m ≤ ds.length := List.length_filter_le _ _
theorem net_zero : ∀ {ds : List D} {a : ByteArray} {m : Int}, cnt ds a m = 0 → net ds a m = [] := by
  intro ds a m h
  unfold cnt at h
  unfold net
  have hf : ∀ d ∈ ds, of a m d = false := by
    intro d hd
    cases hx : of a m d
    · rfl
    · have : d ∈ ds.filter (of a m) := List.mem_filter.2 ⟨hd, hx⟩
      rw [List.length_eq_zero_iff.1 h] at this
      cases this
  clear h
  generalize ([] : List N) = L
  induction ds generalizing L with
  | nil => rfl
  | cons d ds ih =>
    rw [List.foldl_cons, hf d (by simp), cond_false]
    exact ih (fun d hd => hf d (by simp [hd])) L
/-- So many documents are right, and count up. -/
def SOk (ds : List D) (k : Nat) : Prop := ∀ i, i < k → dB (ds.getD i D.zero) = true ∧ (ds.getD i D.zero).sq = cnt (ds.take i) (ds.getD i D.zero).a (ds.getD i D.zero).mo
def NOk (ds : List D) (k : Nat) : Prop := ∀ i, i < k → ovB (net ds (ds.getD i D.zero).a (ds.getD i D.zero).mo) = true
def LRight (ds : List D) : Prop := ds.length ≤ 30 ∧ SOk ds ds.length ∧ NOk ds ds.length
def SOkDec (ds : List D) (k : Nat) : Decidable (SOk ds k) := inferInstanceAs (Decidable (∀ i, i < k → dB (ds.getD i D.zero) = true ∧ (ds.getD i D.zero).sq = cnt (ds.take i) (ds.getD i D.zero).a (ds.getD i D.zero).mo))
def NOkDec (ds : List D) (k : Nat) : Decidable (NOk ds k) := inferInstanceAs (Decidable (∀ i, i < k → ovB (net ds (ds.getD i D.zero).a (ds.getD i D.zero).mo) = true))
def LRightDec (ds : List D) : Decidable (LRight ds) :=
  haveI := SOkDec ds ds.length
  haveI := NOkDec ds ds.length
  inferInstanceAs (Decidable (ds.length ≤ 30 ∧ SOk ds ds.length ∧ NOk ds ds.length))
def lB (ds : List D) : Bool := @decide (LRight ds) (LRightDec ds)
theorem lB_no {ds : List D} (h : ¬ LRight ds) : lB ds = false := by unfold lB; exact @decide_eq_false _ (LRightDec ds) h
theorem lB_yes {ds : List D} (h : LRight ds) : lB ds = true := by unfold lB; exact @decide_eq_true _ (LRightDec ds) h
theorem lB_iff {ds : List D} : lB ds = true ↔ LRight ds := by unfold lB; exact @decide_eq_true_iff _ (LRightDec ds)
theorem SOk.zero (ds : List D) : SOk ds 0 := fun i h => absurd h (by omega)
theorem SOk.more {ds : List D} {k : Nat} (h : SOk ds k) (h1 : dB (ds.getD k D.zero) = true) (h2 : (ds.getD k D.zero).sq = cnt (ds.take k) (ds.getD k D.zero).a (ds.getD k D.zero).mo) : SOk ds (k + 1) := by
  intro i hi
  by_cases e : i = k
  · subst e; exact ⟨h1, h2⟩
  · exact h i (by omega)
theorem dB_lines {x : D} (h : dB x = true) : SRight x.ls := by
  unfold dB at h
  simp only [Bool.and_eq_true] at h
  exact sB_iff.1 h.2.2.2.1
theorem mem_cnt {ds : List D} {a : ByteArray} {m : Int} (h : cnt ds a m ≠ 0) : ∃ i, i < ds.length ∧ (ds.getD i D.zero).a = a ∧ (ds.getD i D.zero).mo = m := by
  unfold cnt at h
  have : ds.filter (of a m) ≠ [] := fun e => h (by rw [e]; rfl)
  obtain ⟨d, hd⟩ := List.exists_mem_of_ne_nil _ this
  obtain ⟨h1, h2⟩ := List.mem_filter.1 hd
  obtain ⟨i, hi, rfl⟩ := List.getElem_of_mem h1
  refine ⟨i, hi, ?_⟩
  have e2 : ds.getD i D.zero = ds[i] := by simp [List.getD, hi]
  rw [e2]
  exact of_iff.1 h2
theorem cnt_mem {ds : List D} {i : Nat} (hi : i < ds.length) : cnt ds (ds.getD i D.zero).a (ds.getD i D.zero).mo ≠ 0 := by
  unfold cnt
  have e2 : ds.getD i D.zero ∈ ds := getD_mem (z := D.zero) ds i hi
  have : ds.getD i D.zero ∈ ds.filter (of (ds.getD i D.zero).a (ds.getD i D.zero).mo) := List.mem_filter.2 ⟨e2, of_self _⟩
  intro h
  rw [List.length_eq_zero_iff.1 h] at this
  cases this
/-- All of so many right documents: the nets rise, are small, and far from running over. -/
theorem net_facts {ds : List D} : ∀ k, k ≤ ds.length → SOk ds k → ∀ a m, Rise (net (ds.take k) a m) ∧ (net (ds.take k) a m).length ≤ 6 * k ∧ (∀ y ∈ net (ds.take k) a m, -(6000000000000000 * (k : Int)) ≤ y.n ∧ y.n ≤ 6000000000000000 * (k : Int))
  | 0, _, _, a, m => by simp [net, Rise]
  | k + 1, hk, h, a, m => by
    obtain ⟨i1, i2, i3⟩ := net_facts k (by omega) (fun i hi => h i (by omega)) a m
    rw [net_more ds k (by omega)]
    have hr := dB_lines (h k (by omega)).1
    generalize ds.getD k D.zero = X at *
    cases of a m X
    · rw [cond_false]
      exact ⟨i1, by omega, fun y hy => by have := i3 y hy; omega⟩
    · rw [cond_true]
      refine ⟨rise_all _ _ i1, by have := all_len (net (ds.take k) a m) X.ls 1; have := hr.1; omega, ?_⟩
      have key : ∀ (b : List N) (L : List N) (B : Int), 0 ≤ B → (∀ y ∈ L, -B ≤ y.n ∧ y.n ≤ B) → (∀ e ∈ b, -1000000000000000 ≤ e.n ∧ e.n ≤ 1000000000000000) → ∀ y ∈ all L b 1, -(B + 1000000000000000 * (b.length : Int)) ≤ y.n ∧ y.n ≤ B + 1000000000000000 * (b.length : Int) := by
        intro b
        induction b with
        | nil => intro L B hB hL _ y hy; have := hL y hy; simp; omega
        | cons e b ih =>
          intro L B hB hL hb y hy
          have h1 := hb e (by simp)
          have h2 := ih (NetR.put L (sg 1 e)) (B + 1000000000000000) (by omega) (put_bd hB hL (by omega) (by simp only [sg]; omega)) (fun e he => hb e (by simp [he])) y hy
          simp only [List.length_cons]
          omega
      intro y hy
      have h1 := key X.ls _ (6000000000000000 * (k : Int)) (by omega) i3 (right_bd hr) y hy
      have h2 := hr.1
      omega
end LedR
end Go.Proofs.YtdgomcpkbahfeaaGreatDoor
namespace Go.Proofs.YtdgomcpkbahfeaaGreatDoor
open Go.ChangeShapes Go.WideShapes Go.ChangeAt Go.RowKit
set_option linter.unusedVariables false
namespace LedR
open LinR RowG LtR NetR DocR
theorem laidOut : laidOutB Tryz.prog = true := by kernel_rfl
theorem k1 : (171 : TypeId) < Tryz.prog.types.size := of_decide_eq_true (by kernel_rfl)
theorem k2 : Tryz.prog.keyTypeAt 2 171 = true := by kernel_rfl
theorem ten : 2 + 1 ≤ 10000 := by omega
theorem lawP : WideMaps.KeyLaw Tryz.prog 171 := by
  have h := @deep_law_laid Tryz.prog laidOut 2 ten 171 k1 k2
  refine h ?_
  rw [Tryz.underlying171]
theorem keyedP : Maps.Keyed Tryz.prog 171 := Maps.Keyed.of_law lawP
theorem hkt : Tryz.prog.keyType 171 = true := by kernel_rfl
theorem hc : Tryz.prog.cellsOf 171 = 2 := by kernel_rfl
theorem hcs : Tryz.prog.cellsOf 9 = 1 := by kernel_rfl
theorem hci : Tryz.prog.cellsOf 2 = 1 := by kernel_rfl
theorem tsz : 1 ≤ Tryz.prog.types.size := of_decide_eq_true (by kernel_rfl)
/-- A period as a key. -/
def kP (a : ByteArray) (m : Int) : Lit := .string (keyBytes [.string a.data.toList, .int .i64 m])
/-- It may be one. -/
def Good (a : ByteArray) (m : Int) : Prop := a.size ≤ 1048576 ∧ (Lit.int .i64 m).wf = true
theorem keyP_gen {P : Program} {k : TypeId} {f0 f1 : Field} (hu : P.underlying k = some (.struct #[f0, f1])) (u0 : P.underlying f0.type = some .string) (u1 : P.underlying f1.type = some (.int .i64)) (hc : P.cellsOf k = 2) (c0 : P.cellsOf f0.type = 1) (c1 : P.cellsOf f1.type = 1) (o0 : f0.offset = 0) (o1 : f1.offset = 1) (n0 : (f0.name != "_") = true) (n1 : (f1.name != "_") = true) (hkt : P.keyType k = true) (hn : 1 ≤ P.types.size)
    {a : ByteArray} {m : Int} (hs : a.size ≤ maxLen) (hm : (Lit.int .i64 m).wf = true) : keyOf P k (.agg #[.string a, .int .i64 m]) = some (kP a m) := by
  have hf : (Value.agg #[.string a, .int .i64 m]).formed P k = true := by simp [Value.formed, hu, hc]
  obtain ⟨n, hn⟩ : ∃ n, P.types.size = n + 1 := ⟨P.types.size - 1, by omega⟩
  have e : P.keyLits (P.types.size + 1) k [.string a, .int .i64 m] = some [.string a.data.toList, .int .i64 m] := by
    rw [hn]
    simp [Program.keyLits, hu, u0, u1, hs, hm, hc, n0, n1, o0, o1, c0, c1]
  unfold keyOf
  rw [hu]
  simp [hkt, hf, Value.cells, e, kP]
theorem keyP {a : ByteArray} {m : Int} (h : Good a m) : keyOf Tryz.prog 171 (.agg #[.string a, .int .i64 m]) = some (kP a m) :=
  keyP_gen Tryz.underlying171 Tryz.underlying9 Tryz.underlying2 hc hcs hci rfl rfl rfl rfl hkt tsz (Nat.le_trans h.1 (by unfold maxLen; omega)) h.2
theorem kP_inj {a a' : ByteArray} {m m' : Int} (h : Good a m) (h' : Good a' m') (e : kP a m = kP a' m') : a = a' ∧ m = m' := by
  have := keyedP.inj (keyP h) (by rw [e]; exact keyP h')
  simpa using this
theorem kP_key (a : ByteArray) (m : Int) : WideAt.IsKeyLit (kP a m) := by
  unfold kP
  first | trivial | exact rfl | (simp [WideAt.IsKeyLit])
def RV (v : Value) : Option (DataW Value × List MemPlace) := some (.held v, [])
theorem zeroR (w : World) : (zeroValue 175).run Tryz.prog w = .ok (.agg #[.int .i64 0, .map none]) w := by kernel_rfl
/-- A list of documents. -/
def Dcs (ao : Option Addr) (ds : List D) (w : World) : Prop := ds.length = 0 ∨ ∃ b off, ao = some ⟨b, off, none⟩ ∧ b < w.heap.size ∧ ∀ j, j < ds.length → ∃ la lc, w.cell? ⟨b, off + j * 4, none⟩ = some (.string (ds.getD j D.zero).a) ∧ w.cell? ⟨b, off + j * 4 + 1, none⟩ = some (.int .i64 (ds.getD j D.zero).mo) ∧ w.cell? ⟨b, off + j * 4 + 2, none⟩ = some (.int .i64 (ds.getD j D.zero).sq) ∧ w.cell? ⟨b, off + j * 4 + 3, none⟩ = some (.slice la (ds.getD j D.zero).ls.length lc) ∧ Lis la (ds.getD j D.zero).ls w
theorem Dcs.below {ao : Option Addr} {ds : List D} {w w' : World} (h : Dcs ao ds w) (hb : Below w.heap.size w w') : Dcs ao ds w' := by
  rcases h with h0 | ⟨b, off, rfl, hl, h⟩
  · exact .inl h0
  · refine .inr ⟨b, off, rfl, by have := hb.size; omega, fun j hj => ?_⟩
    obtain ⟨la, lc, c0, c1, c2, c3, hL⟩ := h j hj
    have f := fun x => hb.cell (p := ⟨b, x, none⟩) hl
    exact ⟨la, lc, (f _).trans c0, (f _).trans c1, (f _).trans c2, (f _).trans c3, hL.below hb⟩
theorem Dcs.at {ao : Option Addr} {ds : List D} {w : World} (h : Dcs ao ds w) (j : Nat) (hj : j < ds.length) : ∃ b off la lc, ao = some ⟨b, off, none⟩ ∧ b < w.heap.size ∧ w.cell? ⟨b, off + j * 4, none⟩ = some (.string (ds.getD j D.zero).a) ∧ w.cell? ⟨b, off + j * 4 + 1, none⟩ = some (.int .i64 (ds.getD j D.zero).mo) ∧ w.cell? ⟨b, off + j * 4 + 2, none⟩ = some (.int .i64 (ds.getD j D.zero).sq) ∧ w.cell? ⟨b, off + j * 4 + 3, none⟩ = some (.slice la (ds.getD j D.zero).ls.length lc) ∧ Lis la (ds.getD j D.zero).ls w := by
  rcases h with h0 | ⟨b, off, rfl, hl, h⟩
  · omega
  · obtain ⟨la, lc, r⟩ := h j hj
    exact ⟨b, off, la, lc, rfl, hl, r⟩
/-- The program's rows: each period's count and nets. -/
def RowsM (rb M : Nat) (ds : List D) (W : World) : Prop := ∃ (Dm : DataW Value) (f : ByteArray → Int → Nat), W.ownsMap Tryz.prog 171 RV rb M Dm ∧
  (∀ kl, Maps.has Dm kl = true → ∃ a m, Good a m ∧ kl = kP a m ∧ cnt ds a m ≠ 0) ∧
  (∀ a m, cnt ds a m ≠ 0 → Good a m ∧ (∀ z, Dm.atKey (kP a m) z = .held (.agg #[.int .i64 (cnt ds a m : Nat), .map (some (f a m))])) ∧ rb < f a m ∧ f a m < W.heap.size ∧ ∃ Dn M', M' ≤ 6 * ds.length ∧ W.ownsMap Tryz.prog 9 (plainElem (H := Value) Tryz.prog 2) (f a m) M' Dn ∧ NetM Dn (net ds a m)) ∧
  (∀ a m a' m', cnt ds a m ≠ 0 → cnt ds a' m' ≠ 0 → f a m = f a' m' → a = a' ∧ m = m')
theorem rows_nil (w : World) : RowsM w.heap.size 0 [] (w.alloc (.map #[] 0)) :=
  ⟨.map [], fun _ _ => 0, World.ownsMap_made w _ _ _, fun kl h => by rw [Maps.has_eq] at h; simp at h, fun a m h => absurd rfl h, fun a m _ _ h => absurd rfl h⟩
theorem RowsM.kept {rb M : Nat} {ds : List D} {W W' : World} (h : RowsM rb M ds W) (hb : Below W.heap.size W W') : RowsM rb M ds W' := by
  obtain ⟨Dm, f, h1, h2, h3, h4⟩ := h
  refine ⟨Dm, f, omap_below h1 hb, h2, fun a m hc => ?_, h4⟩
  obtain ⟨g, p1, p2, p3, Dn, M', p4, p5, p6⟩ := h3 a m hc
  exact ⟨g, p1, p2, by have := hb.size; omega, Dn, M', p4, omap_below p5 hb, p6⟩
end LedR
end Go.Proofs.YtdgomcpkbahfeaaGreatDoor
namespace Go.Proofs.YtdgomcpkbahfeaaGreatDoor
open Go.ChangeShapes Go.WideShapes Go.ChangeAt Go.RowKit Go.Deep
set_option linter.unusedVariables false
namespace DocR
open RowG LinR
section
variable {J : Type} {enc : TypeId × Value → J} {P : Program} {w : World} {base : Nat} {spare : Nat → Bool} {held : Bool}
theorem lst4 {α : Type} {cs : List α} (h : cs.length = 4) : ∃ c0 c1 c2 c3, cs = [c0, c1, c2, c3] := by
  match cs, h with
  | [c0, c1, c2, c3], _ => exact ⟨c0, c1, c2, c3, rfl⟩
theorem slice_one {t e : TypeId} {fuel : Nat} {c : Value} {x : DataW J × List MemPlace} (ht : P.underlying t = some (.slice e)) (h : DataW.trod enc P w base spare held fuel t [c] = some x) : ∃ ao len cap, c = .slice ao len cap := by
  rcases DataW.trod_slice ht h with ⟨hcs, _⟩ | ⟨a, len', cap', elems, rest, n, _, hcs, _⟩
  · simp only [List.cons.injEq, and_true] at hcs
    exact ⟨_, _, _, hcs⟩
  · simp only [List.cons.injEq, and_true] at hcs
    exact ⟨_, _, _, hcs⟩
/-- A document that came in, cell by cell. -/
theorem doc_open {t te : TypeId} {f0 f1 f2 f3 g0 g1 : Field} {fuel : Nat} {cs : List Value} {x : DataW J × List MemPlace} (hs : P.underlying t = some (.struct #[f0, f1, f2, f3])) (hone : oneCellFields P #[f0, f1, f2, f3] = true) (hC : P.cellsOf t = 4)
    (u0 : P.underlying f0.type = some .string) (u1 : P.underlying f1.type = some (.int .i64)) (u2 : P.underlying f2.type = some (.int .i64)) (u3 : P.underlying f3.type = some (.slice te))
    (hs2 : P.underlying te = some (.struct #[g0, g1])) (hone2 : oneCellFields P #[g0, g1] = true) (hC2 : P.cellsOf te = 2) (v0 : P.underlying g0.type = some .string) (v1 : P.underlying g1.type = some (.int .i64))
    (h : DataW.trod enc P w base spare held fuel t cs = some x) :
    ∃ (x : D) (la : Option Addr) (lc : Nat), cs = (dcells x la lc).toList ∧ x.In ∧ Lis la x.ls w := by
  obtain ⟨xs, n, _, _, hl, hlen, hf⟩ := DataW.trod_struct hs h
  obtain ⟨c0, c1, c2, c3, rfl⟩ := lst4 (hl.trans hC)
  obtain ⟨y0, y1, y2, y3, rfl⟩ := lst4 (show xs.length = 4 from hlen)
  obtain ⟨o0, k0⟩ := hone_of hone 0 f0 rfl
  obtain ⟨o1, k1⟩ := hone_of hone 1 f1 rfl
  obtain ⟨o2, k2⟩ := hone_of hone 2 f2 rfl
  obtain ⟨o3, k3⟩ := hone_of hone 3 f3 rfl
  have h0 := hf 0 f0 rfl
  have h1 := hf 1 f1 rfl
  have h2 := hf 2 f2 rfl
  have h3 := hf 3 f3 rfl
  simp [o0, k0] at h0
  simp [o1, k1] at h1
  simp [o2, k2] at h2
  simp [o3, k3] at h3
  obtain ⟨a, e0, _, s0⟩ := DataW.trod_string u0 h0
  obtain ⟨p, e1, _, _⟩ := DataW.trod_int u1 h1
  obtain ⟨q, e2, _, _⟩ := DataW.trod_int u2 h2
  obtain ⟨la, ll, lc, rfl⟩ := slice_one u3 h3
  obtain ⟨ls, rfl, q1, q2, q3⟩ := lis_open u3 hs2 hone2 hC2 v0 v1 h3
  simp only [List.cons.injEq, and_true] at e0 e1 e2
  subst e0 e1 e2
  exact ⟨⟨a, p, q, ls⟩, la, lc, rfl, ⟨s0, q1, q3⟩, q2⟩
end
end DocR
end Go.Proofs.YtdgomcpkbahfeaaGreatDoor
namespace Go.Proofs.YtdgomcpkbahfeaaGreatDoor
open Go.ChangeShapes Go.WideShapes Go.ChangeAt Go.RowKit Go.Deep
set_option linter.unusedVariables false
namespace LedR
open LinR RowG LtR NetR DocR
open EvtR (Pt cell_put cell_far)
/-- A list of documents that came in. -/
def IsDcs (w : World) (ao : Option Addr) (ds : List D) : Prop := ds.length ≤ maxLen ∧ Dcs ao ds w ∧ ∀ d ∈ ds, d.In ∧ (Lit.int .i64 d.mo).wf = true
section
variable {J : Type} {enc : TypeId × Value → J} {P : Program} {w : World} {base : Nat} {spare : Nat → Bool} {held : Bool}
theorem doc_wf {t : TypeId} {f0 f1 f2 f3 : Field} {fuel : Nat} {cs : List Value} {x : DataW J × List MemPlace} (hs : P.underlying t = some (.struct #[f0, f1, f2, f3])) (hone : oneCellFields P #[f0, f1, f2, f3] = true) (hC : P.cellsOf t = 4) (u1 : P.underlying f1.type = some (.int .i64))
    (h : DataW.trod enc P w base spare held fuel t cs = some x) (y : D) (la : Option Addr) (lc : Nat) (e : cs = (dcells y la lc).toList) : (Lit.int .i64 y.mo).wf = true := by
  obtain ⟨xs, n, _, _, hl, hlen, hf⟩ := DataW.trod_struct hs h
  obtain ⟨c0, c1, c2, c3, rfl⟩ := lst4 (hl.trans hC)
  obtain ⟨y0, y1, y2, y3, rfl⟩ := lst4 (show xs.length = 4 from hlen)
  obtain ⟨o1, k1⟩ := hone_of hone 1 f1 rfl
  have h1 := hf 1 f1 rfl
  simp [o1, k1] at h1
  obtain ⟨p, e1, _, hw⟩ := DataW.trod_int u1 h1
  simp only [List.cons.injEq, and_true] at e1
  simp [dcells] at e
  rw [e1] at e
  have := e.2.1
  simp at this
  rw [← this]
  exact hw
theorem docs_open {t e te : TypeId} {f0 f1 f2 f3 g0 g1 : Field} {fuel : Nat} {ao : Option Addr} {len cap : Nat} {x : DataW J × List MemPlace} (ht : P.underlying t = some (.slice e)) (hs : P.underlying e = some (.struct #[f0, f1, f2, f3])) (hone : oneCellFields P #[f0, f1, f2, f3] = true) (hC : P.cellsOf e = 4)
    (u0 : P.underlying f0.type = some .string) (u1 : P.underlying f1.type = some (.int .i64)) (u2 : P.underlying f2.type = some (.int .i64)) (u3 : P.underlying f3.type = some (.slice te))
    (hs2 : P.underlying te = some (.struct #[g0, g1])) (hone2 : oneCellFields P #[g0, g1] = true) (hC2 : P.cellsOf te = 2) (v0 : P.underlying g0.type = some .string) (v1 : P.underlying g1.type = some (.int .i64))
    (h : DataW.trod enc P w base spare held fuel t [.slice ao len cap] = some x) : ∃ ds, ds.length = len ∧ IsDcs w ao ds := by
  rcases DataW.trod_slice ht h with ⟨hcs, _⟩ | ⟨a, len', cap', elems, rest, n, _, hcs, _, hb, hl, hm, hlen, hel, _, _⟩
  · simp only [List.cons.injEq, Value.slice.injEq, and_true] at hcs
    obtain ⟨rfl, rfl, rfl⟩ := hcs
    exact ⟨[], rfl, Nat.zero_le _, .inl rfl, fun e he => by cases he⟩
  · simp only [List.cons.injEq, Value.slice.injEq, and_true] at hcs
    obtain ⟨rfl, rfl, rfl⟩ := hcs
    have key : ∀ i, i < len → ∃ (X : D) (la : Option Addr) (lc : Nat), X.In ∧ (Lit.int .i64 X.mo).wf = true ∧ Lis la X.ls w ∧ w.cells? base (a.add (i * 4)) 4 = some (dcells X la lc).toList := by
      intro i hi
      have h1 := hel i hi
      rw [hC, List.getElem?_eq_getElem (by omega)] at h1
      cases hc : w.cells? base (a.add (i * 4)) 4 with
      | none => rw [hc] at h1; simp at h1
      | some cs =>
        rw [hc] at h1
        simp only [Option.bind_some] at h1
        obtain ⟨X, la, lc, rfl, q1, q2⟩ := doc_open hs hone hC u0 u1 u2 u3 hs2 hone2 hC2 v0 v1 h1
        exact ⟨X, la, lc, q1, doc_wf hs hone hC u1 h1 X la lc rfl, q2, rfl⟩
    have : ∃ f : Nat → D, ∀ i, i < len → (f i).In ∧ (Lit.int .i64 (f i).mo).wf = true ∧ ∃ la lc, Lis la (f i).ls w ∧ w.cells? base (a.add (i * 4)) 4 = some (dcells (f i) la lc).toList := by
      refine ⟨fun i => if hi : i < len then Classical.choose (key i hi) else D.zero, fun i hi => ?_⟩
      simp only [hi, dif_pos]
      obtain ⟨la, lc, q1, q2, q3, q4⟩ := Classical.choose_spec (key i hi)
      exact ⟨q1, q2, la, lc, q3, q4⟩
    obtain ⟨f, hf⟩ := this
    refine ⟨(List.range len).map f, by simp, by simp; omega, ?_, fun e he => ?_⟩
    · by_cases h0 : len = 0
      · exact .inl (by simpa using h0)
      · obtain ⟨b, off, spot⟩ := a
        obtain ⟨_, _, la0, lc0, _, hc00⟩ := hf 0 (by omega)
        have hc0 := LinR.cells_at hc00 0 (by omega)
        have hspot : spot = none := by
          have : w.cell? ⟨b, off, spot⟩ = some (.string (f 0).a) := by simpa [Addr.add, dcells] using hc0
          exact World.cell?_spot this
        subst hspot
        refine .inr ⟨b, off, rfl, ?_, fun j hj => ?_⟩
        · have : w.cell? ⟨b, off, none⟩ = some (.string (f 0).a) := by simpa [Addr.add, dcells] using hc0
          exact World.block_lt_of_cell? w _ this
        · have hj : j < len := by simpa using hj
          have e : ((List.range len).map f).getD j D.zero = f j := by simp [List.getD, hj]
          rw [e]
          obtain ⟨_, _, la, lc, hL, hcc⟩ := hf j hj
          have g := fun k (hk : k < 4) => LinR.cells_at hcc k hk
          have ad : ∀ k, ((⟨b, off, none⟩ : Addr).add (j * 4)).add k = ⟨b, off + j * 4 + k, none⟩ := by
            intro k
            unfold Addr.add
            split <;> split <;> simp_all
          simp only [ad] at g
          exact ⟨la, lc, g 0 (by omega), g 1 (by omega), g 2 (by omega), g 3 (by omega), hL⟩
    · simp only [List.mem_map, List.mem_range] at he
      obtain ⟨i, hi, rfl⟩ := he
      exact ⟨(hf i hi).1, (hf i hi).2.1⟩
end
/-- What is left of a size. -/
def dsS : Int → List D → Int
  | l, [] => l
  | l, d :: ds => if dszR l d < 0 then -1 else dsS (dszR l d) ds
theorem dsS_small : ∀ {ds : List D} {l : Int}, l ≤ 1048576 → ¬ dsS l ds < 0 → ∀ d ∈ ds, d.Sm
  | [], l, _, _, d, h => by cases h
  | x :: ds, l, hl, h, d, hd => by
    rw [dsS] at h
    by_cases q : dszR l x < 0
    · rw [if_pos q] at h; exact absurd (by omega) h
    · rw [if_neg q] at h
      obtain ⟨h1, h2⟩ := dsz_small hl q
      rcases List.mem_cons.1 hd with rfl | hd
      · exact h1
      · exact dsS_small (by omega) h d hd
def szDR (ds : List D) : Int := if (1048576 : Int) - (ds.length : Int) < 0 then -1 else dsS (1048576 - (ds.length : Int)) ds
theorem szDR_small {ds : List D} (h : ¬ szDR ds < 0) : ds.length ≤ 1048576 ∧ ∀ d ∈ ds, d.Sm := by
  unfold szDR at h
  by_cases q : (1048576 : Int) - (ds.length : Int) < 0
  · rw [if_pos q] at h; exact absurd (by omega) h
  · rw [if_neg q] at h
    exact ⟨by omega, dsS_small (by omega) h⟩
theorem drop_more (ds : List D) (k : Nat) (h : k < ds.length) : ds.drop k = ds.getD k D.zero :: ds.drop (k + 1) := by
  rw [List.drop_eq_getElem_cons h]
  simp [List.getD, h]
set_option maxRecDepth 100000 in
set_option maxHeartbeats 4000000 in
theorem szDs (ao : Option Addr) (cap : Nat) (ds : List D) (w : World) (h : IsDcs w ao ds) :
    Calls Tryz.prog 16 #[.slice ao ds.length cap, .int .i64 1048576] w fun e w' => e = .returned (.int .i64 (szDR ds)) ∧ Below w.heap.size w w' := by
  obtain ⟨hm, hI, hin⟩ := h
  have HI := hid_intro hI
  have HIn := hid_intro hin
  have HR : Hid (szDR ds = if (1048576 : Int) - (ds.length : Int) < 0 then -1 else dsS (1048576 - (ds.length : Int)) ds) := rfl
  obtain ⟨len, hl⟩ : ∃ len, len = ds.length := ⟨_, rfl⟩
  rw [← hl] at hm HR ⊢
  have HL := hid_intro hl
  generalize szDR ds = R at *
  unfold maxLen at hm
  clear hI hin hl
  by_cases hbig : 1048576 < len
  · have hl2 : (1048576 : Int) - (len : Int) < 0 := by omega
    have HN : Hid (R = -1) := hid_intro (by rw [HR.out, if_pos hl2])
    go_enter Tryz.func16, Tryz.ntmps16
    go_wp2_with fail
    go_ret
    exact ⟨ret_int HN.out.symm, Below.refl _ _⟩
  have hl2 : ¬ (1048576 : Int) - (len : Int) < 0 := by omega
  have HN : Hid (R = dsS (1048576 - (len : Int)) ds) := hid_intro (by rw [HR.out, if_neg hl2])
  go_enter Tryz.func16, Tryz.ntmps16
  go_wp2_with fail
  go_loopw [5, 1] (fun x y wr => ∃ (j : Nat) (L : Int), j ≤ len ∧ x = .int .i64 j ∧ y = .int .i64 L ∧ 0 ≤ L ∧ L ≤ 1048576 ∧ Hid (R = dsS L (ds.drop j)) ∧ Hid (Below w.heap.size w wr)) (fun x _ _ => len - (intOf x).toNat)
  case atStart => exact ⟨0, 1048576 - (len : Int), by omega, rfl, rfl, by omega, by omega, HN, hid_intro (Below.refl _ _)⟩
  case round =>
    obtain ⟨j, L, hj, rfl, rfl, l0, l1, HD, HB⟩ := hrel
    by_cases hlt : j < len
    · have hlt2 : (j : Int) < (len : Int) := by omega
      have hkl : j < ds.length := by have := HL.out; omega
      obtain ⟨b, off, la, lc, rfl, hbl, c0, c1, c2, c3, hLi⟩ := (HI.out.below HB.out).at j hkl
      have HC := hid_intro (szD_any (ds.getD j D.zero) la lc L wr l0 l1 (HIn.out _ (getD_mem (z := D.zero) ds j hkl)).1 hLi)
      rw [drop_more ds j hkl] at HD
      have HSM : Hid (¬ dszR L (ds.getD j D.zero) < 0 → dszR L (ds.getD j D.zero) ≤ 1048576) := hid_intro (fun h => by have := (dsz_small l1 h).2; omega)
      generalize ds.getD j D.zero = X at *
      obtain ⟨xa, xm, xs, xl⟩ := X
      have HD2 : Hid (R = if dszR L ⟨xa, xm, xs, xl⟩ < 0 then -1 else dsS (dszR L ⟨xa, xm, xs, xl⟩) (ds.drop (j + 1))) := HD
      unfold dcells at HC
      dsimp only at c0 c1 c2 c3 HC
      generalize dszR L ⟨xa, xm, xs, xl⟩ = L2 at *
      generalize xl.length = ll at *
      clear hLi HD
      by_cases hs : L2 < 0
      · have HN2 : Hid (R = -1) := hid_intro (by rw [HD2.out, if_pos hs])
        go_wp2_with fail
        refine HC.out.mono ?_
        rintro e w1 ⟨rfl, hb⟩
        have HB1 := hid_intro (HB.out.trans (hb.mono HB.out.size))
        clear hb
        go_wp2_with fail
        go_ret
        exact ⟨ret_int HN2.out.symm, HB1.out⟩
      · have HN2 : Hid (R = dsS L2 (ds.drop (j + 1))) := hid_intro (by rw [HD2.out, if_neg hs])
        have hs2 := HSM.out hs
        go_wp2_with fail
        refine HC.out.mono ?_
        rintro e w1 ⟨rfl, hb⟩
        have HB1 := hid_intro (HB.out.trans (hb.mono HB.out.size))
        clear hb
        go_wp2_with fail
        go_roundw
        case rel => exact ⟨j + 1, L2, by omega, by go_num, rfl, by omega, hs2, HN2, HB1⟩
        case measure => simp [intOf]; omega
    · have hlt2 : ¬ (j : Int) < (len : Int) := by omega
      obtain rfl : j = len := by omega
      have HN2 : Hid (R = L) := hid_intro (by rw [HD.out, List.drop_of_length_le (by have := HL.out; omega)]; rfl)
      go_wp2_with fail
      go_ret
      exact ⟨ret_int HN2.out.symm, HB.out⟩
end LedR
end Go.Proofs.YtdgomcpkbahfeaaGreatDoor
