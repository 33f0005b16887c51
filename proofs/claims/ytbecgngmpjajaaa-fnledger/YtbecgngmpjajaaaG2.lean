/-
  What a right document is: both sides say the same. The condition: at most 1048576 lines, texts of at most 1048576 bytes.
  What a right ledger is: documents counted and added by account and month. No condition.
  Periods as keys of a map. The conditions: accounts of at most 1048576 bytes, months that are numbers of 64 bits.
  The model's count of documents of an account and month, and what they come to. The conditions: at most 1048576 documents to count, at most 30 that are right to add.
  The program's rows of a ledger, one document more. No condition.
  The program's rows of a ledger: impl.rowsOf. The conditions: documents that are small, their months numbers of 64 bits.
  LedgerRight on both sides. The conditions: documents that are small, their months numbers of 64 bits.
  The program's Less and the model's: both hand back the same lines. The condition: at most 1048576 lines, whose Meters have at most 1048576 bytes.
  NetOf on both sides. The conditions: documents that are small, months that are numbers of 64 bits, accounts of at most 1048576 bytes.
  What Issue answers, on both sides. No condition.
  append of a whole list, that may be none, to an empty list of one's own. The condition: sizes that fit.
  The model's copies: of a document, of documents. The conditions: sizes of at most 1048576.
  A document that came in, read as rows. No condition.
  Lists of documents: read, sized, copied and held against each other by the law. The condition: at most 1048576 documents.
  Lists of documents: the law's own copies, and two lists held against each other. The condition: at most 1048576 documents, each of at most 1048576 lines.
  Lists of documents of one's own. No condition.
  The model's copy of documents: spec.l09Copy. The conditions: sizes of at most 1048576.
  Right lines rise, and their numbers are small. No condition.
  Answers that hold documents: of one's own, and read. No condition.
-/
import Derived.DeepKeys4
import Derived.Maps.OwnSet
import Derived.Deep.RegionHeld3
import Derived.Deep.AppendSrc
import Derived.Deep.RegionWith
import Derived.Test.YtbecgngmpjajaaaG1
namespace Go.Proofs.Ytbecgngmpjajaaa
open Go.ChangeShapes Go.WideShapes Go.ChangeAt Go.RowKit
set_option linter.unusedVariables false
namespace DocR
open LinR RowG LtR
open NameR (nameB)
open CatR (Blk Blk.new)
theorem inW (n low high : Int) (w : World) : Calls Try.prog 38 #[.int .i64 n, .int .i64 low, .int .i64 high] w fun e w' => e = .returned (.bool (decide (low ≤ n ∧ n ≤ high))) ∧ w' = w := by
  rcases (show (¬ low ≤ n) ∨ (low ≤ n ∧ ¬ n ≤ high) ∨ (low ≤ n ∧ n ≤ high) by omega) with h | ⟨h1, h2⟩ | ⟨h1, h2⟩
  all_goals
    go_enter Try.func38, Try.ntmps38
    go_wp2
    go_ret
    exact ⟨ret_bool (by first | (simp [*]; done) | (simp; omega)), rfl⟩
theorem isW (n low high : Int) (w : World) : Calls Try.prog 45 #[.int .i64 n, .int .i64 low, .int .i64 high] w fun e w' => e = .returned (.bool (decide (low ≤ n ∧ n ≤ high))) ∧ w' = w := by
  rcases (show (¬ low ≤ n) ∨ (low ≤ n ∧ ¬ n ≤ high) ∨ (low ≤ n ∧ n ≤ high) by omega) with h | ⟨h1, h2⟩ | ⟨h1, h2⟩
  all_goals
    go_enter Try.func45, Try.ntmps45
    go_wp2
    go_ret
    exact ⟨ret_bool (by first | (simp [*]; done) | (simp; omega)), rfl⟩
theorem iMon (n : Int) (w : World) : Calls Try.prog 65 #[.int .i64 n] w fun e w' => e = .returned (.bool (decide (0 ≤ n ∧ n ≤ 2760))) ∧ w' = w := by
  have H := inW n 0 2760
  generalize decide (0 ≤ n ∧ n ≤ 2760) = b at *
  go_enter Try.func65, Try.ntmps65
  go_wp2_with (go_at_call 38; refine (H _).mono ?_; rintro e w' ⟨rfl, rfl⟩)
  go_ret
  exact ⟨rfl, rfl⟩
theorem sMon (n : Int) (w : World) : Calls Try.prog 50 #[.int .i64 n] w fun e w' => e = .returned (.bool (decide (0 ≤ n ∧ n ≤ 2760))) ∧ w' = w := by
  have H := isW n 0 2760
  generalize decide (0 ≤ n ∧ n ≤ 2760) = b at *
  go_enter Try.func50, Try.ntmps50
  go_wp2_with (go_at_call 45; refine (H _).mono ?_; rintro e w' ⟨rfl, rfl⟩)
  go_ret
  exact ⟨rfl, rfl⟩
/-- Is this a right document? -/
def dB (x : D) : Bool := nameB x.a && (decide (0 ≤ x.mo ∧ x.mo ≤ 2760) && (decide (0 ≤ x.sq ∧ x.sq ≤ 1000000) && (sB x.ls && (decide (x.sq = 0) || decide (0 < x.ls.length)))))
theorem five (b1 b2 b3 b4 b5 b6 : Bool) : (b1 = false) ∨ (b1 = true ∧ b2 = false) ∨ (b1 = true ∧ b2 = true ∧ b3 = false) ∨ (b1 = true ∧ b2 = true ∧ b3 = true ∧ b4 = false) ∨ (b1 = true ∧ b2 = true ∧ b3 = true ∧ b4 = true ∧ b5 = true) ∨ (b1 = true ∧ b2 = true ∧ b3 = true ∧ b4 = true ∧ b5 = false ∧ b6 = true) ∨ (b1 = true ∧ b2 = true ∧ b3 = true ∧ b4 = true ∧ b5 = false ∧ b6 = false) := by
  cases b1 <;> cases b2 <;> cases b3 <;> cases b4 <;> cases b5 <;> cases b6 <;> simp
set_option maxRecDepth 100000 in
set_option maxHeartbeats 8000000 in
theorem iright_in (a : ByteArray) (mo sq : Int) (la : Option Addr) (ll lc : Nat) (b1 b2 b3 b4 b5 b6 : Bool) (w : World) (hll : ll ≤ 1048576)
    (h1 : ∀ W, Calls Try.prog 64 #[.string a] W fun e w' => e = .returned (.bool b1) ∧ w' = W)
    (h2 : ∀ W, Calls Try.prog 65 #[.int .i64 mo] W fun e w' => e = .returned (.bool b2) ∧ w' = W)
    (h3 : ∀ W, Calls Try.prog 38 #[.int .i64 sq, .int .i64 0, .int .i64 1000000] W fun e w' => e = .returned (.bool b3) ∧ w' = W)
    (h4 : ∀ W, Below w.heap.size w W → Calls Try.prog 66 #[.slice la ll lc] W fun e w' => e = .returned (.bool b4) ∧ Below W.heap.size W w') (h5 : b5 = decide (sq = 0)) (h6 : b6 = decide (0 < ll)) :
    Calls Try.prog 54 #[.agg #[.string a, .int .i64 mo, .int .i64 sq, .slice la ll lc]] w fun e w' => e = .returned (.bool (b1 && (b2 && (b3 && (b4 && (b5 || b6)))))) ∧ Below w.heap.size w w' := by
  have H1 := hid_intro h1
  have H2 := hid_intro h2
  have H3 := hid_intro h3
  have H4 := hid_intro h4
  clear h1 h2 h3 h4
  have HB0 : Hid (Below w.heap.size w (w.alloc (.cells #[.string a, .int .i64 mo, .int .i64 sq, .slice la ll lc] 29))) := hid_intro ((Below.refl _ _).alloc (Nat.le_refl _) _)
  have HX0 := hid_intro (Blk.new w [.string a, .int .i64 mo, .int .i64 sq, .slice la ll lc] 29)
  rcases five b1 b2 b3 b4 b5 b6 with rfl | ⟨rfl, rfl⟩ | ⟨rfl, rfl, rfl⟩ | ⟨rfl, rfl, rfl, rfl⟩ | ⟨rfl, rfl, rfl, rfl, rfl⟩ | ⟨rfl, rfl, rfl, rfl, rfl, rfl⟩ | ⟨rfl, rfl, rfl, rfl, rfl, rfl⟩
  · clear h5 h6
    go_enter Try.func54, Try.ntmps54
    go_wp2_with (go_at_call 64; refine (H1.out _).mono ?_; rintro e w1 ⟨rfl, rfl⟩)
    go_ret
    exact ⟨rfl, HB0.out⟩
  · clear h5 h6
    go_enter Try.func54, Try.ntmps54
    go_wp2_with (first | (go_at_call 64; refine (H1.out _).mono ?_; rintro e w1 ⟨rfl, rfl⟩) | (go_at_call 65; refine (H2.out _).mono ?_; rintro e w1 ⟨rfl, rfl⟩) | (go_at_call 38; refine (H3.out _).mono ?_; rintro e w1 ⟨rfl, rfl⟩))
    go_ret
    exact ⟨rfl, HB0.out⟩
  · clear h5 h6
    go_enter Try.func54, Try.ntmps54
    go_wp2_with (first | (go_at_call 64; refine (H1.out _).mono ?_; rintro e w1 ⟨rfl, rfl⟩) | (go_at_call 65; refine (H2.out _).mono ?_; rintro e w1 ⟨rfl, rfl⟩) | (go_at_call 38; refine (H3.out _).mono ?_; rintro e w1 ⟨rfl, rfl⟩))
    go_ret
    exact ⟨rfl, HB0.out⟩
  · clear h5 h6
    go_enter Try.func54, Try.ntmps54
    go_wp2_with (first | (go_at_call 64; refine (H1.out _).mono ?_; rintro e w1 ⟨rfl, rfl⟩) | (go_at_call 65; refine (H2.out _).mono ?_; rintro e w1 ⟨rfl, rfl⟩) | (go_at_call 38; refine (H3.out _).mono ?_; rintro e w1 ⟨rfl, rfl⟩))
    refine (H4.out _ HB0.out).mono ?_
    rintro e w2 ⟨rfl, hb2⟩
    have HB2 := hid_intro (HB0.out.trans (hb2.mono HB0.out.size))
    obtain ⟨xl, xc⟩ := HX0.out.below hb2
    have p2 : w2.cell? ⟨w.heap.size, 2, none⟩ = some (.int .i64 sq) := xc 2 (by simp)
    have p3 : w2.cell? ⟨w.heap.size, 3, none⟩ = some (.slice la ll lc) := xc 3 (by simp)
    clear xc hb2
    go_wp2_with fail
    go_ret
    exact ⟨rfl, HB2.out⟩
  · obtain rfl : sq = 0 := of_decide_eq_true h5.symm
    clear h5 h6
    go_enter Try.func54, Try.ntmps54
    go_wp2_with (first | (go_at_call 64; refine (H1.out _).mono ?_; rintro e w1 ⟨rfl, rfl⟩) | (go_at_call 65; refine (H2.out _).mono ?_; rintro e w1 ⟨rfl, rfl⟩) | (go_at_call 38; refine (H3.out _).mono ?_; rintro e w1 ⟨rfl, rfl⟩))
    refine (H4.out _ HB0.out).mono ?_
    rintro e w2 ⟨rfl, hb2⟩
    have HB2 := hid_intro (HB0.out.trans (hb2.mono HB0.out.size))
    obtain ⟨xl, xc⟩ := HX0.out.below hb2
    have p2 : w2.cell? ⟨w.heap.size, 2, none⟩ = some (.int .i64 0) := xc 2 (by simp)
    have p3 : w2.cell? ⟨w.heap.size, 3, none⟩ = some (.slice la ll lc) := xc 3 (by simp)
    clear xc hb2
    go_wp2_with fail
    go_ret
    exact ⟨rfl, HB2.out⟩
  · have q5 : ¬ sq = 0 := of_decide_eq_false h5.symm
    have q5' : (sq == 0) = false := by simpa using q5
    have HQ : Hid (decide (0 < ll) = true) := hid_intro h6.symm
    clear h5 h6
    go_enter Try.func54, Try.ntmps54
    go_wp2_with (first | (go_at_call 64; refine (H1.out _).mono ?_; rintro e w1 ⟨rfl, rfl⟩) | (go_at_call 65; refine (H2.out _).mono ?_; rintro e w1 ⟨rfl, rfl⟩) | (go_at_call 38; refine (H3.out _).mono ?_; rintro e w1 ⟨rfl, rfl⟩))
    refine (H4.out _ HB0.out).mono ?_
    rintro e w2 ⟨rfl, hb2⟩
    have HB2 := hid_intro (HB0.out.trans (hb2.mono HB0.out.size))
    obtain ⟨xl, xc⟩ := HX0.out.below hb2
    have p2 : w2.cell? ⟨w.heap.size, 2, none⟩ = some (.int .i64 sq) := xc 2 (by simp)
    have p3 : w2.cell? ⟨w.heap.size, 3, none⟩ = some (.slice la ll lc) := xc 3 (by simp)
    clear xc hb2
    go_wp2_with fail
    go_ret
    exact ⟨ret_bool HQ.out, HB2.out⟩
  · have q5 : ¬ sq = 0 := of_decide_eq_false h5.symm
    have q5' : (sq == 0) = false := by simpa using q5
    have HQ : Hid (decide (0 < ll) = false) := hid_intro h6.symm
    clear h5 h6
    go_enter Try.func54, Try.ntmps54
    go_wp2_with (first | (go_at_call 64; refine (H1.out _).mono ?_; rintro e w1 ⟨rfl, rfl⟩) | (go_at_call 65; refine (H2.out _).mono ?_; rintro e w1 ⟨rfl, rfl⟩) | (go_at_call 38; refine (H3.out _).mono ?_; rintro e w1 ⟨rfl, rfl⟩))
    refine (H4.out _ HB0.out).mono ?_
    rintro e w2 ⟨rfl, hb2⟩
    have HB2 := hid_intro (HB0.out.trans (hb2.mono HB0.out.size))
    obtain ⟨xl, xc⟩ := HX0.out.below hb2
    have p2 : w2.cell? ⟨w.heap.size, 2, none⟩ = some (.int .i64 sq) := xc 2 (by simp)
    have p3 : w2.cell? ⟨w.heap.size, 3, none⟩ = some (.slice la ll lc) := xc 3 (by simp)
    clear xc hb2
    go_wp2_with fail
    go_ret
    exact ⟨ret_bool HQ.out, HB2.out⟩
set_option maxRecDepth 100000 in
set_option maxHeartbeats 8000000 in
theorem sright_in (a : ByteArray) (mo sq : Int) (la : Option Addr) (ll lc : Nat) (b1 b2 b3 b4 b5 b6 : Bool) (w : World) (hll : ll ≤ 1048576)
    (h1 : ∀ W, Calls Try.prog 49 #[.string a] W fun e w' => e = .returned (.bool b1) ∧ w' = W)
    (h2 : ∀ W, Calls Try.prog 50 #[.int .i64 mo] W fun e w' => e = .returned (.bool b2) ∧ w' = W)
    (h3 : ∀ W, Calls Try.prog 45 #[.int .i64 sq, .int .i64 0, .int .i64 1000000] W fun e w' => e = .returned (.bool b3) ∧ w' = W)
    (h4 : ∀ W, Below w.heap.size w W → Calls Try.prog 51 #[.slice la ll lc] W fun e w' => e = .returned (.bool b4) ∧ Below W.heap.size W w') (h5 : b5 = decide (sq = 0)) (h6 : b6 = decide (0 < ll)) :
    Calls Try.prog 40 #[.agg #[.string a, .int .i64 mo, .int .i64 sq, .slice la ll lc]] w fun e w' => e = .returned (.bool (b1 && (b2 && (b3 && (b4 && (b5 || b6)))))) ∧ Below w.heap.size w w' := by
  have H1 := hid_intro h1
  have H2 := hid_intro h2
  have H3 := hid_intro h3
  have H4 := hid_intro h4
  clear h1 h2 h3 h4
  have HB0 : Hid (Below w.heap.size w (w.alloc (.cells #[.string a, .int .i64 mo, .int .i64 sq, .slice la ll lc] 29))) := hid_intro ((Below.refl _ _).alloc (Nat.le_refl _) _)
  have HX0 := hid_intro (Blk.new w [.string a, .int .i64 mo, .int .i64 sq, .slice la ll lc] 29)
  rcases five b1 b2 b3 b4 b5 b6 with rfl | ⟨rfl, rfl⟩ | ⟨rfl, rfl, rfl⟩ | ⟨rfl, rfl, rfl, rfl⟩ | ⟨rfl, rfl, rfl, rfl, rfl⟩ | ⟨rfl, rfl, rfl, rfl, rfl, rfl⟩ | ⟨rfl, rfl, rfl, rfl, rfl, rfl⟩
  · clear h5 h6
    go_enter Try.func40, Try.ntmps40
    go_wp2_with (go_at_call 49; refine (H1.out _).mono ?_; rintro e w1 ⟨rfl, rfl⟩)
    go_ret
    exact ⟨rfl, HB0.out⟩
  · clear h5 h6
    go_enter Try.func40, Try.ntmps40
    go_wp2_with (first | (go_at_call 49; refine (H1.out _).mono ?_; rintro e w1 ⟨rfl, rfl⟩) | (go_at_call 50; refine (H2.out _).mono ?_; rintro e w1 ⟨rfl, rfl⟩) | (go_at_call 45; refine (H3.out _).mono ?_; rintro e w1 ⟨rfl, rfl⟩))
    go_ret
    exact ⟨rfl, HB0.out⟩
  · clear h5 h6
    go_enter Try.func40, Try.ntmps40
    go_wp2_with (first | (go_at_call 49; refine (H1.out _).mono ?_; rintro e w1 ⟨rfl, rfl⟩) | (go_at_call 50; refine (H2.out _).mono ?_; rintro e w1 ⟨rfl, rfl⟩) | (go_at_call 45; refine (H3.out _).mono ?_; rintro e w1 ⟨rfl, rfl⟩))
    go_ret
    exact ⟨rfl, HB0.out⟩
  · clear h5 h6
    go_enter Try.func40, Try.ntmps40
    go_wp2_with (first | (go_at_call 49; refine (H1.out _).mono ?_; rintro e w1 ⟨rfl, rfl⟩) | (go_at_call 50; refine (H2.out _).mono ?_; rintro e w1 ⟨rfl, rfl⟩) | (go_at_call 45; refine (H3.out _).mono ?_; rintro e w1 ⟨rfl, rfl⟩))
    refine (H4.out _ HB0.out).mono ?_
    rintro e w2 ⟨rfl, hb2⟩
    have HB2 := hid_intro (HB0.out.trans (hb2.mono HB0.out.size))
    obtain ⟨xl, xc⟩ := HX0.out.below hb2
    have p2 : w2.cell? ⟨w.heap.size, 2, none⟩ = some (.int .i64 sq) := xc 2 (by simp)
    have p3 : w2.cell? ⟨w.heap.size, 3, none⟩ = some (.slice la ll lc) := xc 3 (by simp)
    clear xc hb2
    go_wp2_with fail
    go_ret
    exact ⟨rfl, HB2.out⟩
  · obtain rfl : sq = 0 := of_decide_eq_true h5.symm
    clear h5 h6
    go_enter Try.func40, Try.ntmps40
    go_wp2_with (first | (go_at_call 49; refine (H1.out _).mono ?_; rintro e w1 ⟨rfl, rfl⟩) | (go_at_call 50; refine (H2.out _).mono ?_; rintro e w1 ⟨rfl, rfl⟩) | (go_at_call 45; refine (H3.out _).mono ?_; rintro e w1 ⟨rfl, rfl⟩))
    refine (H4.out _ HB0.out).mono ?_
    rintro e w2 ⟨rfl, hb2⟩
    have HB2 := hid_intro (HB0.out.trans (hb2.mono HB0.out.size))
    obtain ⟨xl, xc⟩ := HX0.out.below hb2
    have p2 : w2.cell? ⟨w.heap.size, 2, none⟩ = some (.int .i64 0) := xc 2 (by simp)
    have p3 : w2.cell? ⟨w.heap.size, 3, none⟩ = some (.slice la ll lc) := xc 3 (by simp)
    clear xc hb2
    go_wp2_with fail
    go_ret
    exact ⟨rfl, HB2.out⟩
  · have q5 : ¬ sq = 0 := of_decide_eq_false h5.symm
    have q5' : (sq == 0) = false := by simpa using q5
    have HQ : Hid (decide (0 < ll) = true) := hid_intro h6.symm
    clear h5 h6
    go_enter Try.func40, Try.ntmps40
    go_wp2_with (first | (go_at_call 49; refine (H1.out _).mono ?_; rintro e w1 ⟨rfl, rfl⟩) | (go_at_call 50; refine (H2.out _).mono ?_; rintro e w1 ⟨rfl, rfl⟩) | (go_at_call 45; refine (H3.out _).mono ?_; rintro e w1 ⟨rfl, rfl⟩))
    refine (H4.out _ HB0.out).mono ?_
    rintro e w2 ⟨rfl, hb2⟩
    have HB2 := hid_intro (HB0.out.trans (hb2.mono HB0.out.size))
    obtain ⟨xl, xc⟩ := HX0.out.below hb2
    have p2 : w2.cell? ⟨w.heap.size, 2, none⟩ = some (.int .i64 sq) := xc 2 (by simp)
    have p3 : w2.cell? ⟨w.heap.size, 3, none⟩ = some (.slice la ll lc) := xc 3 (by simp)
    clear xc hb2
    go_wp2_with fail
    go_ret
    exact ⟨ret_bool HQ.out, HB2.out⟩
  · have q5 : ¬ sq = 0 := of_decide_eq_false h5.symm
    have q5' : (sq == 0) = false := by simpa using q5
    have HQ : Hid (decide (0 < ll) = false) := hid_intro h6.symm
    clear h5 h6
    go_enter Try.func40, Try.ntmps40
    go_wp2_with (first | (go_at_call 49; refine (H1.out _).mono ?_; rintro e w1 ⟨rfl, rfl⟩) | (go_at_call 50; refine (H2.out _).mono ?_; rintro e w1 ⟨rfl, rfl⟩) | (go_at_call 45; refine (H3.out _).mono ?_; rintro e w1 ⟨rfl, rfl⟩))
    refine (H4.out _ HB0.out).mono ?_
    rintro e w2 ⟨rfl, hb2⟩
    have HB2 := hid_intro (HB0.out.trans (hb2.mono HB0.out.size))
    obtain ⟨xl, xc⟩ := HX0.out.below hb2
    have p2 : w2.cell? ⟨w.heap.size, 2, none⟩ = some (.int .i64 sq) := xc 2 (by simp)
    have p3 : w2.cell? ⟨w.heap.size, 3, none⟩ = some (.slice la ll lc) := xc 3 (by simp)
    clear xc hb2
    go_wp2_with fail
    go_ret
    exact ⟨ret_bool HQ.out, HB2.out⟩
theorem impl_doc (x : D) (la : Option Addr) (lc : Nat) (w : World) (h : x.Sm) (hL : Lis la x.ls w) : Calls Try.prog 54 #[.agg (dcells x la lc)] w fun e w' => e = .returned (.bool (dB x)) ∧ Below w.heap.size w w' :=
  iright_in x.a x.mo x.sq la x.ls.length lc _ _ _ _ _ _ w h.2.1 (fun W => NameR.impl_any x.a W h.1) (fun W => iMon x.mo W) (fun W => inW x.sq 0 1000000 W) (fun W hW => impl_lines la lc x.ls W h.2.1 h.2.2 (hL.below hW)) rfl rfl
theorem spec_doc (x : D) (la : Option Addr) (lc : Nat) (w : World) (h : x.Sm) (hL : Lis la x.ls w) : Calls Try.prog 40 #[.agg (dcells x la lc)] w fun e w' => e = .returned (.bool (dB x)) ∧ Below w.heap.size w w' :=
  sright_in x.a x.mo x.sq la x.ls.length lc _ _ _ _ _ _ w h.2.1 (fun W => NameR.spec_any x.a W h.1) (fun W => sMon x.mo W) (fun W => isW x.sq 0 1000000 W) (fun W hW => spec_lines la lc x.ls W h.2.1 h.2.2 (hL.below hW)) rfl rfl
end DocR
end Go.Proofs.Ytbecgngmpjajaaa
namespace Go.Proofs.Ytbecgngmpjajaaa
open Go.ChangeShapes Go.WideShapes Go.ChangeAt Go.RowKit
set_option linter.unusedVariables false
namespace LedR
open LinR RowG LtR NetR DocR
/-- Is it of this account and month? -/
def of (a : ByteArray) (m : Int) (d : D) : Bool := d.a.toList == a.toList && d.mo == m
theorem of_iff {a : ByteArray} {m : Int} {d : D} : of a m d = true ↔ d.a = a ∧ d.mo = m := by
  unfold of
  simp only [Bool.and_eq_true, beq_iff_eq]
  exact ⟨fun h => ⟨toList_inj h.1, h.2⟩, fun h => ⟨by rw [h.1], h.2⟩⟩
theorem of_self (d : D) : of d.a d.mo d = true := of_iff.2 ⟨rfl, rfl⟩
def D.zero : D := ⟨⟨#[]⟩, 0, 0, []⟩
/-- How many there are of it, and what they come to. -/
def cnt (ds : List D) (a : ByteArray) (m : Int) : Nat := (ds.filter (of a m)).length
def net (ds : List D) (a : ByteArray) (m : Int) : List N := ds.foldl (fun L d => bif of a m d then all L d.ls 1 else L) []
theorem tk_more (ds : List D) (k : Nat) (h : k < ds.length) : ds.take (k + 1) = ds.take k ++ [ds.getD k D.zero] := take_more (z := D.zero) ds k h
theorem cnt_more (ds : List D) (k : Nat) (h : k < ds.length) (a : ByteArray) (m : Int) : cnt (ds.take (k + 1)) a m = cnt (ds.take k) a m + (bif of a m (ds.getD k D.zero) then 1 else 0) := by
  unfold cnt
  rw [tk_more ds k h, List.filter_append]
  generalize ds.getD k D.zero = X
  cases hx : of a m X <;> simp [hx]
theorem net_more (ds : List D) (k : Nat) (h : k < ds.length) (a : ByteArray) (m : Int) : net (ds.take (k + 1)) a m = bif of a m (ds.getD k D.zero) then all (net (ds.take k) a m) (ds.getD k D.zero).ls 1 else net (ds.take k) a m := by
  unfold net
  rw [tk_more ds k h, List.foldl_append]
  rfl
theorem cnt_le (ds : List D) (a : ByteArray) (m : Int) : cnt ds a m ≤ ds.length := List.length_filter_le _ _
theorem net_zero : ∀ {ds : List D} {a : ByteArray} {m : Int}, cnt ds a m = 0 → net ds a m = [] := by
  intro ds a m h
  unfold cnt at h
  unfold net
  have hf : ∀ d ∈ ds, of a m d = false := by
    intro d hd
    cases hx : of a m d
    · rfl
    · have : d ∈ ds.filter (of a m) := List.mem_filter.2 ⟨hd, hx⟩
      rw [List.length_eq_zero_iff.1 h] at this
      cases this
  clear h
  generalize ([] : List N) = L
  induction ds generalizing L with
  | nil => rfl
  | cons d ds ih =>
    rw [List.foldl_cons, hf d (by simp), cond_false]
    exact ih (fun d hd => hf d (by simp [hd])) L
/-- So many documents are right, and count up. -/
def SOk (ds : List D) (k : Nat) : Prop := ∀ i, i < k → dB (ds.getD i D.zero) = true ∧ (ds.getD i D.zero).sq = cnt (ds.take i) (ds.getD i D.zero).a (ds.getD i D.zero).mo
def NOk (ds : List D) (k : Nat) : Prop := ∀ i, i < k → ovB (net ds (ds.getD i D.zero).a (ds.getD i D.zero).mo) = true
def LRight (ds : List D) : Prop := ds.length ≤ 30 ∧ SOk ds ds.length ∧ NOk ds ds.length
def SOkDec (ds : List D) (k : Nat) : Decidable (SOk ds k) := inferInstanceAs (Decidable (∀ i, i < k → dB (ds.getD i D.zero) = true ∧ (ds.getD i D.zero).sq = cnt (ds.take i) (ds.getD i D.zero).a (ds.getD i D.zero).mo))
def NOkDec (ds : List D) (k : Nat) : Decidable (NOk ds k) := inferInstanceAs (Decidable (∀ i, i < k → ovB (net ds (ds.getD i D.zero).a (ds.getD i D.zero).mo) = true))
def LRightDec (ds : List D) : Decidable (LRight ds) :=
  haveI := SOkDec ds ds.length
  haveI := NOkDec ds ds.length
  inferInstanceAs (Decidable (ds.length ≤ 30 ∧ SOk ds ds.length ∧ NOk ds ds.length))
def lB (ds : List D) : Bool := @decide (LRight ds) (LRightDec ds)
theorem lB_no {ds : List D} (h : ¬ LRight ds) : lB ds = false := by unfold lB; exact @decide_eq_false _ (LRightDec ds) h
theorem lB_yes {ds : List D} (h : LRight ds) : lB ds = true := by unfold lB; exact @decide_eq_true _ (LRightDec ds) h
theorem lB_iff {ds : List D} : lB ds = true ↔ LRight ds := by unfold lB; exact @decide_eq_true_iff _ (LRightDec ds)
theorem SOk.zero (ds : List D) : SOk ds 0 := fun i h => absurd h (by omega)
theorem SOk.more {ds : List D} {k : Nat} (h : SOk ds k) (h1 : dB (ds.getD k D.zero) = true) (h2 : (ds.getD k D.zero).sq = cnt (ds.take k) (ds.getD k D.zero).a (ds.getD k D.zero).mo) : SOk ds (k + 1) := by
  intro i hi
  by_cases e : i = k
  · subst e; exact ⟨h1, h2⟩
  · exact h i (by omega)
theorem dB_lines {x : D} (h : dB x = true) : SRight x.ls := by
  unfold dB at h
  simp only [Bool.and_eq_true] at h
  exact sB_iff.1 h.2.2.2.1
theorem mem_cnt {ds : List D} {a : ByteArray} {m : Int} (h : cnt ds a m ≠ 0) : ∃ i, i < ds.length ∧ (ds.getD i D.zero).a = a ∧ (ds.getD i D.zero).mo = m := by
  unfold cnt at h
  have : ds.filter (of a m) ≠ [] := fun e => h (by rw [e]; rfl)
  obtain ⟨d, hd⟩ := List.exists_mem_of_ne_nil _ this
  obtain ⟨h1, h2⟩ := List.mem_filter.1 hd
  obtain ⟨i, hi, rfl⟩ := List.getElem_of_mem h1
  refine ⟨i, hi, ?_⟩
  have e2 : ds.getD i D.zero = ds[i] := by simp [List.getD, hi]
  rw [e2]
  exact of_iff.1 h2
theorem cnt_mem {ds : List D} {i : Nat} (hi : i < ds.length) : cnt ds (ds.getD i D.zero).a (ds.getD i D.zero).mo ≠ 0 := by
  unfold cnt
  have e2 : ds.getD i D.zero ∈ ds := getD_mem (z := D.zero) ds i hi
  have : ds.getD i D.zero ∈ ds.filter (of (ds.getD i D.zero).a (ds.getD i D.zero).mo) := List.mem_filter.2 ⟨e2, of_self _⟩
  intro h
  rw [List.length_eq_zero_iff.1 h] at this
  cases this
/-- All of so many right documents: the nets rise, are small, and far from running over. -/
theorem net_facts {ds : List D} : ∀ k, k ≤ ds.length → SOk ds k → ∀ a m, Rise (net (ds.take k) a m) ∧ (net (ds.take k) a m).length ≤ 6 * k ∧ (∀ y ∈ net (ds.take k) a m, -(6000000000000000 * (k : Int)) ≤ y.n ∧ y.n ≤ 6000000000000000 * (k : Int))
  | 0, _, _, a, m => by simp [net, Rise]
  | k + 1, hk, h, a, m => by
    obtain ⟨i1, i2, i3⟩ := net_facts k (by omega) (fun i hi => h i (by omega)) a m
    rw [net_more ds k (by omega)]
    have hr := dB_lines (h k (by omega)).1
    generalize ds.getD k D.zero = X at *
    cases of a m X
    · rw [cond_false]
      exact ⟨i1, by omega, fun y hy => by have := i3 y hy; omega⟩
    · rw [cond_true]
      refine ⟨rise_all _ _ i1, by have := all_len (net (ds.take k) a m) X.ls 1; have := hr.1; omega, ?_⟩
      have key : ∀ (b : List N) (L : List N) (B : Int), 0 ≤ B → (∀ y ∈ L, -B ≤ y.n ∧ y.n ≤ B) → (∀ e ∈ b, -1000000000000000 ≤ e.n ∧ e.n ≤ 1000000000000000) → ∀ y ∈ all L b 1, -(B + 1000000000000000 * (b.length : Int)) ≤ y.n ∧ y.n ≤ B + 1000000000000000 * (b.length : Int) := by
        intro b
        induction b with
        | nil => intro L B hB hL _ y hy; have := hL y hy; simp; omega
        | cons e b ih =>
          intro L B hB hL hb y hy
          have h1 := hb e (by simp)
          have h2 := ih (NetR.put L (sg 1 e)) (B + 1000000000000000) (by omega) (put_bd hB hL (by omega) (by simp only [sg]; omega)) (fun e he => hb e (by simp [he])) y hy
          simp only [List.length_cons]
          omega
      intro y hy
      have h1 := key X.ls _ (6000000000000000 * (k : Int)) (by omega) i3 (right_bd hr) y hy
      have h2 := hr.1
      omega
end LedR
end Go.Proofs.Ytbecgngmpjajaaa
namespace Go.Proofs.Ytbecgngmpjajaaa
open Go.ChangeShapes Go.WideShapes Go.ChangeAt Go.RowKit
set_option linter.unusedVariables false
namespace LedR
open LinR RowG LtR NetR DocR
theorem laidOut : laidOutB Try.prog = true := by kernel_rfl
theorem k1 : (96 : TypeId) < Try.prog.types.size := of_decide_eq_true (by kernel_rfl)
theorem k2 : Try.prog.keyTypeAt 2 96 = true := by kernel_rfl
theorem ten : 2 + 1 ≤ 10000 := by omega
theorem lawP : WideMaps.KeyLaw Try.prog 96 := by
  have h := @deep_law_laid Try.prog laidOut 2 ten 96 k1 k2
  refine h ?_
  rw [Try.underlying96]
theorem keyedP : Maps.Keyed Try.prog 96 := Maps.Keyed.of_law lawP
theorem hkt : Try.prog.keyType 96 = true := by kernel_rfl
theorem hc : Try.prog.cellsOf 96 = 2 := by kernel_rfl
theorem hcs : Try.prog.cellsOf 9 = 1 := by kernel_rfl
theorem hci : Try.prog.cellsOf 2 = 1 := by kernel_rfl
theorem tsz : 1 ≤ Try.prog.types.size := of_decide_eq_true (by kernel_rfl)
/-- A period as a key. -/
def kP (a : ByteArray) (m : Int) : Lit := .string (keyBytes [.string a.data.toList, .int .i64 m])
/-- It may be one. -/
def Good (a : ByteArray) (m : Int) : Prop := a.size ≤ 1048576 ∧ (Lit.int .i64 m).wf = true
theorem keyP_gen {P : Program} {k : TypeId} {f0 f1 : Field} (hu : P.underlying k = some (.struct #[f0, f1])) (u0 : P.underlying f0.type = some .string) (u1 : P.underlying f1.type = some (.int .i64)) (hc : P.cellsOf k = 2) (c0 : P.cellsOf f0.type = 1) (c1 : P.cellsOf f1.type = 1) (o0 : f0.offset = 0) (o1 : f1.offset = 1) (n0 : (f0.name != "_") = true) (n1 : (f1.name != "_") = true) (hkt : P.keyType k = true) (hn : 1 ≤ P.types.size)
    {a : ByteArray} {m : Int} (hs : a.size ≤ maxLen) (hm : (Lit.int .i64 m).wf = true) : keyOf P k (.agg #[.string a, .int .i64 m]) = some (kP a m) := by
  have hf : (Value.agg #[.string a, .int .i64 m]).formed P k = true := by simp [Value.formed, hu, hc]
  obtain ⟨n, hn⟩ : ∃ n, P.types.size = n + 1 := ⟨P.types.size - 1, by omega⟩
  have e : P.keyLits (P.types.size + 1) k [.string a, .int .i64 m] = some [.string a.data.toList, .int .i64 m] := by
    rw [hn]
    simp [Program.keyLits, hu, u0, u1, hs, hm, hc, n0, n1, o0, o1, c0, c1]
  unfold keyOf
  rw [hu]
  simp [hkt, hf, Value.cells, e, kP]
theorem keyP {a : ByteArray} {m : Int} (h : Good a m) : keyOf Try.prog 96 (.agg #[.string a, .int .i64 m]) = some (kP a m) :=
  keyP_gen Try.underlying96 Try.underlying9 Try.underlying2 hc hcs hci rfl rfl rfl rfl hkt tsz (Nat.le_trans h.1 (by unfold maxLen; omega)) h.2
theorem kP_inj {a a' : ByteArray} {m m' : Int} (h : Good a m) (h' : Good a' m') (e : kP a m = kP a' m') : a = a' ∧ m = m' := by
  have := keyedP.inj (keyP h) (by rw [e]; exact keyP h')
  simpa using this
theorem kP_key (a : ByteArray) (m : Int) : WideAt.IsKeyLit (kP a m) := by
  unfold kP
  first | trivial | exact rfl | (simp [WideAt.IsKeyLit])
def RV (v : Value) : Option (DataW Value × List MemPlace) := some (.held v, [])
theorem zeroR (w : World) : (zeroValue 100).run Try.prog w = .ok (.agg #[.int .i64 0, .map none]) w := by kernel_rfl
/-- A list of documents. -/
def Dcs (ao : Option Addr) (ds : List D) (w : World) : Prop := ds.length = 0 ∨ ∃ b off, ao = some ⟨b, off, none⟩ ∧ b < w.heap.size ∧ ∀ j, j < ds.length → ∃ la lc, w.cell? ⟨b, off + j * 4, none⟩ = some (.string (ds.getD j D.zero).a) ∧ w.cell? ⟨b, off + j * 4 + 1, none⟩ = some (.int .i64 (ds.getD j D.zero).mo) ∧ w.cell? ⟨b, off + j * 4 + 2, none⟩ = some (.int .i64 (ds.getD j D.zero).sq) ∧ w.cell? ⟨b, off + j * 4 + 3, none⟩ = some (.slice la (ds.getD j D.zero).ls.length lc) ∧ Lis la (ds.getD j D.zero).ls w
theorem Dcs.below {ao : Option Addr} {ds : List D} {w w' : World} (h : Dcs ao ds w) (hb : Below w.heap.size w w') : Dcs ao ds w' := by
  rcases h with h0 | ⟨b, off, rfl, hl, h⟩
  · exact .inl h0
  · refine .inr ⟨b, off, rfl, by have := hb.size; omega, fun j hj => ?_⟩
    obtain ⟨la, lc, c0, c1, c2, c3, hL⟩ := h j hj
    have f := fun x => hb.cell (p := ⟨b, x, none⟩) hl
    exact ⟨la, lc, (f _).trans c0, (f _).trans c1, (f _).trans c2, (f _).trans c3, hL.below hb⟩
theorem Dcs.at {ao : Option Addr} {ds : List D} {w : World} (h : Dcs ao ds w) (j : Nat) (hj : j < ds.length) : ∃ b off la lc, ao = some ⟨b, off, none⟩ ∧ b < w.heap.size ∧ w.cell? ⟨b, off + j * 4, none⟩ = some (.string (ds.getD j D.zero).a) ∧ w.cell? ⟨b, off + j * 4 + 1, none⟩ = some (.int .i64 (ds.getD j D.zero).mo) ∧ w.cell? ⟨b, off + j * 4 + 2, none⟩ = some (.int .i64 (ds.getD j D.zero).sq) ∧ w.cell? ⟨b, off + j * 4 + 3, none⟩ = some (.slice la (ds.getD j D.zero).ls.length lc) ∧ Lis la (ds.getD j D.zero).ls w := by
  rcases h with h0 | ⟨b, off, rfl, hl, h⟩
  · omega
  · obtain ⟨la, lc, r⟩ := h j hj
    exact ⟨b, off, la, lc, rfl, hl, r⟩
/-- The program's rows: each period's count and nets. -/
def RowsM (rb M : Nat) (ds : List D) (W : World) : Prop := ∃ (Dm : DataW Value) (f : ByteArray → Int → Nat), W.ownsMap Try.prog 96 RV rb M Dm ∧
  (∀ kl, Maps.has Dm kl = true → ∃ a m, Good a m ∧ kl = kP a m ∧ cnt ds a m ≠ 0) ∧
  (∀ a m, cnt ds a m ≠ 0 → Good a m ∧ (∀ z, Dm.atKey (kP a m) z = .held (.agg #[.int .i64 (cnt ds a m : Nat), .map (some (f a m))])) ∧ rb < f a m ∧ f a m < W.heap.size ∧ ∃ Dn M', M' ≤ 6 * ds.length ∧ W.ownsMap Try.prog 9 (plainElem (H := Value) Try.prog 2) (f a m) M' Dn ∧ NetM Dn (net ds a m)) ∧
  (∀ a m a' m', cnt ds a m ≠ 0 → cnt ds a' m' ≠ 0 → f a m = f a' m' → a = a' ∧ m = m')
theorem rows_nil (w : World) : RowsM w.heap.size 0 [] (w.alloc (.map #[] 0)) :=
  ⟨.map [], fun _ _ => 0, World.ownsMap_made w _ _ _, fun kl h => by rw [Maps.has_eq] at h; simp at h, fun a m h => absurd rfl h, fun a m _ _ h => absurd rfl h⟩
theorem RowsM.kept {rb M : Nat} {ds : List D} {W W' : World} (h : RowsM rb M ds W) (hb : Below W.heap.size W W') : RowsM rb M ds W' := by
  obtain ⟨Dm, f, h1, h2, h3, h4⟩ := h
  refine ⟨Dm, f, omap_below h1 hb, h2, fun a m hc => ?_, h4⟩
  obtain ⟨g, p1, p2, p3, Dn, M', p4, p5, p6⟩ := h3 a m hc
  exact ⟨g, p1, p2, by have := hb.size; omega, Dn, M', p4, omap_below p5 hb, p6⟩
end LedR
end Go.Proofs.Ytbecgngmpjajaaa
namespace Go.Proofs.Ytbecgngmpjajaaa
open Go.ChangeShapes Go.WideShapes Go.ChangeAt Go.RowKit
set_option linter.unusedVariables false
namespace LedR
open LinR RowG LtR NetR DocR
theorem of_cases (a : ByteArray) (m : Int) (x : D) : ((x.a.toList == a.toList) = false ∧ of a m x = false) ∨ ((x.a.toList == a.toList) = true ∧ (x.mo == m) = false ∧ of a m x = false) ∨ ((x.a.toList == a.toList) = true ∧ (x.mo == m) = true ∧ of a m x = true) := by
  unfold of
  cases (x.a.toList == a.toList) <;> cases (x.mo == m) <;> simp
set_option maxRecDepth 100000 in
set_option maxHeartbeats 4000000 in
theorem scount (ao : Option Addr) (cap : Nat) (ds : List D) (n : Nat) (a : ByteArray) (m : Int) (w : World) (hn : n ≤ ds.length) (hlen : ds.length ≤ 1048576) (hI : Dcs ao ds w) :
    Calls Try.prog 41 #[.slice ao ds.length cap, .int .i64 n, .string a, .int .i64 m] w fun e w' => e = .returned (.int .i64 (cnt (ds.take n) a m : Nat)) ∧ Below w.heap.size w w' := by
  have HI := hid_intro hI
  have HN := hid_intro hn
  obtain ⟨len, hl⟩ : ∃ len, len = ds.length := ⟨_, rfl⟩
  rw [← hl] at hlen hn ⊢
  have HL := hid_intro hl
  have HCL : Hid (∀ k, cnt (ds.take k) a m ≤ 1048576) := hid_intro (fun k => by have h1 := cnt_le (ds.take k) a m; have h2 := (List.take_sublist k ds).length_le; omega)
  clear hI hl
  go_enter Try.func41, Try.ntmps41
  go_wp2_with fail
  go_loopw [9, 10] (fun c z wr => ∃ k : Nat, k ≤ n ∧ z = .int .i64 k ∧ c = .int .i64 (cnt (ds.take k) a m : Nat) ∧ Hid (Below w.heap.size w wr)) (fun c z _ => n - (intOf z).toNat)
  case atStart => exact ⟨0, by omega, rfl, rfl, hid_intro (Below.refl _ _)⟩
  case round =>
    obtain ⟨k, hk, rfl, rfl, HB⟩ := hrel
    have hcl := HCL.out k
    by_cases hlt : k < n
    · have hlt2 : (k : Int) < (n : Int) := by omega
      have hkl2 : (k : Int) < (len : Int) := by omega
      have hkl : k < ds.length := by have := HL.out; omega
      obtain ⟨b, off, la, lc, rfl, hbl, c0, c1, c2, c3, _⟩ := (HI.out.below HB.out).at k hkl
      have HC := hid_intro (cnt_more ds k hkl a m)
      have HO := hid_intro (of_cases a m (ds.getD k D.zero))
      generalize ds.getD k D.zero = X at *
      obtain ⟨xa, xm, xs, xl⟩ := X
      dsimp only at c0 c1
      rcases HO.out with ⟨q1, q2⟩ | ⟨q1, q3, q2⟩ | ⟨q1, q3, q2⟩
      · dsimp only at q1
        rw [q2, cond_false, Nat.add_zero] at HC
        go_wp2_with fail
        go_roundw
        case rel => exact ⟨k + 1, by omega, by go_num, by rw [HC.out]; rfl, HB⟩
        case measure => simp [intOf]; omega
      · dsimp only at q1 q3
        rw [q2, cond_false, Nat.add_zero] at HC
        go_wp2_with fail
        go_roundw
        case rel => exact ⟨k + 1, by omega, by go_num, by rw [HC.out]; rfl, HB⟩
        case measure => simp [intOf]; omega
      · dsimp only at q1 q3
        rw [q2, cond_true] at HC
        generalize cnt (ds.take k) a m = C at *
        go_wp2_with fail
        go_roundw
        case rel => exact ⟨k + 1, by omega, by go_num, by rw [HC.out]; go_num, HB⟩
        case measure => simp [intOf]; omega
    · have hlt2 : ¬ (k : Int) < (n : Int) := by omega
      obtain rfl : k = n := by omega
      go_wp2_with fail
      go_ret
      exact ⟨rfl, HB.out⟩
set_option maxRecDepth 100000 in
set_option maxHeartbeats 4000000 in
theorem ssum (ao : Option Addr) (cap : Nat) (ds : List D) (a : ByteArray) (m : Int) (w : World) (hlen : ds.length ≤ 30) (hS : SOk ds ds.length) (hI : Dcs ao ds w) :
    Calls Try.prog 43 #[.slice ao ds.length cap, .string a, .int .i64 m] w fun e w' => ∃ v, e = .returned v ∧ OwnN w' w.heap.size v (net ds a m) ∧ Below w.heap.size w w' := by
  have HI := hid_intro hI
  have HS := hid_intro hS
  obtain ⟨len, hl⟩ : ∃ len, len = ds.length := ⟨_, rfl⟩
  have HEND : Hid (net (ds.take len) a m = net ds a m) := hid_intro (by rw [hl, List.take_length])
  rw [← hl] at hlen ⊢
  have HL := hid_intro hl
  have HE := hid_intro (own_empty w w.heap.size 54 2 (Nat.le_refl _))
  clear hI hl hS
  go_enter Try.func43, Try.ntmps43
  go_wp2_with fail
  go_loopw [7, 8] (fun v z wr => ∃ k : Nat, k ≤ len ∧ z = .int .i64 k ∧ Hid (OwnN wr w.heap.size v (net (ds.take k) a m)) ∧ Hid (Below w.heap.size w wr)) (fun v z _ => len - (intOf z).toNat)
  case atStart => exact ⟨0, by omega, rfl, hid_intro ⟨HE.out, fun e => by cases e⟩, hid_intro (al _ _)⟩
  case round =>
    obtain ⟨k, hk, rfl, HV, HB⟩ := hrel
    by_cases hlt : k < len
    · have hlt2 : (k : Int) < (len : Int) := by omega
      have hkl : k < ds.length := by have := HL.out; omega
      obtain ⟨b, off, la, lc, rfl, hbl, c0, c1, c2, c3, hLi⟩ := (HI.out.below HB.out).at k hkl
      have HLi := hid_intro hLi
      have HNM := hid_intro (net_more ds k hkl a m)
      have HNF := hid_intro (net_facts (ds := ds) k (by omega) (fun i hi => HS.out i (by omega)) a m)
      have HRG := hid_intro (dB_lines (HS.out k hkl).1)
      have HO := hid_intro (of_cases a m (ds.getD k D.zero))
      clear hLi
      generalize ds.getD k D.zero = X at *
      obtain ⟨xa, xm, xs, xl⟩ := X
      dsimp only at c0 c1 c3
      rcases HO.out with ⟨q1, q2⟩ | ⟨q1, q3, q2⟩ | ⟨q1, q3, q2⟩
      · dsimp only at q1
        rw [q2, cond_false] at HNM
        go_wp2_with fail
        go_roundw
        case rel => exact ⟨k + 1, by omega, by go_num, hid_intro (by rw [HNM.out]; exact HV.out), HB⟩
        case measure => simp [intOf]; omega
      · dsimp only at q1 q3
        rw [q2, cond_false] at HNM
        go_wp2_with fail
        go_roundw
        case rel => exact ⟨k + 1, by omega, by go_num, hid_intro (by rw [HNM.out]; exact HV.out), HB⟩
        case measure => simp [intOf]; omega
      · dsimp only at q1 q3
        rw [q2, cond_true] at HNM
        obtain ⟨g, cp, rfl, g1, g2, g3, g4, g5⟩ := HV.out.open
        have h6 : xl.length ≤ 6 := HRG.out.1
        have HAD := hid_intro (sadd g 0 cp (net (ds.take k) a m) la lc xl 1 (6000000000000000 * (k : Int)) wr (.inl rfl) (by omega) (right_bd HRG.out) HNF.out.1 (by have := HNF.out.2.1; omega) (by omega) HNF.out.2.2 g5 HLi.out)
        generalize net (ds.take k) a m = NL at *
        generalize xl.length = ll at *
        generalize NL.length = nl at *
        clear g5
        go_wp2_with fail
        refine HAD.out.mono ?_
        rintro e w2 ⟨v, rfl, hv, hb⟩
        have HV2 : Hid (OwnN w2 w.heap.size v (all NL xl 1)) := hid_intro ⟨own_low hv.1 HB.out.size, hv.2⟩
        have HB2 := hid_intro (HB.out.trans (hb.mono HB.out.size))
        clear hv hb
        go_wp2_with fail
        go_roundw
        case rel => exact ⟨k + 1, by omega, by go_num, hid_intro (by rw [HNM.out]; exact HV2.out), HB2⟩
        case measure => simp [intOf]; omega
    · have hlt2 : ¬ (k : Int) < (len : Int) := by omega
      obtain rfl : k = len := by omega
      rw [HEND.out] at HV
      go_wp2_with fail
      go_ret
      exact ⟨_, rfl, HV.out, HB.out⟩
end LedR
end Go.Proofs.Ytbecgngmpjajaaa
namespace Go.Proofs.Ytbecgngmpjajaaa
open Go.ChangeShapes Go.WideShapes Go.ChangeAt Go.RowKit
set_option linter.unusedVariables false
namespace LedR
open LinR RowG LtR NetR DocR
theorem rows_step {rb M k nb : Nat} {ds : List D} {W W' : World} {Dm : DataW Value} {f : ByteArray → Int → Nat} (hk : k < ds.length) (hg : Good (ds.getD k D.zero).a (ds.getD k D.zero).mo)
    (h1 : W.ownsMap Try.prog 96 RV rb M Dm)
    (h2 : ∀ kl, Maps.has Dm kl = true → ∃ a m, Good a m ∧ kl = kP a m ∧ cnt (ds.take k) a m ≠ 0)
    (h3 : ∀ a m, cnt (ds.take k) a m ≠ 0 → Good a m ∧ (∀ z, Dm.atKey (kP a m) z = .held (.agg #[.int .i64 (cnt (ds.take k) a m : Nat), .map (some (f a m))])) ∧ rb < f a m ∧ f a m < W.heap.size ∧ ∃ Dn M', M' ≤ 6 * (ds.take k).length ∧ W.ownsMap Try.prog 9 (plainElem (H := Value) Try.prog 2) (f a m) M' Dn ∧ NetM Dn (net (ds.take k) a m))
    (h4 : ∀ a m a' m', cnt (ds.take k) a m ≠ 0 → cnt (ds.take k) a' m' ≠ 0 → f a m = f a' m' → a = a' ∧ m = m')
    (hnb : rb < nb ∧ nb < W'.heap.size)
    (hnew : (cnt (ds.take k) (ds.getD k D.zero).a (ds.getD k D.zero).mo ≠ 0 ∧ nb = f (ds.getD k D.zero).a (ds.getD k D.zero).mo) ∨ (cnt (ds.take k) (ds.getD k D.zero).a (ds.getD k D.zero).mo = 0 ∧ W.heap.size ≤ nb))
    (hrows : W'.ownsMap Try.prog 96 RV rb (M + 1) (Dm.put (kP (ds.getD k D.zero).a (ds.getD k D.zero).mo) (.held (.agg #[.int .i64 ((cnt (ds.take k) (ds.getD k D.zero).a (ds.getD k D.zero).mo : Nat) + 1), .map (some nb)]))))
    (hnet : ∃ Dn M', M' ≤ 6 * (k + 1) ∧ W'.ownsMap Try.prog 9 (plainElem (H := Value) Try.prog 2) nb M' Dn ∧ NetM Dn (all (net (ds.take k) (ds.getD k D.zero).a (ds.getD k D.zero).mo) (ds.getD k D.zero).ls 1))
    (hoth : ∀ b, b < W.heap.size → b ≠ rb → b ≠ nb → W'.heap[b]? = W.heap[b]?) (hsz : W.heap.size ≤ W'.heap.size) :
    RowsM rb (M + 1) (ds.take (k + 1)) W' := by
  have htl : (ds.take (k + 1)).length = k + 1 := by simp; omega
  have htk : (ds.take k).length = k := by simp; omega
  have hcm := fun a m => cnt_more ds k hk a m
  have hnm := fun a m => net_more ds k hk a m
  generalize hX : ds.getD k D.zero = X at *
  have hself : of X.a X.mo X = true := of_self X
  have hoth2 : ∀ a m, ¬ (a = X.a ∧ m = X.mo) → of a m X = false := by
    intro a m hn
    cases h : of a m X
    · rfl
    · obtain ⟨e1, e2⟩ := of_iff.1 h
      exact absurd ⟨e1.symm, e2.symm⟩ hn
  have hkeep : ∀ b n Dn, b < W.heap.size → b ≠ rb → b ≠ nb → W.ownsMap Try.prog 9 (plainElem (H := Value) Try.prog 2) b n Dn → W'.ownsMap Try.prog 9 (plainElem (H := Value) Try.prog 2) b n Dn := by
    intro b n Dn hb n1 n2 ⟨es, clock, q1, q2⟩
    exact ⟨es, clock, (hoth b hb n1 n2).trans q1, q2⟩
  have hmono : ∀ a m, cnt (ds.take k) a m ≠ 0 → cnt (ds.take (k + 1)) a m ≠ 0 := fun a m h => by rw [hcm]; omega
  obtain ⟨f', hf1, hf2⟩ : ∃ f' : ByteArray → Int → Nat, f' X.a X.mo = nb ∧ ∀ a m, ¬ (a = X.a ∧ m = X.mo) → f' a m = f a m := ⟨fun a m => if a = X.a ∧ m = X.mo then nb else f a m, by simp, fun a m h => by simp [h]⟩
  refine ⟨_, f', hrows, fun kl hh => ?_, fun a m hc => ?_, fun a m a' m' hc hc' e => ?_⟩
  · by_cases e : kl = kP X.a X.mo
    · exact ⟨X.a, X.mo, hg, e, by rw [hcm, hself, cond_true]; omega⟩
    · rw [Maps.has_put_other e] at hh
      obtain ⟨a, m, g, e2, hc⟩ := h2 kl hh
      exact ⟨a, m, g, e2, hmono a m hc⟩
  · by_cases e : a = X.a ∧ m = X.mo
    · obtain ⟨rfl, rfl⟩ := e
      obtain ⟨Dn, M', q1, q2, q3⟩ := hnet
      refine ⟨hg, fun z => ?_, ?_, ?_, Dn, M', by rw [htl]; exact q1, ?_, ?_⟩
      · rw [Maps.atKey_put_same h1.isMap (kP_key _ _), hcm, hself, cond_true, hf1]
        rfl
      · rw [hf1]; exact hnb.1
      · rw [hf1]; exact hnb.2
      · rw [hf1]; exact q2
      · rw [hnm, hself, cond_true]; exact q3
    · have h0 := hoth2 a m e
      rw [hcm, h0, cond_false, Nat.add_zero] at hc
      obtain ⟨g, p1, p2, p3, Dn, M', p4, p5, p6⟩ := h3 a m hc
      have hne : f a m ≠ nb := by
        rcases hnew with ⟨hn, en⟩ | ⟨_, hn⟩
        · intro e2
          exact e (h4 a m X.a X.mo hc hn (e2.trans en))
        · omega
      refine ⟨g, fun z => ?_, ?_, ?_, Dn, M', by rw [htl]; rw [htk] at p4; omega, ?_, ?_⟩
      · rw [Maps.atKey_put_other (fun e2 => e (kP_inj g hg e2)), p1, hcm, h0, cond_false, Nat.add_zero, hf2 a m e]
      · rw [hf2 a m e]; exact p2
      · rw [hf2 a m e]; omega
      · rw [hf2 a m e]; exact hkeep _ _ _ p3 (by omega) hne p5
      · rw [hnm, h0, cond_false]; exact p6
  · have key : ∀ a m, cnt (ds.take (k + 1)) a m ≠ 0 → ¬ (a = X.a ∧ m = X.mo) → cnt (ds.take k) a m ≠ 0 ∧ f a m ≠ nb := by
      intro a m hc hn
      rw [hcm, hoth2 a m hn, cond_false, Nat.add_zero] at hc
      refine ⟨hc, ?_⟩
      rcases hnew with ⟨hn2, en⟩ | ⟨_, hn2⟩
      · intro e2
        exact hn (h4 a m X.a X.mo hc hn2 (e2.trans en))
      · have := (h3 a m hc).2.2.2.1; omega
    by_cases e1 : a = X.a ∧ m = X.mo
    · by_cases e2 : a' = X.a ∧ m' = X.mo
      · exact ⟨e1.1.trans e2.1.symm, e1.2.trans e2.2.symm⟩
      · rw [e1.1, e1.2, hf1, hf2 a' m' e2] at e
        exact absurd e.symm (key a' m' hc' e2).2
    · by_cases e2 : a' = X.a ∧ m' = X.mo
      · rw [e2.1, e2.2, hf1, hf2 a m e1] at e
        exact absurd e (key a m hc e1).2
      · rw [hf2 a m e1, hf2 a' m' e2] at e
        exact h4 a m a' m' (key a m hc e1).1 (key a' m' hc' e2).1 e
end LedR
end Go.Proofs.Ytbecgngmpjajaaa
namespace Go.Proofs.Ytbecgngmpjajaaa
open Go.ChangeShapes Go.WideShapes Go.ChangeAt Go.RowKit
set_option linter.unusedVariables false
namespace LedR
open LinR RowG LtR NetR DocR
theorem new_at {w : World} {n : Nat} (h : n = w.heap.size) (cs : List Value) (T : TypeId) : BlkW n cs (w.alloc (.cells cs.toArray T)) := by subst h; exact BlkW.new w cs T
theorem omade_at {P : Program} {k : TypeId} {R : Value → Option (DataW Value × List MemPlace)} {w : World} {n : Nat} (h : n = w.heap.size) : (w.alloc (.map #[] 0)).ownsMap P k R n 0 (.map []) := by subst h; exact World.ownsMap_made w P k R
theorem al2 (w : World) (o1 o2 : Obj) : Below w.heap.size w ((w.alloc o1).alloc o2) := (al w o1).trans ((al _ o2).mono (by simp))
theorem al3 (w : World) (o1 o2 o3 : Obj) : Below w.heap.size w (((w.alloc o1).alloc o2).alloc o3) := (al2 w o1 o2).trans ((al _ o3).mono (by simp; omega))
theorem al4 (w : World) (o1 o2 o3 o4 : Obj) : Below w.heap.size w ((((w.alloc o1).alloc o2).alloc o3).alloc o4) := (al3 w o1 o2 o3).trans ((al _ o4).mono (by simp; omega))
/-- What is handed back. -/
def RowsR (ds : List D) (w : World) (e : Ending) (w' : World) : Prop := Below w.heap.size w w' ∧ ((lB ds = false ∧ ∃ c, e = .returned (.tuple #[.map none, .iface 94 (.agg #[.int .i64 c])])) ∨ (lB ds = true ∧ ∃ M, e = .returned (.tuple #[.map (some w.heap.size), .nilIface]) ∧ RowsM w.heap.size M ds w'))
set_option maxRecDepth 100000 in
set_option maxHeartbeats 8000000 in
theorem irows (ao : Option Addr) (cap : Nat) (ds : List D) (w : World) (hlen : ds.length ≤ 1048576) (hSm : ∀ d ∈ ds, d.Sm) (hwf : ∀ d ∈ ds, (Lit.int .i64 d.mo).wf = true) (hI : Dcs ao ds w) :
    Calls Try.prog 34 #[.slice ao ds.length cap] w (RowsR ds w) := by
  obtain ⟨len, hl⟩ : ∃ len, len = ds.length := ⟨_, rfl⟩
  have HI := hid_intro hI
  have HSm := hid_intro hSm
  have HWf := hid_intro hwf
  have HNO : Hid (∀ c w', lB ds = false → Below w.heap.size w w' → RowsR ds w (.returned (.tuple #[.map none, .iface 94 (.agg #[.int .i64 c])])) w') := hid_intro (fun c w' h hb => ⟨hb, .inl ⟨h, c, rfl⟩⟩)
  have HYES : Hid (∀ M w', lB ds = true → Below w.heap.size w w' → RowsM w.heap.size M ds w' → RowsR ds w (.returned (.tuple #[.map (some w.heap.size), .nilIface])) w') := hid_intro (fun M w' h hb hr => ⟨hb, .inr ⟨h, M, rfl, hr⟩⟩)
  generalize RowsR ds w = PP at *
  rw [← hl] at hlen ⊢
  have HL := hid_intro hl
  have hmm := @run_makeMap Try.prog
  clear hI hSm hwf hl
  by_cases hbig : 30 < len
  · have hbig2 : (30 : Int) < (len : Int) := by omega
    have HE : Hid (lB ds = false) := hid_intro (lB_no (fun h => by have := h.1; have := HL.out; omega))
    go_enter Try.func34, Try.ntmps34
    go_wp2_with fail
    try go_ret2
    exact HNO.out _ _ HE.out (Below.refl _ _)
  have hbig2 : ¬ (30 : Int) < (len : Int) := by omega
  have HR0 := hid_intro (rows_nil w)
  have HB0 := hid_intro (al w (.map #[] 0))
  go_enter Try.func34, Try.ntmps34
  go_wp2_with fail
  go_loopw [21] (fun z wr => ∃ k : Nat, k ≤ len ∧ z = .int .i64 k ∧ Hid (RowsM w.heap.size k (ds.take k) wr) ∧ Hid (SOk ds k) ∧ Hid (Below w.heap.size w wr)) (fun z _ => len - (intOf z).toNat)
  case atStart => exact ⟨0, by omega, rfl, HR0, hid_intro (SOk.zero ds), HB0⟩
  case round =>
    clear HR0 HB0
    obtain ⟨k, hk, rfl, HR, HS, HB⟩ := hrel
    by_cases hlt : k < len
    · have hlt2 : (k : Int) < (len : Int) := by omega
      have hkl : k < ds.length := by have := HL.out; omega
      obtain ⟨b, off, la, lc, rfl, hbl, c0, c1, c2, c3, hLi⟩ := (HI.out.below HB.out).at k hkl
      have hmem := getD_mem (z := D.zero) ds k hkl
      have HG : Hid (Good (ds.getD k D.zero).a (ds.getD k D.zero).mo) := hid_intro ⟨(HSm.out _ hmem).1, HWf.out _ hmem⟩
      have HX := hid_intro (HSm.out _ hmem)
      obtain ⟨Dm, f, h1, h2, h3, h4⟩ := HR.out
      have HST := hid_intro (fun nb W W' => rows_step (nb := nb) (W := W) (W' := W') (Dm := Dm) (f := f) (M := k) (rb := w.heap.size) hkl HG.out)
      have HKY := hid_intro (keyP HG.out)
      have HO := hid_intro h1
      have HLi := hid_intro hLi
      have hrb := h1.lt
      clear hLi hmem
      obtain ⟨X, hX⟩ : ∃ X, X = ds.getD k D.zero := ⟨_, rfl⟩
      rw [← hX] at c0 c1 c2 c3 HG HX HKY HLi
      have HXX := hid_intro hX
      clear hX
      obtain ⟨xa, xm, xs, xl⟩ := X
      dsimp only at c0 c1 c2 c3 HKY HG
      have H1 := hid_intro h1
      have H2 := hid_intro h2
      have H3 := hid_intro h3
      have H4 := hid_intro h4
      generalize hxl : xl.length = ll at *
      obtain ⟨c, hc0⟩ : ∃ c : Int, c = ((cnt (ds.take k) xa xm : Nat) : Int) := ⟨_, rfl⟩
      have HC0 := hid_intro hc0
      by_cases hc : cnt (ds.take k) xa xm = 0
      · have hhas : Maps.has Dm (kP xa xm) = false := by
          cases hh : Maps.has Dm (kP xa xm)
          · rfl
          · obtain ⟨a, m, g, e, hn⟩ := h2 _ hh
            obtain ⟨rfl, rfl⟩ := kP_inj HG.out g e
            exact absurd hc hn
        obtain ⟨v, ps, hrun, hv⟩ := ((h1.alloc (.cells #[.string xa, .int .i64 xm, .int .i64 xs, .slice la ll lc] 29)).alloc (.cells #[.string xa, .int .i64 xm] 96)).look_ok keyedP Try.underlying70 (zeroR _) (zd := .held (.agg #[.int .i64 0, .map none])) (zp := []) rfl HKY.out
        obtain rfl : v = .agg #[.int .i64 c, .map none] := by
          rw [Maps.atKey_of_not_has hhas] at hv
          simp [RV] at hv
          rw [hc0, hc]
          exact hv.1
        rw [hhas] at hrun
        clear hv h1 h2 h3 h4 hhas hc0
        go_wp2_with fail
        obtain ⟨W2, hW2⟩ : ∃ W2, W2 = (((wr.alloc (.cells #[.string xa, .int .i64 xm, .int .i64 xs, .slice la ll lc] 29)).alloc (.cells #[.string xa, .int .i64 xm] 96)).alloc (.cells #[.int .i64 c, .map (some (wr.heap.size + 1 + 1 + 1))] 100)).alloc (.map #[] 0) := ⟨_, rfl⟩
        obtain ⟨nb, hnb⟩ : ∃ nb, nb = wr.heap.size + 1 + 1 + 1 := ⟨_, rfl⟩
        have HBW : Hid (Below wr.heap.size wr W2) := hid_intro (by rw [hW2]; exact al4 _ _ _ _ _)
        have X1 : Hid (BlkW wr.heap.size [.string xa, .int .i64 xm, .int .i64 xs, .slice la ll lc] W2) := hid_intro (by rw [hW2]; exact (((BlkW.new wr [.string xa, .int .i64 xm, .int .i64 xs, .slice la ll lc] 29).below (al _ _)).below (al _ _)).below (al _ _))
        have X2 : Hid (BlkW (wr.heap.size + 1) [.string xa, .int .i64 xm] W2) := hid_intro (by rw [hW2]; exact ((new_at (w := wr.alloc (.cells #[.string xa, .int .i64 xm, .int .i64 xs, .slice la ll lc] 29)) (by simp) [.string xa, .int .i64 xm] 96).below (al _ _)).below (al _ _))
        have X3 : Hid (BlkW (wr.heap.size + 1 + 1) [.int .i64 c, .map (some nb)] W2) := hid_intro (by rw [hW2, hnb]; exact (new_at (w := (wr.alloc (.cells #[.string xa, .int .i64 xm, .int .i64 xs, .slice la ll lc] 29)).alloc (.cells #[.string xa, .int .i64 xm] 96)) (by simp) _ 100).below (al _ _))
        obtain ⟨Dn, M', hM', hNM, hNN⟩ : ∃ Dn M', M' ≤ 6 * k ∧ W2.ownsMap Try.prog 9 (plainElem (H := Value) Try.prog 2) nb M' Dn ∧ NetM Dn (net (ds.take k) xa xm) := ⟨.map [], 0, by omega, by rw [hW2, hnb]; exact omade_at (by simp), by rw [net_zero hc]; exact netM_nil⟩
        have HNM := hid_intro hNM
        have HNN := hid_intro hNN
        have HNB : Hid (w.heap.size < nb ∧ nb < W2.heap.size ∧ ((cnt (ds.take k) xa xm ≠ 0 ∧ nb = f xa xm) ∨ (cnt (ds.take k) xa xm = 0 ∧ wr.heap.size ≤ nb)) ∧ nb ≠ wr.heap.size ∧ nb ≠ (wr.heap.size + 1) ∧ nb ≠ (wr.heap.size + 1 + 1)) := hid_intro (by rw [hnb, hW2]; refine ⟨?_, ?_, .inr ⟨hc, ?_⟩, ?_, ?_, ?_⟩ <;> (try simp) <;> (try omega))
        rw [← hW2]
        rw [← hnb]
        clear hW2 hnb hNM hNN hrun
        replace HO := hid_intro (omap_below HO.out HBW.out)
        have HD : Hid (Calls Try.prog 54 #[.agg #[.string xa, .int .i64 xm, .int .i64 xs, .slice la ll lc]] W2 fun e w' => e = .returned (.bool (dB ⟨xa, xm, xs, xl⟩)) ∧ Below W2.heap.size W2 w') := hid_intro (by
          have h := impl_doc ⟨xa, xm, xs, xl⟩ la lc W2 HX.out (HLi.out.below HBW.out)
          simp only [dcells, hxl] at h
          exact h)
        have HDB := hid_intro (fun h : dB ⟨xa, xm, xs, xl⟩ = true => dB_lines h)
        have HDN : Hid (dB ⟨xa, xm, xs, xl⟩ = false ∨ xs ≠ c → lB ds = false) := hid_intro (fun h => lB_no (fun hr => by
          have h1 := hr.2.1 k hkl
          rw [← HXX.out] at h1
          rcases h with h | h
          · rw [h] at h1; exact absurd h1.1 (by simp)
          · exact h (h1.2.trans HC0.out.symm)))
        have HSO : Hid (dB ⟨xa, xm, xs, xl⟩ = true → xs = c → SOk ds (k + 1)) := hid_intro (fun h1 h2 => HS.out.more (by rw [← HXX.out]; exact h1) (by rw [← HXX.out]; exact h2.trans HC0.out))
        generalize dB ⟨xa, xm, xs, xl⟩ = r at *
        have a2 : W2.cell? ⟨wr.heap.size, 2, none⟩ = some (.int .i64 xs) := X1.out.1.2 2 (by simp)
        have a3 : W2.cell? ⟨wr.heap.size, 3, none⟩ = some (.slice la ll lc) := X1.out.1.2 3 (by simp)
        have a1l := X1.out.1.1
        have p0 : W2.cell? ⟨(wr.heap.size + 1), 0, none⟩ = some (.string xa) := X2.out.1.2 0 (by simp)
        have p1 : W2.cell? ⟨(wr.heap.size + 1), 1, none⟩ = some (.int .i64 xm) := X2.out.1.2 1 (by simp)
        have p2l := X2.out.1.1
        have r0 : W2.cell? ⟨(wr.heap.size + 1 + 1), 0, none⟩ = some (.int .i64 c) := X3.out.1.2 0 (by simp)
        have r1 : W2.cell? ⟨(wr.heap.size + 1 + 1), 1, none⟩ = some (.map (some nb)) := X3.out.1.2 1 (by simp)
        have rf : W2.frozen? ⟨(wr.heap.size + 1 + 1), 0, none⟩ = false := X3.out.2 0 (by simp)
        have r3l := X3.out.1.1
        refine HD.out.mono ?_
        rintro e w3 ⟨rfl, hb3⟩
        clear a2 a3 a1l p0 p1 p2l r0 r1 rf r3l
        have HB3 := hid_intro (HB.out.trans ((HBW.out.trans (hb3.mono HBW.out.size)).mono HB.out.size))
        have HBW3 := hid_intro (HBW.out.trans (hb3.mono HBW.out.size))
        have hsz3 := hb3.size
        replace X1 := hid_intro (X1.out.below hb3)
        replace X2 := hid_intro (X2.out.below hb3)
        replace X3 := hid_intro (X3.out.below hb3)
        replace HNM := hid_intro (omap_below HNM.out hb3)
        replace HO := hid_intro (omap_below HO.out hb3)
        clear hb3 HD HBW
        cases r
        · have HE := hid_intro (HDN.out (.inl rfl))
          have a2 : w3.cell? ⟨wr.heap.size, 2, none⟩ = some (.int .i64 xs) := X1.out.1.2 2 (by simp)
          have a3 : w3.cell? ⟨wr.heap.size, 3, none⟩ = some (.slice la ll lc) := X1.out.1.2 3 (by simp)
          have a1l := X1.out.1.1
          have p0 : w3.cell? ⟨(wr.heap.size + 1), 0, none⟩ = some (.string xa) := X2.out.1.2 0 (by simp)
          have p1 : w3.cell? ⟨(wr.heap.size + 1), 1, none⟩ = some (.int .i64 xm) := X2.out.1.2 1 (by simp)
          have p2l := X2.out.1.1
          have r0 : w3.cell? ⟨(wr.heap.size + 1 + 1), 0, none⟩ = some (.int .i64 c) := X3.out.1.2 0 (by simp)
          have r1 : w3.cell? ⟨(wr.heap.size + 1 + 1), 1, none⟩ = some (.map (some nb)) := X3.out.1.2 1 (by simp)
          have rf : w3.frozen? ⟨(wr.heap.size + 1 + 1), 0, none⟩ = false := X3.out.2 0 (by simp)
          have r3l := X3.out.1.1
          go_wp2_with fail
          try go_ret2
          exact HNO.out _ _ HE.out HB3.out
        have HRG := hid_intro (HDB.out rfl)
        by_cases hsq : xs = c
        · have HSK := hid_intro (HSO.out rfl hsq)
          subst hsq
          have hq : (xs != xs) = false := by simp
          have h6 : xl.length ≤ 6 := HRG.out.1
          have HNF := hid_intro (net_facts (ds := ds) k (by omega) HS.out xa xm)
          have HBR := hid_intro (bring_any la lc xl 1 nb M' Dn (net (ds.take k) xa xm) (6000000000000000 * (k : Int)) w3 (.inl rfl) (by omega) HX.out.2.2 (right_bd HRG.out) HNM.out (by omega) HNN.out (by omega) HNF.out.2.2 (HLi.out.below HBW3.out))
          rw [hxl] at HBR
          have a2 : w3.cell? ⟨wr.heap.size, 2, none⟩ = some (.int .i64 xs) := X1.out.1.2 2 (by simp)
          have a3 : w3.cell? ⟨wr.heap.size, 3, none⟩ = some (.slice la ll lc) := X1.out.1.2 3 (by simp)
          have a1l := X1.out.1.1
          have p0 : w3.cell? ⟨(wr.heap.size + 1), 0, none⟩ = some (.string xa) := X2.out.1.2 0 (by simp)
          have p1 : w3.cell? ⟨(wr.heap.size + 1), 1, none⟩ = some (.int .i64 xm) := X2.out.1.2 1 (by simp)
          have p2l := X2.out.1.1
          have r0 : w3.cell? ⟨(wr.heap.size + 1 + 1), 0, none⟩ = some (.int .i64 xs) := X3.out.1.2 0 (by simp)
          have r1 : w3.cell? ⟨(wr.heap.size + 1 + 1), 1, none⟩ = some (.map (some nb)) := X3.out.1.2 1 (by simp)
          have rf : w3.frozen? ⟨(wr.heap.size + 1 + 1), 0, none⟩ = false := X3.out.2 0 (by simp)
          have r3l := X3.out.1.1
          go_wp2_with fail
          refine HBR.out.mono ?_
          rintro e w4 ⟨rfl, ⟨D4, hO4, hN4⟩, _, hg4⟩
          clear a2 a3 a1l p0 p1 p2l r0 r1 rf r3l
          have hn := HNB.out
          have X1 := hid_intro (blkw_grown X1.out hg4 (by simp; omega))
          have X2 := hid_intro (blkw_grown X2.out hg4 (by simp; omega))
          have X3 := hid_intro (blkw_grown X3.out hg4 (by simp; omega))
          have HO4 := hid_intro (HO.out.kept hg4 (by simp; omega))
          have HN4 := hid_intro hO4
          have HM4 := hid_intro hN4
          have HB4 := hid_intro (HB3.out.grown hg4 HB3.out.size (fun k e => by cases e; omega))
          have HG4 := hid_intro hg4
          have hsz4 := hg4.size
          have hcw : wrap64 (xs + 1) = xs + 1 := by have := HC0.out; have := cnt_le (ds.take k) xa xm; have h2 : (ds.take k).length ≤ k := List.length_take_le k ds; unfold wrap64; omega
          have HO5 := hid_intro (HO4.out.setCell (a := ⟨(wr.heap.size + 1 + 1), 0, none⟩) (show w.heap.size ≠ (wr.heap.size + 1 + 1) by have := HB.out.size; omega) (.int .i64 (xs + 1)))
          have X25 := hid_intro (DocR.BlkW.other X2.out (wr.heap.size + 1 + 1) 0 (.int .i64 (xs + 1)) (by omega))
          have X35 := hid_intro (X3.out.set 0 (.int .i64 (xs + 1)) (by simp))
          clear hO4 hN4 hg4 HBR
          have a2 : w4.cell? ⟨wr.heap.size, 2, none⟩ = some (.int .i64 xs) := X1.out.1.2 2 (by simp)
          have a3 : w4.cell? ⟨wr.heap.size, 3, none⟩ = some (.slice la ll lc) := X1.out.1.2 3 (by simp)
          have a1l := X1.out.1.1
          have p0 : w4.cell? ⟨(wr.heap.size + 1), 0, none⟩ = some (.string xa) := X2.out.1.2 0 (by simp)
          have p1 : w4.cell? ⟨(wr.heap.size + 1), 1, none⟩ = some (.int .i64 xm) := X2.out.1.2 1 (by simp)
          have p2l := X2.out.1.1
          have r0 : w4.cell? ⟨(wr.heap.size + 1 + 1), 0, none⟩ = some (.int .i64 xs) := X3.out.1.2 0 (by simp)
          have r1 : w4.cell? ⟨(wr.heap.size + 1 + 1), 1, none⟩ = some (.map (some nb)) := X3.out.1.2 1 (by simp)
          have rf : w4.frozen? ⟨(wr.heap.size + 1 + 1), 0, none⟩ = false := X3.out.2 0 (by simp)
          have r3l := X3.out.1.1
          have q0 : (w4.setCell ⟨(wr.heap.size + 1 + 1), 0, none⟩ (.int .i64 (xs + 1))).cell? ⟨(wr.heap.size + 1), 0, none⟩ = some (.string xa) := X25.out.1.2 0 (by simp)
          have q1 : (w4.setCell ⟨(wr.heap.size + 1 + 1), 0, none⟩ (.int .i64 (xs + 1))).cell? ⟨(wr.heap.size + 1), 1, none⟩ = some (.int .i64 xm) := X25.out.1.2 1 (by simp)
          have t0 : (w4.setCell ⟨(wr.heap.size + 1 + 1), 0, none⟩ (.int .i64 (xs + 1))).cell? ⟨(wr.heap.size + 1 + 1), 0, none⟩ = some (.int .i64 (xs + 1)) := X35.out.1.2 0 (by simp)
          have t1 : (w4.setCell ⟨(wr.heap.size + 1 + 1), 0, none⟩ (.int .i64 (xs + 1))).cell? ⟨(wr.heap.size + 1 + 1), 1, none⟩ = some (.map (some nb)) := X35.out.1.2 1 (by simp)
          go_wp2_with (at_mapUpdate; refine wpList_mapUpdate_own _ rfl _ _ _ 70 rfl 96 100 keyedP Try.underlying70 RV w.heap.size k Dm rfl HO5.out (by unfold maxLen; omega) _ _ _ rfl rfl HKY.out (.held (.agg #[.int .i64 (xs + 1), .map (some nb)])) [] rfl ?_; intro w6 hown hgrow)
          have HRS : Hid (RowsM w.heap.size (k + 1) (ds.take (k + 1)) w6) := hid_intro (by
            have hz6 := hgrow.size
            have hz5 : (w4.setCell ⟨(wr.heap.size + 1 + 1), 0, none⟩ (.int .i64 (xs + 1))).heap.size = w4.heap.size := by simp
            have hst := HST.out nb wr w6
            rw [← HXX.out] at hst
            dsimp only at hst
            refine hst H1.out H2.out H3.out H4.out ⟨hn.1, by omega⟩ hn.2.2.1 (by rw [← HC0.out]; exact hown) ⟨D4, M' + ll, by omega, ?_, HM4.out⟩ (fun b0 hb0 n1 n2 => ?_) (by have := HBW3.out.size; omega)
            · exact (HN4.out.setCell (a := ⟨(wr.heap.size + 1 + 1), 0, none⟩) (show nb ≠ (wr.heap.size + 1 + 1) by omega) _).kept hgrow (by simp; omega)
            · have e1 := hgrow.block b0 (by rw [hz5]; have := HBW3.out.size; omega) (by simpa using n1)
              have e2 : (w4.setCell ⟨(wr.heap.size + 1 + 1), 0, none⟩ (.int .i64 (xs + 1))).heap[b0]? = w4.heap[b0]? := by
                simp only [World.setCell]
                rw [Array.getElem?_modify, if_neg (by omega)]
              have e3 := HG4.out.block b0 (by have := HBW3.out.size; omega) (by simpa using n2)
              exact ((e1.trans e2).trans e3).trans (HBW3.out.block b0 hb0))
          have HB6 : Hid (Below w.heap.size w w6) := hid_intro ((HB4.out.setCell (p := ⟨(wr.heap.size + 1 + 1), 0, none⟩) (show w.heap.size ≤ (wr.heap.size + 1 + 1) by have := HB.out.size; omega) _).grown hgrow (by have := HB4.out.size; simpa using this) (fun k e => by cases e; exact Nat.le_refl _))
          clear a2 a3 a1l p0 p1 p2l r0 r1 rf r3l
          clear hown hgrow q0 q1 t0 t1
          go_wp2_with fail
          go_roundw
          case rel => exact ⟨k + 1, by omega, by go_num, HRS, HSK, HB6⟩
          case measure => simp [intOf]; omega
        · have hq : (xs != c) = true := by simpa using hsq
          have HE := hid_intro (HDN.out (.inr hsq))
          have a2 : w3.cell? ⟨wr.heap.size, 2, none⟩ = some (.int .i64 xs) := X1.out.1.2 2 (by simp)
          have a3 : w3.cell? ⟨wr.heap.size, 3, none⟩ = some (.slice la ll lc) := X1.out.1.2 3 (by simp)
          have a1l := X1.out.1.1
          have p0 : w3.cell? ⟨(wr.heap.size + 1), 0, none⟩ = some (.string xa) := X2.out.1.2 0 (by simp)
          have p1 : w3.cell? ⟨(wr.heap.size + 1), 1, none⟩ = some (.int .i64 xm) := X2.out.1.2 1 (by simp)
          have p2l := X2.out.1.1
          have r0 : w3.cell? ⟨(wr.heap.size + 1 + 1), 0, none⟩ = some (.int .i64 c) := X3.out.1.2 0 (by simp)
          have r1 : w3.cell? ⟨(wr.heap.size + 1 + 1), 1, none⟩ = some (.map (some nb)) := X3.out.1.2 1 (by simp)
          have rf : w3.frozen? ⟨(wr.heap.size + 1 + 1), 0, none⟩ = false := X3.out.2 0 (by simp)
          have r3l := X3.out.1.1
          go_wp2_with fail
          try go_ret2
          exact HNO.out _ _ HE.out HB3.out
      · have hatk := (h3 xa xm hc).2.1
        have hhas : Maps.has Dm (kP xa xm) = true := Maps.has_true_of_atKey hatk
        obtain ⟨v, ps, hrun, hv⟩ := ((h1.alloc (.cells #[.string xa, .int .i64 xm, .int .i64 xs, .slice la ll lc] 29)).alloc (.cells #[.string xa, .int .i64 xm] 96)).look_ok keyedP Try.underlying70 (zeroR _) (zd := .held (.agg #[.int .i64 0, .map none])) (zp := []) rfl HKY.out
        obtain rfl : v = .agg #[.int .i64 c, .map (some (f xa xm))] := by
          rw [hatk, ← hc0] at hv
          simp [RV] at hv
          exact hv.1
        rw [hhas] at hrun
        clear hv h1 h2 h3 h4 hhas hc0 hatk
        go_wp2_with fail
        obtain ⟨W2, hW2⟩ : ∃ W2, W2 = ((wr.alloc (.cells #[.string xa, .int .i64 xm, .int .i64 xs, .slice la ll lc] 29)).alloc (.cells #[.string xa, .int .i64 xm] 96)).alloc (.cells #[.int .i64 c, .map (some (f xa xm))] 100) := ⟨_, rfl⟩
        obtain ⟨nb, hnb⟩ : ∃ nb, nb = f xa xm := ⟨_, rfl⟩
        have HBW : Hid (Below wr.heap.size wr W2) := hid_intro (by rw [hW2]; exact al3 _ _ _ _)
        have X1 : Hid (BlkW wr.heap.size [.string xa, .int .i64 xm, .int .i64 xs, .slice la ll lc] W2) := hid_intro (by rw [hW2]; exact ((BlkW.new wr [.string xa, .int .i64 xm, .int .i64 xs, .slice la ll lc] 29).below (al _ _)).below (al _ _))
        have X2 : Hid (BlkW (wr.heap.size + 1) [.string xa, .int .i64 xm] W2) := hid_intro (by rw [hW2]; exact (new_at (w := wr.alloc (.cells #[.string xa, .int .i64 xm, .int .i64 xs, .slice la ll lc] 29)) (by simp) [.string xa, .int .i64 xm] 96).below (al _ _))
        have X3 : Hid (BlkW (wr.heap.size + 1 + 1) [.int .i64 c, .map (some nb)] W2) := hid_intro (by rw [hW2, hnb]; exact new_at (w := (wr.alloc (.cells #[.string xa, .int .i64 xm, .int .i64 xs, .slice la ll lc] 29)).alloc (.cells #[.string xa, .int .i64 xm] 96)) (by simp) _ 100)
        obtain ⟨Dn, M', hM', hNM, hNN⟩ : ∃ Dn M', M' ≤ 6 * k ∧ W2.ownsMap Try.prog 9 (plainElem (H := Value) Try.prog 2) nb M' Dn ∧ NetM Dn (net (ds.take k) xa xm) := by
          obtain ⟨_, _, _, q3, Dn, M', q4, q5, q6⟩ := H3.out xa xm hc
          refine ⟨Dn, M', ?_, ?_, q6⟩
          · have h2 : (ds.take k).length ≤ k := List.length_take_le k ds
            omega
          · rw [hnb]; exact omap_below q5 HBW.out
        have HNM := hid_intro hNM
        have HNN := hid_intro hNN
        have HNB : Hid (w.heap.size < nb ∧ nb < W2.heap.size ∧ ((cnt (ds.take k) xa xm ≠ 0 ∧ nb = f xa xm) ∨ (cnt (ds.take k) xa xm = 0 ∧ wr.heap.size ≤ nb)) ∧ nb ≠ wr.heap.size ∧ nb ≠ (wr.heap.size + 1) ∧ nb ≠ (wr.heap.size + 1 + 1)) := hid_intro (by
          obtain ⟨_, _, q2, q3, _⟩ := H3.out xa xm hc
          have := HBW.out.size
          rw [hnb]
          exact ⟨q2, by omega, .inl ⟨hc, rfl⟩, by omega, by omega, by omega⟩)
        rw [← hW2]
        rw [← hnb]
        clear hW2 hnb hNM hNN hrun
        replace HO := hid_intro (omap_below HO.out HBW.out)
        have HD : Hid (Calls Try.prog 54 #[.agg #[.string xa, .int .i64 xm, .int .i64 xs, .slice la ll lc]] W2 fun e w' => e = .returned (.bool (dB ⟨xa, xm, xs, xl⟩)) ∧ Below W2.heap.size W2 w') := hid_intro (by
          have h := impl_doc ⟨xa, xm, xs, xl⟩ la lc W2 HX.out (HLi.out.below HBW.out)
          simp only [dcells, hxl] at h
          exact h)
        have HDB := hid_intro (fun h : dB ⟨xa, xm, xs, xl⟩ = true => dB_lines h)
        have HDN : Hid (dB ⟨xa, xm, xs, xl⟩ = false ∨ xs ≠ c → lB ds = false) := hid_intro (fun h => lB_no (fun hr => by
          have h1 := hr.2.1 k hkl
          rw [← HXX.out] at h1
          rcases h with h | h
          · rw [h] at h1; exact absurd h1.1 (by simp)
          · exact h (h1.2.trans HC0.out.symm)))
        have HSO : Hid (dB ⟨xa, xm, xs, xl⟩ = true → xs = c → SOk ds (k + 1)) := hid_intro (fun h1 h2 => HS.out.more (by rw [← HXX.out]; exact h1) (by rw [← HXX.out]; exact h2.trans HC0.out))
        generalize dB ⟨xa, xm, xs, xl⟩ = r at *
        have a2 : W2.cell? ⟨wr.heap.size, 2, none⟩ = some (.int .i64 xs) := X1.out.1.2 2 (by simp)
        have a3 : W2.cell? ⟨wr.heap.size, 3, none⟩ = some (.slice la ll lc) := X1.out.1.2 3 (by simp)
        have a1l := X1.out.1.1
        have p0 : W2.cell? ⟨(wr.heap.size + 1), 0, none⟩ = some (.string xa) := X2.out.1.2 0 (by simp)
        have p1 : W2.cell? ⟨(wr.heap.size + 1), 1, none⟩ = some (.int .i64 xm) := X2.out.1.2 1 (by simp)
        have p2l := X2.out.1.1
        have r0 : W2.cell? ⟨(wr.heap.size + 1 + 1), 0, none⟩ = some (.int .i64 c) := X3.out.1.2 0 (by simp)
        have r1 : W2.cell? ⟨(wr.heap.size + 1 + 1), 1, none⟩ = some (.map (some nb)) := X3.out.1.2 1 (by simp)
        have rf : W2.frozen? ⟨(wr.heap.size + 1 + 1), 0, none⟩ = false := X3.out.2 0 (by simp)
        have r3l := X3.out.1.1
        refine HD.out.mono ?_
        rintro e w3 ⟨rfl, hb3⟩
        clear a2 a3 a1l p0 p1 p2l r0 r1 rf r3l
        have HB3 := hid_intro (HB.out.trans ((HBW.out.trans (hb3.mono HBW.out.size)).mono HB.out.size))
        have HBW3 := hid_intro (HBW.out.trans (hb3.mono HBW.out.size))
        have hsz3 := hb3.size
        replace X1 := hid_intro (X1.out.below hb3)
        replace X2 := hid_intro (X2.out.below hb3)
        replace X3 := hid_intro (X3.out.below hb3)
        replace HNM := hid_intro (omap_below HNM.out hb3)
        replace HO := hid_intro (omap_below HO.out hb3)
        clear hb3 HD HBW
        cases r
        · have HE := hid_intro (HDN.out (.inl rfl))
          have a2 : w3.cell? ⟨wr.heap.size, 2, none⟩ = some (.int .i64 xs) := X1.out.1.2 2 (by simp)
          have a3 : w3.cell? ⟨wr.heap.size, 3, none⟩ = some (.slice la ll lc) := X1.out.1.2 3 (by simp)
          have a1l := X1.out.1.1
          have p0 : w3.cell? ⟨(wr.heap.size + 1), 0, none⟩ = some (.string xa) := X2.out.1.2 0 (by simp)
          have p1 : w3.cell? ⟨(wr.heap.size + 1), 1, none⟩ = some (.int .i64 xm) := X2.out.1.2 1 (by simp)
          have p2l := X2.out.1.1
          have r0 : w3.cell? ⟨(wr.heap.size + 1 + 1), 0, none⟩ = some (.int .i64 c) := X3.out.1.2 0 (by simp)
          have r1 : w3.cell? ⟨(wr.heap.size + 1 + 1), 1, none⟩ = some (.map (some nb)) := X3.out.1.2 1 (by simp)
          have rf : w3.frozen? ⟨(wr.heap.size + 1 + 1), 0, none⟩ = false := X3.out.2 0 (by simp)
          have r3l := X3.out.1.1
          go_wp2_with fail
          try go_ret2
          exact HNO.out _ _ HE.out HB3.out
        have HRG := hid_intro (HDB.out rfl)
        by_cases hsq : xs = c
        · have HSK := hid_intro (HSO.out rfl hsq)
          subst hsq
          have hq : (xs != xs) = false := by simp
          have h6 : xl.length ≤ 6 := HRG.out.1
          have HNF := hid_intro (net_facts (ds := ds) k (by omega) HS.out xa xm)
          have HBR := hid_intro (bring_any la lc xl 1 nb M' Dn (net (ds.take k) xa xm) (6000000000000000 * (k : Int)) w3 (.inl rfl) (by omega) HX.out.2.2 (right_bd HRG.out) HNM.out (by omega) HNN.out (by omega) HNF.out.2.2 (HLi.out.below HBW3.out))
          rw [hxl] at HBR
          have a2 : w3.cell? ⟨wr.heap.size, 2, none⟩ = some (.int .i64 xs) := X1.out.1.2 2 (by simp)
          have a3 : w3.cell? ⟨wr.heap.size, 3, none⟩ = some (.slice la ll lc) := X1.out.1.2 3 (by simp)
          have a1l := X1.out.1.1
          have p0 : w3.cell? ⟨(wr.heap.size + 1), 0, none⟩ = some (.string xa) := X2.out.1.2 0 (by simp)
          have p1 : w3.cell? ⟨(wr.heap.size + 1), 1, none⟩ = some (.int .i64 xm) := X2.out.1.2 1 (by simp)
          have p2l := X2.out.1.1
          have r0 : w3.cell? ⟨(wr.heap.size + 1 + 1), 0, none⟩ = some (.int .i64 xs) := X3.out.1.2 0 (by simp)
          have r1 : w3.cell? ⟨(wr.heap.size + 1 + 1), 1, none⟩ = some (.map (some nb)) := X3.out.1.2 1 (by simp)
          have rf : w3.frozen? ⟨(wr.heap.size + 1 + 1), 0, none⟩ = false := X3.out.2 0 (by simp)
          have r3l := X3.out.1.1
          go_wp2_with fail
          refine HBR.out.mono ?_
          rintro e w4 ⟨rfl, ⟨D4, hO4, hN4⟩, _, hg4⟩
          clear a2 a3 a1l p0 p1 p2l r0 r1 rf r3l
          have hn := HNB.out
          have X1 := hid_intro (blkw_grown X1.out hg4 (by simp; omega))
          have X2 := hid_intro (blkw_grown X2.out hg4 (by simp; omega))
          have X3 := hid_intro (blkw_grown X3.out hg4 (by simp; omega))
          have HO4 := hid_intro (HO.out.kept hg4 (by simp; omega))
          have HN4 := hid_intro hO4
          have HM4 := hid_intro hN4
          have HB4 := hid_intro (HB3.out.grown hg4 HB3.out.size (fun k e => by cases e; omega))
          have HG4 := hid_intro hg4
          have hsz4 := hg4.size
          have hcw : wrap64 (xs + 1) = xs + 1 := by have := HC0.out; have := cnt_le (ds.take k) xa xm; have h2 : (ds.take k).length ≤ k := List.length_take_le k ds; unfold wrap64; omega
          have HO5 := hid_intro (HO4.out.setCell (a := ⟨(wr.heap.size + 1 + 1), 0, none⟩) (show w.heap.size ≠ (wr.heap.size + 1 + 1) by have := HB.out.size; omega) (.int .i64 (xs + 1)))
          have X25 := hid_intro (DocR.BlkW.other X2.out (wr.heap.size + 1 + 1) 0 (.int .i64 (xs + 1)) (by omega))
          have X35 := hid_intro (X3.out.set 0 (.int .i64 (xs + 1)) (by simp))
          clear hO4 hN4 hg4 HBR
          have a2 : w4.cell? ⟨wr.heap.size, 2, none⟩ = some (.int .i64 xs) := X1.out.1.2 2 (by simp)
          have a3 : w4.cell? ⟨wr.heap.size, 3, none⟩ = some (.slice la ll lc) := X1.out.1.2 3 (by simp)
          have a1l := X1.out.1.1
          have p0 : w4.cell? ⟨(wr.heap.size + 1), 0, none⟩ = some (.string xa) := X2.out.1.2 0 (by simp)
          have p1 : w4.cell? ⟨(wr.heap.size + 1), 1, none⟩ = some (.int .i64 xm) := X2.out.1.2 1 (by simp)
          have p2l := X2.out.1.1
          have r0 : w4.cell? ⟨(wr.heap.size + 1 + 1), 0, none⟩ = some (.int .i64 xs) := X3.out.1.2 0 (by simp)
          have r1 : w4.cell? ⟨(wr.heap.size + 1 + 1), 1, none⟩ = some (.map (some nb)) := X3.out.1.2 1 (by simp)
          have rf : w4.frozen? ⟨(wr.heap.size + 1 + 1), 0, none⟩ = false := X3.out.2 0 (by simp)
          have r3l := X3.out.1.1
          have q0 : (w4.setCell ⟨(wr.heap.size + 1 + 1), 0, none⟩ (.int .i64 (xs + 1))).cell? ⟨(wr.heap.size + 1), 0, none⟩ = some (.string xa) := X25.out.1.2 0 (by simp)
          have q1 : (w4.setCell ⟨(wr.heap.size + 1 + 1), 0, none⟩ (.int .i64 (xs + 1))).cell? ⟨(wr.heap.size + 1), 1, none⟩ = some (.int .i64 xm) := X25.out.1.2 1 (by simp)
          have t0 : (w4.setCell ⟨(wr.heap.size + 1 + 1), 0, none⟩ (.int .i64 (xs + 1))).cell? ⟨(wr.heap.size + 1 + 1), 0, none⟩ = some (.int .i64 (xs + 1)) := X35.out.1.2 0 (by simp)
          have t1 : (w4.setCell ⟨(wr.heap.size + 1 + 1), 0, none⟩ (.int .i64 (xs + 1))).cell? ⟨(wr.heap.size + 1 + 1), 1, none⟩ = some (.map (some nb)) := X35.out.1.2 1 (by simp)
          go_wp2_with (at_mapUpdate; refine wpList_mapUpdate_own _ rfl _ _ _ 70 rfl 96 100 keyedP Try.underlying70 RV w.heap.size k Dm rfl HO5.out (by unfold maxLen; omega) _ _ _ rfl rfl HKY.out (.held (.agg #[.int .i64 (xs + 1), .map (some nb)])) [] rfl ?_; intro w6 hown hgrow)
          have HRS : Hid (RowsM w.heap.size (k + 1) (ds.take (k + 1)) w6) := hid_intro (by
            have hz6 := hgrow.size
            have hz5 : (w4.setCell ⟨(wr.heap.size + 1 + 1), 0, none⟩ (.int .i64 (xs + 1))).heap.size = w4.heap.size := by simp
            have hst := HST.out nb wr w6
            rw [← HXX.out] at hst
            dsimp only at hst
            refine hst H1.out H2.out H3.out H4.out ⟨hn.1, by omega⟩ hn.2.2.1 (by rw [← HC0.out]; exact hown) ⟨D4, M' + ll, by omega, ?_, HM4.out⟩ (fun b0 hb0 n1 n2 => ?_) (by have := HBW3.out.size; omega)
            · exact (HN4.out.setCell (a := ⟨(wr.heap.size + 1 + 1), 0, none⟩) (show nb ≠ (wr.heap.size + 1 + 1) by omega) _).kept hgrow (by simp; omega)
            · have e1 := hgrow.block b0 (by rw [hz5]; have := HBW3.out.size; omega) (by simpa using n1)
              have e2 : (w4.setCell ⟨(wr.heap.size + 1 + 1), 0, none⟩ (.int .i64 (xs + 1))).heap[b0]? = w4.heap[b0]? := by
                simp only [World.setCell]
                rw [Array.getElem?_modify, if_neg (by omega)]
              have e3 := HG4.out.block b0 (by have := HBW3.out.size; omega) (by simpa using n2)
              exact ((e1.trans e2).trans e3).trans (HBW3.out.block b0 hb0))
          have HB6 : Hid (Below w.heap.size w w6) := hid_intro ((HB4.out.setCell (p := ⟨(wr.heap.size + 1 + 1), 0, none⟩) (show w.heap.size ≤ (wr.heap.size + 1 + 1) by have := HB.out.size; omega) _).grown hgrow (by have := HB4.out.size; simpa using this) (fun k e => by cases e; exact Nat.le_refl _))
          clear a2 a3 a1l p0 p1 p2l r0 r1 rf r3l
          clear hown hgrow q0 q1 t0 t1
          go_wp2_with fail
          go_roundw
          case rel => exact ⟨k + 1, by omega, by go_num, HRS, HSK, HB6⟩
          case measure => simp [intOf]; omega
        · have hq : (xs != c) = true := by simpa using hsq
          have HE := hid_intro (HDN.out (.inr hsq))
          have a2 : w3.cell? ⟨wr.heap.size, 2, none⟩ = some (.int .i64 xs) := X1.out.1.2 2 (by simp)
          have a3 : w3.cell? ⟨wr.heap.size, 3, none⟩ = some (.slice la ll lc) := X1.out.1.2 3 (by simp)
          have a1l := X1.out.1.1
          have p0 : w3.cell? ⟨(wr.heap.size + 1), 0, none⟩ = some (.string xa) := X2.out.1.2 0 (by simp)
          have p1 : w3.cell? ⟨(wr.heap.size + 1), 1, none⟩ = some (.int .i64 xm) := X2.out.1.2 1 (by simp)
          have p2l := X2.out.1.1
          have r0 : w3.cell? ⟨(wr.heap.size + 1 + 1), 0, none⟩ = some (.int .i64 c) := X3.out.1.2 0 (by simp)
          have r1 : w3.cell? ⟨(wr.heap.size + 1 + 1), 1, none⟩ = some (.map (some nb)) := X3.out.1.2 1 (by simp)
          have rf : w3.frozen? ⟨(wr.heap.size + 1 + 1), 0, none⟩ = false := X3.out.2 0 (by simp)
          have r3l := X3.out.1.1
          go_wp2_with fail
          try go_ret2
          exact HNO.out _ _ HE.out HB3.out
    · have hlt2 : ¬ (k : Int) < (len : Int) := by omega
      obtain rfl : k = len := by omega
      have HT : Hid (ds.take k = ds) := hid_intro (List.take_of_length_le (by have := HL.out; omega))
      rw [HT.out] at HR
      obtain ⟨Wo, hWo⟩ : ∃ Wo, Wo = wr := ⟨_, rfl⟩
      subst hWo
      have HRK := HR
      obtain ⟨Dm, f, h1, h2, h3, h4⟩ := HR.out
      have HO := hid_intro h1
      have H2 := hid_intro h2
      have H3 := hid_intro h3
      have hrb := h1.lt
      clear h1 h2 h3 h4 HR
      have HNK : Hid (∀ a m, cnt ds a m ≠ 0 → ovB (net ds a m) = false → lB ds = false) := hid_intro (fun a m hc h => lB_no (fun hr => by
        obtain ⟨i, hi, rfl, rfl⟩ := mem_cnt hc
        have := hr.2.2 i hi
        rw [h] at this
        cases this))
      have HYK : Hid ((∀ a m, cnt ds a m ≠ 0 → ovB (net ds a m) = true) → lB ds = true) := hid_intro (fun h => lB_yes ⟨by have := HL.out; omega, by have := HS.out; rw [HL.out] at this; exact this, fun i hi => h _ _ (cnt_mem hi)⟩)
      go_wp2_with (at_range; refine wpList_range_own _ rfl _ 70 rfl 96 100 keyedP Try.underlying70 _ w.heap.size k Dm rfl HO.out ?_; intro w0 hrg0 hg0 hs0)
      have HB0 : Hid (Below Wo.heap.size Wo w0) := hid_intro ((Below.refl _ _).grown hg0 (Nat.le_refl _) (fun k e => by cases e))
      clear hg0 hs0
      try go_frame
      go_loopw [2] (fun v2 wr => ∃ (left : Lit → Bool) (cn : Nat), wr.ranges Try.prog 96 RV w.heap.size Wo.heap.size k Dm left cn ∧ Hid (∀ a m, cnt ds a m ≠ 0 → left (kP a m) = false → ovB (net ds a m) = true) ∧ Hid (Below Wo.heap.size Wo wr)) (fun _ wr => wr.rangeLeft w.heap.size Wo.heap.size)
      case atStart => exact ⟨_, _, hrg0, hid_intro (fun a m hc h => by rw [Maps.has_true_of_atKey (H3.out a m hc).2.1] at h; cases h), HB0⟩
      case round =>
        obtain ⟨left, cn, hrg, HLf, HBo⟩ := hrel
        have HRG := hid_intro hrg
        have hmeas := hrg.left_eq
        clear hrg hrg0 HB0
        have HBa := hid_intro (HB.out.trans (HBo.out.mono HB.out.size))
        go_wp2_with (at_next; refine wpList_next_ranges _ rfl _ rfl 96 keyedP _ (fun v : Value => v) (fun v : Value => v) (fun key kl h => ⟨key, rfl⟩) (fun v y h => ⟨v, rfl⟩) w.heap.size Wo.heap.size k Dm left cn rfl HRG.out ?_ ?_)
        · intro hc0 hl0
          have HE := hid_intro (HYK.out (fun a m hc => HLf.out a m hc (hl0 _)))
          have HRW := hid_intro (HRK.out.kept HBo.out)
          clear hl0
          go_wp2_with fail
          try go_ret2
          exact HYES.out k _ HE.out HBa.out HRW.out
        · intro x c kl yd yp w' cnt' hkey hlk hv hat hrg' hlt3 hgr hsz hen
          simp only [RV, Option.some.injEq, Prod.mk.injEq] at hv
          obtain ⟨rfl, _⟩ := hv
          obtain ⟨a, m, hgd, rfl, hcn⟩ := H2.out kl (Maps.has_true_of_atKey hat)
          obtain ⟨_, q1, q2, q3, Dn, M', q4, q5, q6⟩ := H3.out a m hcn
          obtain rfl : c = .agg #[.int .i64 (cnt ds a m : Nat), .map (some (f a m))] := by
            have h := (hat (.held undef)).symm.trans (q1 _)
            simpa using h
          have HB1 := hid_intro (HBo.out.grown hgr HBo.out.size (fun k e => by cases e; exact Nat.le_refl _))
          have HBb := hid_intro (HB.out.trans (HB1.out.mono HB.out.size))
          have HRG1 := hid_intro hrg'
          have hms := hrg'.left_eq
          have HOV := hid_intro (fun o => over_any (f a m) M' Dn (net ds a m) (w'.alloc o) ((omap_below q5 HB1.out).alloc o) q6)
          have HNO2 : Hid (ovB (net ds a m) = false → lB ds = false) := hid_intro (HNK.out a m hcn)
          have HL2 : Hid (ovB (net ds a m) = true → ∀ a' m', cnt ds a' m' ≠ 0 → (left (kP a' m') && !(kP a' m').sameKey (kP a m)) = false → ovB (net ds a' m') = true) := hid_intro (fun h a' m' hc' h2 => by
            cases h3 : left (kP a' m')
            · exact HLf.out a' m' hc' h3
            · rw [h3] at h2
              simp only [Bool.true_and, Bool.not_eq_false'] at h2
              obtain ⟨rfl, rfl⟩ := kP_inj (H3.out a' m' hc').1 hgd (WideAt.sameKey_eq h2)
              exact h)
          clear hkey hlk hat hrg' hgr q1 q2 q3 q4 q5 q6 HRG HLf HBo HBa
          generalize ovB (net ds a m) = r at *
          generalize ((cnt ds a m : Nat) : Int) = cc at *
          generalize f a m = nb at *
          cases r
          · have HE := hid_intro (HNO2.out rfl)
            go_wp2_with fail
            refine (HOV.out _).mono ?_
            rintro e w5 ⟨rfl, hb5⟩
            have HB5 := hid_intro (HBb.out.trans (((al w' _).trans (hb5.mono (by simp))).mono HBb.out.size))
            clear hb5
            simp only [ovE, Bool.false_eq_true, if_false]
            go_wp2_with fail
            try go_ret2
            exact HNO.out _ _ HE.out HB5.out
          · have HE := hid_intro (HL2.out rfl)
            have HRA := hid_intro (fun o => HRG1.out.alloc o)
            go_wp2_with fail
            refine (HOV.out _).mono ?_
            rintro e w5 ⟨rfl, hb5⟩
            have HB5 := hid_intro (HB1.out.trans (((al w' _).trans (hb5.mono (by simp))).mono HB1.out.size))
            have HR5 := hid_intro ((HRA.out _).kept (row := none) ⟨hb5.os, hb5.tape, hb5.output, hb5.size, fun k hk _ => hb5.block k hk⟩ (by simp) (by simp))
            have hm5 := HR5.out.left_eq
            clear hb5 hms
            simp only [ovE, if_true]
            go_wp2_with fail
            go_roundw
            case rel => exact ⟨_, _, HR5.out, HE, HB5⟩
            case measure => rw [hm5, hmeas]; exact hlt3
end LedR
end Go.Proofs.Ytbecgngmpjajaaa
namespace Go.Proofs.Ytbecgngmpjajaaa
open Go.ChangeShapes Go.WideShapes Go.ChangeAt Go.RowKit
set_option linter.unusedVariables false
namespace LedR
open LinR RowG LtR NetR DocR
/-- What is held while a document is asked. -/
def QB (w : World) (b o : Nat) (xa : ByteArray) (xm xs : Int) (la : Option Addr) (ll lc : Nat) (W : World) : Prop := Below w.heap.size w W ∧ b < W.heap.size ∧ W.cell? ⟨b, o, none⟩ = some (.string xa) ∧ W.cell? ⟨b, o + 1, none⟩ = some (.int .i64 xm) ∧ W.cell? ⟨b, o + 2, none⟩ = some (.int .i64 xs) ∧ W.cell? ⟨b, o + 3, none⟩ = some (.slice la ll lc)
theorem QB.below {w : World} {b o : Nat} {xa : ByteArray} {xm xs : Int} {la : Option Addr} {ll lc : Nat} {W W' : World} (h : QB w b o xa xm xs la ll lc W) (hb : Below W.heap.size W W') : QB w b o xa xm xs la ll lc W' := by
  obtain ⟨h0, hl, p0, p1, p2, p3⟩ := h
  have f := fun x => hb.cell (p := ⟨b, x, none⟩) hl
  exact ⟨h0.trans (hb.mono h0.size), by have := hb.size; omega, (f _).trans p0, (f _).trans p1, (f _).trans p2, (f _).trans p3⟩
set_option maxRecDepth 100000 in
set_option maxHeartbeats 8000000 in
theorem spec_ledger (ao : Option Addr) (cap : Nat) (ds : List D) (w : World) (hlen : ds.length ≤ 1048576) (hSm : ∀ d ∈ ds, d.Sm) (hI : Dcs ao ds w) :
    Calls Try.prog 23 #[.slice ao ds.length cap] w fun e w' => e = .returned (.bool (lB ds)) ∧ Below w.heap.size w w' := by
  have HI := hid_intro hI
  have HSm := hid_intro hSm
  obtain ⟨len, hl⟩ : ∃ len, len = ds.length := ⟨_, rfl⟩
  obtain ⟨R, hR⟩ : ∃ R, lB ds = R := ⟨_, rfl⟩
  rw [hR, ← hl]
  rw [← hl] at hlen
  have HR := hid_intro hR
  have HL := hid_intro hl
  clear hI hSm hl hR
  by_cases hbig : 30 < len
  · have hbig2 : (30 : Int) < (len : Int) := by omega
    have HE : Hid (R = false) := hid_intro (by rw [← HR.out]; exact lB_no (fun h => by have := h.1; have := HL.out; omega))
    go_enter Try.func23, Try.ntmps23
    go_wp2_with fail
    go_ret
    exact ⟨by rw [HE.out]; rfl, Below.refl _ _⟩
  have hbig2 : ¬ (30 : Int) < (len : Int) := by omega
  go_enter Try.func23, Try.ntmps23
  go_wp2_with fail
  go_loopw [3] (fun z wr => ∃ k : Nat, k ≤ len ∧ z = .int .i64 k ∧ Hid (SOk ds k) ∧ Hid (Below w.heap.size w wr)) (fun z _ => len - (intOf z).toNat)
  case atStart => exact ⟨0, by omega, rfl, hid_intro (SOk.zero ds), hid_intro (Below.refl _ _)⟩
  case round =>
    obtain ⟨k, hk, rfl, HS, HB⟩ := hrel
    by_cases hlt : k < len
    · have hlt2 : (k : Int) < (len : Int) := by omega
      have hkl : k < ds.length := by have := HL.out; omega
      obtain ⟨b, off, la, lc, rfl, hbl, c0, c1, c2, c3, hLi⟩ := (HI.out.below HB.out).at k hkl
      have hmem := getD_mem (z := D.zero) ds k hkl
      have HX := hid_intro (HSm.out _ hmem)
      have HLi := hid_intro hLi
      obtain ⟨X, hX⟩ : ∃ X, X = ds.getD k D.zero := ⟨_, rfl⟩
      rw [← hX] at c0 c1 c2 c3 HX HLi
      have HXX := hid_intro hX
      clear hX hLi hmem
      obtain ⟨xa, xm, xs, xl⟩ := X
      dsimp only at c0 c1 c2 c3
      have HC : Hid (∀ W, Below w.heap.size w W → Calls Try.prog 41 #[.slice (some ⟨b, off, none⟩) len cap, .int .i64 k, .string xa, .int .i64 xm] W fun e w' => e = .returned (.int .i64 (cnt (ds.take k) xa xm : Nat)) ∧ Below W.heap.size W w') := hid_intro (fun W hW => by have h := scount (some ⟨b, off, none⟩) cap ds k xa xm W (by omega) (by have := HL.out; omega) (HI.out.below hW); rw [← HL.out] at h; exact h)
      generalize hxl : xl.length = ll at *
      have HD : Hid (Calls Try.prog 40 #[.agg #[.string xa, .int .i64 xm, .int .i64 xs, .slice la ll lc]] wr.drew fun e w' => e = .returned (.bool (dB ⟨xa, xm, xs, xl⟩)) ∧ Below wr.drew.heap.size wr.drew w') := hid_intro (by
        have h := spec_doc ⟨xa, xm, xs, xl⟩ la lc wr.drew HX.out (HLi.out.below (Below.refl _ _).drew)
        simp only [dcells, hxl] at h
        exact h)
      have HDN : Hid (dB ⟨xa, xm, xs, xl⟩ = false ∨ xs ≠ ((cnt (ds.take k) xa xm : Nat) : Int) → R = false) := hid_intro (fun h => by rw [← HR.out]; exact lB_no (fun hr => by
        have h1 := hr.2.1 k hkl
        rw [← HXX.out] at h1
        rcases h with h | h
        · rw [h] at h1; exact absurd h1.1 (by simp)
        · exact h h1.2))
      have HSO : Hid (dB ⟨xa, xm, xs, xl⟩ = true → xs = ((cnt (ds.take k) xa xm : Nat) : Int) → SOk ds (k + 1)) := hid_intro (fun h1 h2 => HS.out.more (by rw [← HXX.out]; exact h1) (by rw [← HXX.out]; exact h2))
      have HS0 : Hid (QB w b (off + k * 4) xa xm xs la ll lc wr.drew) := hid_intro ⟨HB.out.drew, hbl, c0, c1, c2, c3⟩
      generalize dB ⟨xa, xm, xs, xl⟩ = r at *
      generalize ((cnt (ds.take k) xa xm : Nat) : Int) = cc at *
      clear c0 c1 c2 c3 HX HLi
      cases r
      · have HE := hid_intro (HDN.out (.inl rfl))
        go_wp2_with fail
        refine wp_region_held_drew (S := (fun W => Below w.heap.size w W ∧ b < W.heap.size ∧ W.cell? ⟨b, off + k * 4, none⟩ = some (.string xa) ∧ W.cell? ⟨b, off + k * 4 + 1, none⟩ = some (.int .i64 xm) ∧ W.cell? ⟨b, off + k * 4 + 2, none⟩ = some (.int .i64 xs) ∧ W.cell? ⟨b, off + k * 4 + 3, none⟩ = some (.slice la ll lc))) (by kernel_rfl) HS0.out (fun hHeld => ?_)
        refine wpAnyH_take (i := 0) (oi := { dst := some 16, op := Op.move (Operand.tmp 0), type := 23, pos := "l09_ledger.go:69", after := #[], guard := none }) (v := ?_) rfl (by kernel_rfl) (by kernel_rfl) (by kernel_rfl) (fun _ _ _ h => h) (Or.inl ⟨by rfl, ?_⟩) (by assumption) ?_
        rotate_left
        · (intro w hSw; (try dsimp only at hSw); go_simp) <;> with_reducible rfl
        try simp only [Act.put, List.setIfInBounds_toArray, List.set_cons_zero, List.set_cons_succ]
        refine wpAnyH_take (i := 1) (oi := { dst := some 17, op := Op.move (Operand.tmp 3), type := 3, pos := "l09_ledger.go:69", after := #[], guard := none }) (v := ?_) rfl (by kernel_rfl) (by kernel_rfl) (by kernel_rfl) (fun _ _ _ h => h) (Or.inl ⟨by rfl, ?_⟩) (by assumption) ?_
        rotate_left
        · (intro w hSw; (try dsimp only at hSw); go_simp) <;> with_reducible rfl
        try simp only [Act.put, List.setIfInBounds_toArray, List.set_cons_zero, List.set_cons_succ]
        refine wpAnyH_take (i := 2) (oi := { dst := some 18, op := Op.indexAddr 23 (Operand.tmp 16) (Operand.tmp 17), type := 0, pos := "l09_ledger.go:69", after := #[{ on := 0, ground := Ground.data }, { on := 1, ground := Ground.data }], guard := none }) (v := ?_) rfl (by kernel_rfl) (by kernel_rfl) (by kernel_rfl) (fun _ _ _ h => h) (Or.inl ⟨by rfl, ?_⟩) (by assumption) ?_
        rotate_left
        · (intro w hSw; (try dsimp only at hSw); go_simp) <;> with_reducible rfl
        try simp only [Act.put, List.setIfInBounds_toArray, List.set_cons_zero, List.set_cons_succ]
        refine wpAnyH_take (i := 3) (oi := { dst := some 19, op := Op.load 29 (Operand.tmp 18), type := 29, pos := "l09_ledger.go:69", after := #[{ on := 2, ground := Ground.data }], guard := none }) (v := ?_) rfl (by kernel_rfl) (by kernel_rfl) (by kernel_rfl) (fun _ _ _ h => h) (Or.inl ⟨by rfl, ?_⟩) (by assumption) ?_
        rotate_left
        · (intro w hSw; (try dsimp only at hSw); go_simp) <;> with_reducible rfl
        try simp only [Act.put, List.setIfInBounds_toArray, List.set_cons_zero, List.set_cons_succ]
        refine wpAnyH_ready (rs := [4]) (by kernel_rfl) (by simp) ?_
        refine AllReadyH.cons (o := { dst := some 20, op := Op.call { callee := Callee.value (Operand.func 40), args := #[Operand.tmp 19], argTypes := #[29] }, type := 4, pos := "l09_ledger.go:69", after := #[{ on := 3, ground := Ground.data }], guard := none }) rfl (fun K hK => ?_) AllReadyH.nil
        go_simp
        go_at_call 40
        refine HD.out.mono ?_
        rintro e q1 ⟨rfl, hq1⟩
        try go_wp2_with fail
        have hk1 := QB.below (w := w) (b := b) (o := off + k * 4) (xa := xa) (xm := xm) (xs := xs) (la := la) (ll := ll) (lc := lc) HS0.out hq1
        refine hK.out _ _ hk1 (fun _ => ?_)
        clear hK K
        try simp only [Act.put, List.setIfInBounds_toArray, List.set_cons_zero, List.set_cons_succ]
        refine wpAnyH_take (i := 5) (oi := { dst := some 21, op := Op.unOp UnOp.not 4 (Operand.tmp 20), type := 4, pos := "l09_ledger.go:69", after := #[{ on := 4, ground := Ground.data }], guard := none }) (v := ?_) rfl (by kernel_rfl) (by kernel_rfl) (by kernel_rfl) (fun _ _ _ h => h) (Or.inl ⟨by rfl, ?_⟩) (by assumption) ?_
        rotate_left
        · (intro w hSw; (try dsimp only at hSw); go_simp) <;> with_reducible rfl
        try simp only [Act.put, List.setIfInBounds_toArray, List.set_cons_zero, List.set_cons_succ]
        refine wpAnyH_take (i := 6) (oi := { dst := some 22, op := Op.move (Operand.tmp 21), type := 4, pos := "l09_ledger.go:69", after := #[{ on := 5, ground := Ground.data }, { on := 4, ground := Ground.chain }], guard := none }) (v := ?_) rfl (by kernel_rfl) (by kernel_rfl) (by kernel_rfl) (fun _ _ _ h => h) (Or.inl ⟨by rfl, ?_⟩) (by assumption) ?_
        rotate_left
        · (intro w hSw; (try dsimp only at hSw); go_simp) <;> with_reducible rfl
        try simp only [Act.put, List.setIfInBounds_toArray, List.set_cons_zero, List.set_cons_succ]
        refine wpAnyH_take (i := 7) (oi := { dst := some 23, op := Op.move (Operand.tmp 0), type := 23, pos := "l09_ledger.go:69", after := #[{ on := 6, ground := Ground.guard }], guard := some (6, false) }) (v := undef) rfl (by kernel_rfl) (by kernel_rfl) (by kernel_rfl) (fun _ _ _ h => h) (Or.inr ⟨by rfl, rfl⟩) (by assumption) ?_
        try simp only [Act.put, List.setIfInBounds_toArray, List.set_cons_zero, List.set_cons_succ]
        refine wpAnyH_take (i := 8) (oi := { dst := some 24, op := Op.move (Operand.tmp 3), type := 3, pos := "l09_ledger.go:69", after := #[{ on := 6, ground := Ground.guard }], guard := some (6, false) }) (v := undef) rfl (by kernel_rfl) (by kernel_rfl) (by kernel_rfl) (fun _ _ _ h => h) (Or.inr ⟨by rfl, rfl⟩) (by assumption) ?_
        try simp only [Act.put, List.setIfInBounds_toArray, List.set_cons_zero, List.set_cons_succ]
        refine wpAnyH_take (i := 9) (oi := { dst := some 25, op := Op.indexAddr 23 (Operand.tmp 23) (Operand.tmp 24), type := 0, pos := "l09_ledger.go:69", after := #[{ on := 7, ground := Ground.data }, { on := 8, ground := Ground.data }, { on := 6, ground := Ground.guard }], guard := some (6, false) }) (v := undef) rfl (by kernel_rfl) (by kernel_rfl) (by kernel_rfl) (fun _ _ _ h => h) (Or.inr ⟨by rfl, rfl⟩) (by assumption) ?_
        try simp only [Act.put, List.setIfInBounds_toArray, List.set_cons_zero, List.set_cons_succ]
        refine wpAnyH_take (i := 10) (oi := { dst := some 26, op := Op.fieldAddr 29 (Operand.tmp 25) 2, type := 0, pos := "l09_ledger.go:69", after := #[{ on := 9, ground := Ground.data }, { on := 6, ground := Ground.guard }], guard := some (6, false) }) (v := undef) rfl (by kernel_rfl) (by kernel_rfl) (by kernel_rfl) (fun _ _ _ h => h) (Or.inr ⟨by rfl, rfl⟩) (by assumption) ?_
        try simp only [Act.put, List.setIfInBounds_toArray, List.set_cons_zero, List.set_cons_succ]
        refine wpAnyH_take (i := 11) (oi := { dst := some 27, op := Op.load 2 (Operand.tmp 26), type := 2, pos := "l09_ledger.go:69", after := #[{ on := 10, ground := Ground.data }, { on := 6, ground := Ground.guard }], guard := some (6, false) }) (v := undef) rfl (by kernel_rfl) (by kernel_rfl) (by kernel_rfl) (fun _ _ _ h => h) (Or.inr ⟨by rfl, rfl⟩) (by assumption) ?_
        try simp only [Act.put, List.setIfInBounds_toArray, List.set_cons_zero, List.set_cons_succ]
        refine wpAnyH_take (i := 12) (oi := { dst := some 28, op := Op.move (Operand.tmp 0), type := 23, pos := "l09_ledger.go:69", after := #[{ on := 6, ground := Ground.guard }], guard := some (6, false) }) (v := undef) rfl (by kernel_rfl) (by kernel_rfl) (by kernel_rfl) (fun _ _ _ h => h) (Or.inr ⟨by rfl, rfl⟩) (by assumption) ?_
        try simp only [Act.put, List.setIfInBounds_toArray, List.set_cons_zero, List.set_cons_succ]
        refine wpAnyH_take (i := 13) (oi := { dst := some 29, op := Op.move (Operand.tmp 3), type := 3, pos := "l09_ledger.go:69", after := #[{ on := 6, ground := Ground.guard }], guard := some (6, false) }) (v := undef) rfl (by kernel_rfl) (by kernel_rfl) (by kernel_rfl) (fun _ _ _ h => h) (Or.inr ⟨by rfl, rfl⟩) (by assumption) ?_
        try simp only [Act.put, List.setIfInBounds_toArray, List.set_cons_zero, List.set_cons_succ]
        refine wpAnyH_take (i := 14) (oi := { dst := some 30, op := Op.move (Operand.tmp 0), type := 23, pos := "l09_ledger.go:69", after := #[{ on := 6, ground := Ground.guard }], guard := some (6, false) }) (v := undef) rfl (by kernel_rfl) (by kernel_rfl) (by kernel_rfl) (fun _ _ _ h => h) (Or.inr ⟨by rfl, rfl⟩) (by assumption) ?_
        try simp only [Act.put, List.setIfInBounds_toArray, List.set_cons_zero, List.set_cons_succ]
        refine wpAnyH_take (i := 15) (oi := { dst := some 31, op := Op.move (Operand.tmp 3), type := 3, pos := "l09_ledger.go:69", after := #[{ on := 6, ground := Ground.guard }], guard := some (6, false) }) (v := undef) rfl (by kernel_rfl) (by kernel_rfl) (by kernel_rfl) (fun _ _ _ h => h) (Or.inr ⟨by rfl, rfl⟩) (by assumption) ?_
        try simp only [Act.put, List.setIfInBounds_toArray, List.set_cons_zero, List.set_cons_succ]
        refine wpAnyH_take (i := 16) (oi := { dst := some 32, op := Op.indexAddr 23 (Operand.tmp 30) (Operand.tmp 31), type := 0, pos := "l09_ledger.go:69", after := #[{ on := 14, ground := Ground.data }, { on := 15, ground := Ground.data }, { on := 6, ground := Ground.guard }], guard := some (6, false) }) (v := undef) rfl (by kernel_rfl) (by kernel_rfl) (by kernel_rfl) (fun _ _ _ h => h) (Or.inr ⟨by rfl, rfl⟩) (by assumption) ?_
        try simp only [Act.put, List.setIfInBounds_toArray, List.set_cons_zero, List.set_cons_succ]
        refine wpAnyH_take (i := 17) (oi := { dst := some 33, op := Op.fieldAddr 29 (Operand.tmp 32) 0, type := 0, pos := "l09_ledger.go:69", after := #[{ on := 16, ground := Ground.data }, { on := 6, ground := Ground.guard }], guard := some (6, false) }) (v := undef) rfl (by kernel_rfl) (by kernel_rfl) (by kernel_rfl) (fun _ _ _ h => h) (Or.inr ⟨by rfl, rfl⟩) (by assumption) ?_
        try simp only [Act.put, List.setIfInBounds_toArray, List.set_cons_zero, List.set_cons_succ]
        refine wpAnyH_take (i := 18) (oi := { dst := some 34, op := Op.load 9 (Operand.tmp 33), type := 9, pos := "l09_ledger.go:69", after := #[{ on := 17, ground := Ground.data }, { on := 6, ground := Ground.guard }], guard := some (6, false) }) (v := undef) rfl (by kernel_rfl) (by kernel_rfl) (by kernel_rfl) (fun _ _ _ h => h) (Or.inr ⟨by rfl, rfl⟩) (by assumption) ?_
        try simp only [Act.put, List.setIfInBounds_toArray, List.set_cons_zero, List.set_cons_succ]
        refine wpAnyH_take (i := 19) (oi := { dst := some 35, op := Op.move (Operand.tmp 0), type := 23, pos := "l09_ledger.go:69", after := #[{ on := 6, ground := Ground.guard }], guard := some (6, false) }) (v := undef) rfl (by kernel_rfl) (by kernel_rfl) (by kernel_rfl) (fun _ _ _ h => h) (Or.inr ⟨by rfl, rfl⟩) (by assumption) ?_
        try simp only [Act.put, List.setIfInBounds_toArray, List.set_cons_zero, List.set_cons_succ]
        refine wpAnyH_take (i := 20) (oi := { dst := some 36, op := Op.move (Operand.tmp 3), type := 3, pos := "l09_ledger.go:69", after := #[{ on := 6, ground := Ground.guard }], guard := some (6, false) }) (v := undef) rfl (by kernel_rfl) (by kernel_rfl) (by kernel_rfl) (fun _ _ _ h => h) (Or.inr ⟨by rfl, rfl⟩) (by assumption) ?_
        try simp only [Act.put, List.setIfInBounds_toArray, List.set_cons_zero, List.set_cons_succ]
        refine wpAnyH_take (i := 21) (oi := { dst := some 37, op := Op.indexAddr 23 (Operand.tmp 35) (Operand.tmp 36), type := 0, pos := "l09_ledger.go:69", after := #[{ on := 19, ground := Ground.data }, { on := 20, ground := Ground.data }, { on := 6, ground := Ground.guard }], guard := some (6, false) }) (v := undef) rfl (by kernel_rfl) (by kernel_rfl) (by kernel_rfl) (fun _ _ _ h => h) (Or.inr ⟨by rfl, rfl⟩) (by assumption) ?_
        try simp only [Act.put, List.setIfInBounds_toArray, List.set_cons_zero, List.set_cons_succ]
        refine wpAnyH_take (i := 22) (oi := { dst := some 38, op := Op.fieldAddr 29 (Operand.tmp 37) 1, type := 0, pos := "l09_ledger.go:69", after := #[{ on := 21, ground := Ground.data }, { on := 6, ground := Ground.guard }], guard := some (6, false) }) (v := undef) rfl (by kernel_rfl) (by kernel_rfl) (by kernel_rfl) (fun _ _ _ h => h) (Or.inr ⟨by rfl, rfl⟩) (by assumption) ?_
        try simp only [Act.put, List.setIfInBounds_toArray, List.set_cons_zero, List.set_cons_succ]
        refine wpAnyH_take (i := 23) (oi := { dst := some 39, op := Op.load 2 (Operand.tmp 38), type := 2, pos := "l09_ledger.go:69", after := #[{ on := 22, ground := Ground.data }, { on := 6, ground := Ground.guard }], guard := some (6, false) }) (v := undef) rfl (by kernel_rfl) (by kernel_rfl) (by kernel_rfl) (fun _ _ _ h => h) (Or.inr ⟨by rfl, rfl⟩) (by assumption) ?_
        try simp only [Act.put, List.setIfInBounds_toArray, List.set_cons_zero, List.set_cons_succ]
        refine wpAnyH_take (i := 24) (oi := { dst := some 40, op := Op.call { callee := Callee.value (Operand.func 41), args := #[Operand.tmp 28, Operand.tmp 29, Operand.tmp 34, Operand.tmp 39], argTypes := #[23, 3, 9, 2] }, type := 2, pos := "l09_ledger.go:69", after := #[{ on := 12, ground := Ground.data }, { on := 13, ground := Ground.data }, { on := 18, ground := Ground.data }, { on := 23, ground := Ground.data }, { on := 6, ground := Ground.chain }, { on := 6, ground := Ground.guard }], guard := some (6, false) }) (v := undef) rfl (by kernel_rfl) (by kernel_rfl) (by kernel_rfl) (fun _ _ _ h => h) (Or.inr ⟨by rfl, rfl⟩) (by assumption) ?_
        try simp only [Act.put, List.setIfInBounds_toArray, List.set_cons_zero, List.set_cons_succ]
        refine wpAnyH_take (i := 25) (oi := { dst := some 41, op := Op.binOp BinOp.neq 2 (Operand.tmp 27) (Operand.tmp 40) 2, type := 4, pos := "l09_ledger.go:69", after := #[{ on := 11, ground := Ground.data }, { on := 24, ground := Ground.data }, { on := 6, ground := Ground.guard }], guard := some (6, false) }) (v := undef) rfl (by kernel_rfl) (by kernel_rfl) (by kernel_rfl) (fun _ _ _ h => h) (Or.inr ⟨by rfl, rfl⟩) (by assumption) ?_
        try simp only [Act.put, List.setIfInBounds_toArray, List.set_cons_zero, List.set_cons_succ]
        refine wpAnyH_take (i := 26) (oi := { dst := some 42, op := Op.pick (Operand.tmp 22) (Operand.const (Value.bool true)) (Operand.tmp 41), type := 4, pos := "l09_ledger.go:69", after := #[{ on := 6, ground := Ground.data }, { on := 25, ground := Ground.data }], guard := none }) (v := ?_) rfl (by kernel_rfl) (by kernel_rfl) (by kernel_rfl) (fun _ _ _ h => h) (Or.inl ⟨by rfl, ?_⟩) (by assumption) ?_
        rotate_left
        · (intro w hSw; (try dsimp only at hSw); go_simp) <;> with_reducible rfl
        try simp only [Act.put, List.setIfInBounds_toArray, List.set_cons_zero, List.set_cons_succ]
        refine wpAnyH_done (by kernel_rfl) ?_ _
        have HBQ := hid_intro hk1.1
        clear hk1
        go_wp2_with fail
        go_ret
        exact ⟨by rw [HE.out]; rfl, HBQ.out⟩
      by_cases hsq : xs = cc
      · have HE := hid_intro (HSO.out rfl hsq)
        have hq : (xs != cc) = false := by simpa using hsq
        clear hsq HDN HSO
        go_wp2_with fail
        refine wp_region_held_drew (S := (fun W => Below w.heap.size w W ∧ b < W.heap.size ∧ W.cell? ⟨b, off + k * 4, none⟩ = some (.string xa) ∧ W.cell? ⟨b, off + k * 4 + 1, none⟩ = some (.int .i64 xm) ∧ W.cell? ⟨b, off + k * 4 + 2, none⟩ = some (.int .i64 xs) ∧ W.cell? ⟨b, off + k * 4 + 3, none⟩ = some (.slice la ll lc))) (by kernel_rfl) HS0.out (fun hHeld => ?_)
        refine wpAnyH_take (i := 0) (oi := { dst := some 16, op := Op.move (Operand.tmp 0), type := 23, pos := "l09_ledger.go:69", after := #[], guard := none }) (v := ?_) rfl (by kernel_rfl) (by kernel_rfl) (by kernel_rfl) (fun _ _ _ h => h) (Or.inl ⟨by rfl, ?_⟩) (by assumption) ?_
        rotate_left
        · (intro w hSw; (try dsimp only at hSw); go_simp) <;> with_reducible rfl
        try simp only [Act.put, List.setIfInBounds_toArray, List.set_cons_zero, List.set_cons_succ]
        refine wpAnyH_take (i := 1) (oi := { dst := some 17, op := Op.move (Operand.tmp 3), type := 3, pos := "l09_ledger.go:69", after := #[], guard := none }) (v := ?_) rfl (by kernel_rfl) (by kernel_rfl) (by kernel_rfl) (fun _ _ _ h => h) (Or.inl ⟨by rfl, ?_⟩) (by assumption) ?_
        rotate_left
        · (intro w hSw; (try dsimp only at hSw); go_simp) <;> with_reducible rfl
        try simp only [Act.put, List.setIfInBounds_toArray, List.set_cons_zero, List.set_cons_succ]
        refine wpAnyH_take (i := 2) (oi := { dst := some 18, op := Op.indexAddr 23 (Operand.tmp 16) (Operand.tmp 17), type := 0, pos := "l09_ledger.go:69", after := #[{ on := 0, ground := Ground.data }, { on := 1, ground := Ground.data }], guard := none }) (v := ?_) rfl (by kernel_rfl) (by kernel_rfl) (by kernel_rfl) (fun _ _ _ h => h) (Or.inl ⟨by rfl, ?_⟩) (by assumption) ?_
        rotate_left
        · (intro w hSw; (try dsimp only at hSw); go_simp) <;> with_reducible rfl
        try simp only [Act.put, List.setIfInBounds_toArray, List.set_cons_zero, List.set_cons_succ]
        refine wpAnyH_take (i := 3) (oi := { dst := some 19, op := Op.load 29 (Operand.tmp 18), type := 29, pos := "l09_ledger.go:69", after := #[{ on := 2, ground := Ground.data }], guard := none }) (v := ?_) rfl (by kernel_rfl) (by kernel_rfl) (by kernel_rfl) (fun _ _ _ h => h) (Or.inl ⟨by rfl, ?_⟩) (by assumption) ?_
        rotate_left
        · (intro w hSw; (try dsimp only at hSw); go_simp) <;> with_reducible rfl
        try simp only [Act.put, List.setIfInBounds_toArray, List.set_cons_zero, List.set_cons_succ]
        refine wpAnyH_ready (rs := [4]) (by kernel_rfl) (by simp) ?_
        refine AllReadyH.cons (o := { dst := some 20, op := Op.call { callee := Callee.value (Operand.func 40), args := #[Operand.tmp 19], argTypes := #[29] }, type := 4, pos := "l09_ledger.go:69", after := #[{ on := 3, ground := Ground.data }], guard := none }) rfl (fun K hK => ?_) AllReadyH.nil
        go_simp
        go_at_call 40
        refine HD.out.mono ?_
        rintro e q1 ⟨rfl, hq1⟩
        try go_wp2_with fail
        have hk1 := QB.below (w := w) (b := b) (o := off + k * 4) (xa := xa) (xm := xm) (xs := xs) (la := la) (ll := ll) (lc := lc) HS0.out hq1
        refine hK.out _ _ hk1 (fun _ => ?_)
        clear hK K
        try simp only [Act.put, List.setIfInBounds_toArray, List.set_cons_zero, List.set_cons_succ]
        refine wpAnyH_take (i := 5) (oi := { dst := some 21, op := Op.unOp UnOp.not 4 (Operand.tmp 20), type := 4, pos := "l09_ledger.go:69", after := #[{ on := 4, ground := Ground.data }], guard := none }) (v := ?_) rfl (by kernel_rfl) (by kernel_rfl) (by kernel_rfl) (fun _ _ _ h => h) (Or.inl ⟨by rfl, ?_⟩) (by assumption) ?_
        rotate_left
        · (intro w hSw; (try dsimp only at hSw); go_simp) <;> with_reducible rfl
        try simp only [Act.put, List.setIfInBounds_toArray, List.set_cons_zero, List.set_cons_succ]
        refine wpAnyH_take (i := 6) (oi := { dst := some 22, op := Op.move (Operand.tmp 21), type := 4, pos := "l09_ledger.go:69", after := #[{ on := 5, ground := Ground.data }, { on := 4, ground := Ground.chain }], guard := none }) (v := ?_) rfl (by kernel_rfl) (by kernel_rfl) (by kernel_rfl) (fun _ _ _ h => h) (Or.inl ⟨by rfl, ?_⟩) (by assumption) ?_
        rotate_left
        · (intro w hSw; (try dsimp only at hSw); go_simp) <;> with_reducible rfl
        try simp only [Act.put, List.setIfInBounds_toArray, List.set_cons_zero, List.set_cons_succ]
        refine wpAnyH_take (i := 7) (oi := { dst := some 23, op := Op.move (Operand.tmp 0), type := 23, pos := "l09_ledger.go:69", after := #[{ on := 6, ground := Ground.guard }], guard := some (6, false) }) (v := ?_) rfl (by kernel_rfl) (by kernel_rfl) (by kernel_rfl) (fun _ _ _ h => h) (Or.inl ⟨by rfl, ?_⟩) (by assumption) ?_
        rotate_left
        · (intro w hSw; (try dsimp only at hSw); go_simp) <;> with_reducible rfl
        try simp only [Act.put, List.setIfInBounds_toArray, List.set_cons_zero, List.set_cons_succ]
        refine wpAnyH_take (i := 8) (oi := { dst := some 24, op := Op.move (Operand.tmp 3), type := 3, pos := "l09_ledger.go:69", after := #[{ on := 6, ground := Ground.guard }], guard := some (6, false) }) (v := ?_) rfl (by kernel_rfl) (by kernel_rfl) (by kernel_rfl) (fun _ _ _ h => h) (Or.inl ⟨by rfl, ?_⟩) (by assumption) ?_
        rotate_left
        · (intro w hSw; (try dsimp only at hSw); go_simp) <;> with_reducible rfl
        try simp only [Act.put, List.setIfInBounds_toArray, List.set_cons_zero, List.set_cons_succ]
        refine wpAnyH_take (i := 9) (oi := { dst := some 25, op := Op.indexAddr 23 (Operand.tmp 23) (Operand.tmp 24), type := 0, pos := "l09_ledger.go:69", after := #[{ on := 7, ground := Ground.data }, { on := 8, ground := Ground.data }, { on := 6, ground := Ground.guard }], guard := some (6, false) }) (v := ?_) rfl (by kernel_rfl) (by kernel_rfl) (by kernel_rfl) (fun _ _ _ h => h) (Or.inl ⟨by rfl, ?_⟩) (by assumption) ?_
        rotate_left
        · (intro w hSw; (try dsimp only at hSw); go_simp) <;> with_reducible rfl
        try simp only [Act.put, List.setIfInBounds_toArray, List.set_cons_zero, List.set_cons_succ]
        refine wpAnyH_take (i := 10) (oi := { dst := some 26, op := Op.fieldAddr 29 (Operand.tmp 25) 2, type := 0, pos := "l09_ledger.go:69", after := #[{ on := 9, ground := Ground.data }, { on := 6, ground := Ground.guard }], guard := some (6, false) }) (v := ?_) rfl (by kernel_rfl) (by kernel_rfl) (by kernel_rfl) (fun _ _ _ h => h) (Or.inl ⟨by rfl, ?_⟩) (by assumption) ?_
        rotate_left
        · (intro w hSw; (try dsimp only at hSw); go_simp) <;> with_reducible rfl
        try simp only [Act.put, List.setIfInBounds_toArray, List.set_cons_zero, List.set_cons_succ]
        refine wpAnyH_take (i := 11) (oi := { dst := some 27, op := Op.load 2 (Operand.tmp 26), type := 2, pos := "l09_ledger.go:69", after := #[{ on := 10, ground := Ground.data }, { on := 6, ground := Ground.guard }], guard := some (6, false) }) (v := ?_) rfl (by kernel_rfl) (by kernel_rfl) (by kernel_rfl) (fun _ _ _ h => h) (Or.inl ⟨by rfl, ?_⟩) (by assumption) ?_
        rotate_left
        · (intro w hSw; (try dsimp only at hSw); go_simp) <;> with_reducible rfl
        try simp only [Act.put, List.setIfInBounds_toArray, List.set_cons_zero, List.set_cons_succ]
        refine wpAnyH_take (i := 12) (oi := { dst := some 28, op := Op.move (Operand.tmp 0), type := 23, pos := "l09_ledger.go:69", after := #[{ on := 6, ground := Ground.guard }], guard := some (6, false) }) (v := ?_) rfl (by kernel_rfl) (by kernel_rfl) (by kernel_rfl) (fun _ _ _ h => h) (Or.inl ⟨by rfl, ?_⟩) (by assumption) ?_
        rotate_left
        · (intro w hSw; (try dsimp only at hSw); go_simp) <;> with_reducible rfl
        try simp only [Act.put, List.setIfInBounds_toArray, List.set_cons_zero, List.set_cons_succ]
        refine wpAnyH_take (i := 13) (oi := { dst := some 29, op := Op.move (Operand.tmp 3), type := 3, pos := "l09_ledger.go:69", after := #[{ on := 6, ground := Ground.guard }], guard := some (6, false) }) (v := ?_) rfl (by kernel_rfl) (by kernel_rfl) (by kernel_rfl) (fun _ _ _ h => h) (Or.inl ⟨by rfl, ?_⟩) (by assumption) ?_
        rotate_left
        · (intro w hSw; (try dsimp only at hSw); go_simp) <;> with_reducible rfl
        try simp only [Act.put, List.setIfInBounds_toArray, List.set_cons_zero, List.set_cons_succ]
        refine wpAnyH_take (i := 14) (oi := { dst := some 30, op := Op.move (Operand.tmp 0), type := 23, pos := "l09_ledger.go:69", after := #[{ on := 6, ground := Ground.guard }], guard := some (6, false) }) (v := ?_) rfl (by kernel_rfl) (by kernel_rfl) (by kernel_rfl) (fun _ _ _ h => h) (Or.inl ⟨by rfl, ?_⟩) (by assumption) ?_
        rotate_left
        · (intro w hSw; (try dsimp only at hSw); go_simp) <;> with_reducible rfl
        try simp only [Act.put, List.setIfInBounds_toArray, List.set_cons_zero, List.set_cons_succ]
        refine wpAnyH_take (i := 15) (oi := { dst := some 31, op := Op.move (Operand.tmp 3), type := 3, pos := "l09_ledger.go:69", after := #[{ on := 6, ground := Ground.guard }], guard := some (6, false) }) (v := ?_) rfl (by kernel_rfl) (by kernel_rfl) (by kernel_rfl) (fun _ _ _ h => h) (Or.inl ⟨by rfl, ?_⟩) (by assumption) ?_
        rotate_left
        · (intro w hSw; (try dsimp only at hSw); go_simp) <;> with_reducible rfl
        try simp only [Act.put, List.setIfInBounds_toArray, List.set_cons_zero, List.set_cons_succ]
        refine wpAnyH_take (i := 16) (oi := { dst := some 32, op := Op.indexAddr 23 (Operand.tmp 30) (Operand.tmp 31), type := 0, pos := "l09_ledger.go:69", after := #[{ on := 14, ground := Ground.data }, { on := 15, ground := Ground.data }, { on := 6, ground := Ground.guard }], guard := some (6, false) }) (v := ?_) rfl (by kernel_rfl) (by kernel_rfl) (by kernel_rfl) (fun _ _ _ h => h) (Or.inl ⟨by rfl, ?_⟩) (by assumption) ?_
        rotate_left
        · (intro w hSw; (try dsimp only at hSw); go_simp) <;> with_reducible rfl
        try simp only [Act.put, List.setIfInBounds_toArray, List.set_cons_zero, List.set_cons_succ]
        refine wpAnyH_take (i := 17) (oi := { dst := some 33, op := Op.fieldAddr 29 (Operand.tmp 32) 0, type := 0, pos := "l09_ledger.go:69", after := #[{ on := 16, ground := Ground.data }, { on := 6, ground := Ground.guard }], guard := some (6, false) }) (v := ?_) rfl (by kernel_rfl) (by kernel_rfl) (by kernel_rfl) (fun _ _ _ h => h) (Or.inl ⟨by rfl, ?_⟩) (by assumption) ?_
        rotate_left
        · (intro w hSw; (try dsimp only at hSw); go_simp) <;> with_reducible rfl
        try simp only [Act.put, List.setIfInBounds_toArray, List.set_cons_zero, List.set_cons_succ]
        refine wpAnyH_take (i := 18) (oi := { dst := some 34, op := Op.load 9 (Operand.tmp 33), type := 9, pos := "l09_ledger.go:69", after := #[{ on := 17, ground := Ground.data }, { on := 6, ground := Ground.guard }], guard := some (6, false) }) (v := ?_) rfl (by kernel_rfl) (by kernel_rfl) (by kernel_rfl) (fun _ _ _ h => h) (Or.inl ⟨by rfl, ?_⟩) (by assumption) ?_
        rotate_left
        · (intro w hSw; (try dsimp only at hSw); go_simp) <;> with_reducible rfl
        try simp only [Act.put, List.setIfInBounds_toArray, List.set_cons_zero, List.set_cons_succ]
        refine wpAnyH_take (i := 19) (oi := { dst := some 35, op := Op.move (Operand.tmp 0), type := 23, pos := "l09_ledger.go:69", after := #[{ on := 6, ground := Ground.guard }], guard := some (6, false) }) (v := ?_) rfl (by kernel_rfl) (by kernel_rfl) (by kernel_rfl) (fun _ _ _ h => h) (Or.inl ⟨by rfl, ?_⟩) (by assumption) ?_
        rotate_left
        · (intro w hSw; (try dsimp only at hSw); go_simp) <;> with_reducible rfl
        try simp only [Act.put, List.setIfInBounds_toArray, List.set_cons_zero, List.set_cons_succ]
        refine wpAnyH_take (i := 20) (oi := { dst := some 36, op := Op.move (Operand.tmp 3), type := 3, pos := "l09_ledger.go:69", after := #[{ on := 6, ground := Ground.guard }], guard := some (6, false) }) (v := ?_) rfl (by kernel_rfl) (by kernel_rfl) (by kernel_rfl) (fun _ _ _ h => h) (Or.inl ⟨by rfl, ?_⟩) (by assumption) ?_
        rotate_left
        · (intro w hSw; (try dsimp only at hSw); go_simp) <;> with_reducible rfl
        try simp only [Act.put, List.setIfInBounds_toArray, List.set_cons_zero, List.set_cons_succ]
        refine wpAnyH_take (i := 21) (oi := { dst := some 37, op := Op.indexAddr 23 (Operand.tmp 35) (Operand.tmp 36), type := 0, pos := "l09_ledger.go:69", after := #[{ on := 19, ground := Ground.data }, { on := 20, ground := Ground.data }, { on := 6, ground := Ground.guard }], guard := some (6, false) }) (v := ?_) rfl (by kernel_rfl) (by kernel_rfl) (by kernel_rfl) (fun _ _ _ h => h) (Or.inl ⟨by rfl, ?_⟩) (by assumption) ?_
        rotate_left
        · (intro w hSw; (try dsimp only at hSw); go_simp) <;> with_reducible rfl
        try simp only [Act.put, List.setIfInBounds_toArray, List.set_cons_zero, List.set_cons_succ]
        refine wpAnyH_take (i := 22) (oi := { dst := some 38, op := Op.fieldAddr 29 (Operand.tmp 37) 1, type := 0, pos := "l09_ledger.go:69", after := #[{ on := 21, ground := Ground.data }, { on := 6, ground := Ground.guard }], guard := some (6, false) }) (v := ?_) rfl (by kernel_rfl) (by kernel_rfl) (by kernel_rfl) (fun _ _ _ h => h) (Or.inl ⟨by rfl, ?_⟩) (by assumption) ?_
        rotate_left
        · (intro w hSw; (try dsimp only at hSw); go_simp) <;> with_reducible rfl
        try simp only [Act.put, List.setIfInBounds_toArray, List.set_cons_zero, List.set_cons_succ]
        refine wpAnyH_take (i := 23) (oi := { dst := some 39, op := Op.load 2 (Operand.tmp 38), type := 2, pos := "l09_ledger.go:69", after := #[{ on := 22, ground := Ground.data }, { on := 6, ground := Ground.guard }], guard := some (6, false) }) (v := ?_) rfl (by kernel_rfl) (by kernel_rfl) (by kernel_rfl) (fun _ _ _ h => h) (Or.inl ⟨by rfl, ?_⟩) (by assumption) ?_
        rotate_left
        · (intro w hSw; (try dsimp only at hSw); go_simp) <;> with_reducible rfl
        try simp only [Act.put, List.setIfInBounds_toArray, List.set_cons_zero, List.set_cons_succ]
        refine wpAnyH_ready (rs := [24]) (by kernel_rfl) (by simp) ?_
        refine AllReadyH.cons (o := { dst := some 40, op := Op.call { callee := Callee.value (Operand.func 41), args := #[Operand.tmp 28, Operand.tmp 29, Operand.tmp 34, Operand.tmp 39], argTypes := #[23, 3, 9, 2] }, type := 2, pos := "l09_ledger.go:69", after := #[{ on := 12, ground := Ground.data }, { on := 13, ground := Ground.data }, { on := 18, ground := Ground.data }, { on := 23, ground := Ground.data }, { on := 6, ground := Ground.chain }, { on := 6, ground := Ground.guard }], guard := some (6, false) }) rfl (fun K hK => ?_) AllReadyH.nil
        go_simp
        go_at_call 41
        refine (HC.out _ hk1.1).mono ?_
        rintro e q2 ⟨rfl, hq2⟩
        try go_wp2_with fail
        have hk2 := QB.below (w := w) (b := b) (o := off + k * 4) (xa := xa) (xm := xm) (xs := xs) (la := la) (ll := ll) (lc := lc) hk1 hq2
        refine hK.out _ _ hk2 (fun _ => ?_)
        clear hK K
        try simp only [Act.put, List.setIfInBounds_toArray, List.set_cons_zero, List.set_cons_succ]
        refine wpAnyH_take (i := 25) (oi := { dst := some 41, op := Op.binOp BinOp.neq 2 (Operand.tmp 27) (Operand.tmp 40) 2, type := 4, pos := "l09_ledger.go:69", after := #[{ on := 11, ground := Ground.data }, { on := 24, ground := Ground.data }, { on := 6, ground := Ground.guard }], guard := some (6, false) }) (v := ?_) rfl (by kernel_rfl) (by kernel_rfl) (by kernel_rfl) (fun _ _ _ h => h) (Or.inl ⟨by rfl, ?_⟩) (by assumption) ?_
        rotate_left
        · (intro w hSw; (try dsimp only at hSw); go_simp) <;> with_reducible rfl
        try simp only [Act.put, List.setIfInBounds_toArray, List.set_cons_zero, List.set_cons_succ]
        refine wpAnyH_take (i := 26) (oi := { dst := some 42, op := Op.pick (Operand.tmp 22) (Operand.const (Value.bool true)) (Operand.tmp 41), type := 4, pos := "l09_ledger.go:69", after := #[{ on := 6, ground := Ground.data }, { on := 25, ground := Ground.data }], guard := none }) (v := ?_) rfl (by kernel_rfl) (by kernel_rfl) (by kernel_rfl) (fun _ _ _ h => h) (Or.inl ⟨by rfl, ?_⟩) (by assumption) ?_
        rotate_left
        · (intro w hSw; (try dsimp only at hSw); go_simp) <;> with_reducible rfl
        try simp only [Act.put, List.setIfInBounds_toArray, List.set_cons_zero, List.set_cons_succ]
        refine wpAnyH_done (by kernel_rfl) ?_ _
        have HBQ := hid_intro hk2.1
        clear hk1 hk2
        go_wp2_with fail
        go_roundw
        case rel => exact ⟨k + 1, by omega, by go_num, HE, HBQ⟩
        case measure => simp [intOf]; omega
      · have HE := hid_intro (HDN.out (.inr hsq))
        have hq : (xs != cc) = true := by simpa using hsq
        clear hsq HDN HSO
        go_wp2_with fail
        refine wp_region_held_drew (S := (fun W => Below w.heap.size w W ∧ b < W.heap.size ∧ W.cell? ⟨b, off + k * 4, none⟩ = some (.string xa) ∧ W.cell? ⟨b, off + k * 4 + 1, none⟩ = some (.int .i64 xm) ∧ W.cell? ⟨b, off + k * 4 + 2, none⟩ = some (.int .i64 xs) ∧ W.cell? ⟨b, off + k * 4 + 3, none⟩ = some (.slice la ll lc))) (by kernel_rfl) HS0.out (fun hHeld => ?_)
        refine wpAnyH_take (i := 0) (oi := { dst := some 16, op := Op.move (Operand.tmp 0), type := 23, pos := "l09_ledger.go:69", after := #[], guard := none }) (v := ?_) rfl (by kernel_rfl) (by kernel_rfl) (by kernel_rfl) (fun _ _ _ h => h) (Or.inl ⟨by rfl, ?_⟩) (by assumption) ?_
        rotate_left
        · (intro w hSw; (try dsimp only at hSw); go_simp) <;> with_reducible rfl
        try simp only [Act.put, List.setIfInBounds_toArray, List.set_cons_zero, List.set_cons_succ]
        refine wpAnyH_take (i := 1) (oi := { dst := some 17, op := Op.move (Operand.tmp 3), type := 3, pos := "l09_ledger.go:69", after := #[], guard := none }) (v := ?_) rfl (by kernel_rfl) (by kernel_rfl) (by kernel_rfl) (fun _ _ _ h => h) (Or.inl ⟨by rfl, ?_⟩) (by assumption) ?_
        rotate_left
        · (intro w hSw; (try dsimp only at hSw); go_simp) <;> with_reducible rfl
        try simp only [Act.put, List.setIfInBounds_toArray, List.set_cons_zero, List.set_cons_succ]
        refine wpAnyH_take (i := 2) (oi := { dst := some 18, op := Op.indexAddr 23 (Operand.tmp 16) (Operand.tmp 17), type := 0, pos := "l09_ledger.go:69", after := #[{ on := 0, ground := Ground.data }, { on := 1, ground := Ground.data }], guard := none }) (v := ?_) rfl (by kernel_rfl) (by kernel_rfl) (by kernel_rfl) (fun _ _ _ h => h) (Or.inl ⟨by rfl, ?_⟩) (by assumption) ?_
        rotate_left
        · (intro w hSw; (try dsimp only at hSw); go_simp) <;> with_reducible rfl
        try simp only [Act.put, List.setIfInBounds_toArray, List.set_cons_zero, List.set_cons_succ]
        refine wpAnyH_take (i := 3) (oi := { dst := some 19, op := Op.load 29 (Operand.tmp 18), type := 29, pos := "l09_ledger.go:69", after := #[{ on := 2, ground := Ground.data }], guard := none }) (v := ?_) rfl (by kernel_rfl) (by kernel_rfl) (by kernel_rfl) (fun _ _ _ h => h) (Or.inl ⟨by rfl, ?_⟩) (by assumption) ?_
        rotate_left
        · (intro w hSw; (try dsimp only at hSw); go_simp) <;> with_reducible rfl
        try simp only [Act.put, List.setIfInBounds_toArray, List.set_cons_zero, List.set_cons_succ]
        refine wpAnyH_ready (rs := [4]) (by kernel_rfl) (by simp) ?_
        refine AllReadyH.cons (o := { dst := some 20, op := Op.call { callee := Callee.value (Operand.func 40), args := #[Operand.tmp 19], argTypes := #[29] }, type := 4, pos := "l09_ledger.go:69", after := #[{ on := 3, ground := Ground.data }], guard := none }) rfl (fun K hK => ?_) AllReadyH.nil
        go_simp
        go_at_call 40
        refine HD.out.mono ?_
        rintro e q1 ⟨rfl, hq1⟩
        try go_wp2_with fail
        have hk1 := QB.below (w := w) (b := b) (o := off + k * 4) (xa := xa) (xm := xm) (xs := xs) (la := la) (ll := ll) (lc := lc) HS0.out hq1
        refine hK.out _ _ hk1 (fun _ => ?_)
        clear hK K
        try simp only [Act.put, List.setIfInBounds_toArray, List.set_cons_zero, List.set_cons_succ]
        refine wpAnyH_take (i := 5) (oi := { dst := some 21, op := Op.unOp UnOp.not 4 (Operand.tmp 20), type := 4, pos := "l09_ledger.go:69", after := #[{ on := 4, ground := Ground.data }], guard := none }) (v := ?_) rfl (by kernel_rfl) (by kernel_rfl) (by kernel_rfl) (fun _ _ _ h => h) (Or.inl ⟨by rfl, ?_⟩) (by assumption) ?_
        rotate_left
        · (intro w hSw; (try dsimp only at hSw); go_simp) <;> with_reducible rfl
        try simp only [Act.put, List.setIfInBounds_toArray, List.set_cons_zero, List.set_cons_succ]
        refine wpAnyH_take (i := 6) (oi := { dst := some 22, op := Op.move (Operand.tmp 21), type := 4, pos := "l09_ledger.go:69", after := #[{ on := 5, ground := Ground.data }, { on := 4, ground := Ground.chain }], guard := none }) (v := ?_) rfl (by kernel_rfl) (by kernel_rfl) (by kernel_rfl) (fun _ _ _ h => h) (Or.inl ⟨by rfl, ?_⟩) (by assumption) ?_
        rotate_left
        · (intro w hSw; (try dsimp only at hSw); go_simp) <;> with_reducible rfl
        try simp only [Act.put, List.setIfInBounds_toArray, List.set_cons_zero, List.set_cons_succ]
        refine wpAnyH_take (i := 7) (oi := { dst := some 23, op := Op.move (Operand.tmp 0), type := 23, pos := "l09_ledger.go:69", after := #[{ on := 6, ground := Ground.guard }], guard := some (6, false) }) (v := ?_) rfl (by kernel_rfl) (by kernel_rfl) (by kernel_rfl) (fun _ _ _ h => h) (Or.inl ⟨by rfl, ?_⟩) (by assumption) ?_
        rotate_left
        · (intro w hSw; (try dsimp only at hSw); go_simp) <;> with_reducible rfl
        try simp only [Act.put, List.setIfInBounds_toArray, List.set_cons_zero, List.set_cons_succ]
        refine wpAnyH_take (i := 8) (oi := { dst := some 24, op := Op.move (Operand.tmp 3), type := 3, pos := "l09_ledger.go:69", after := #[{ on := 6, ground := Ground.guard }], guard := some (6, false) }) (v := ?_) rfl (by kernel_rfl) (by kernel_rfl) (by kernel_rfl) (fun _ _ _ h => h) (Or.inl ⟨by rfl, ?_⟩) (by assumption) ?_
        rotate_left
        · (intro w hSw; (try dsimp only at hSw); go_simp) <;> with_reducible rfl
        try simp only [Act.put, List.setIfInBounds_toArray, List.set_cons_zero, List.set_cons_succ]
        refine wpAnyH_take (i := 9) (oi := { dst := some 25, op := Op.indexAddr 23 (Operand.tmp 23) (Operand.tmp 24), type := 0, pos := "l09_ledger.go:69", after := #[{ on := 7, ground := Ground.data }, { on := 8, ground := Ground.data }, { on := 6, ground := Ground.guard }], guard := some (6, false) }) (v := ?_) rfl (by kernel_rfl) (by kernel_rfl) (by kernel_rfl) (fun _ _ _ h => h) (Or.inl ⟨by rfl, ?_⟩) (by assumption) ?_
        rotate_left
        · (intro w hSw; (try dsimp only at hSw); go_simp) <;> with_reducible rfl
        try simp only [Act.put, List.setIfInBounds_toArray, List.set_cons_zero, List.set_cons_succ]
        refine wpAnyH_take (i := 10) (oi := { dst := some 26, op := Op.fieldAddr 29 (Operand.tmp 25) 2, type := 0, pos := "l09_ledger.go:69", after := #[{ on := 9, ground := Ground.data }, { on := 6, ground := Ground.guard }], guard := some (6, false) }) (v := ?_) rfl (by kernel_rfl) (by kernel_rfl) (by kernel_rfl) (fun _ _ _ h => h) (Or.inl ⟨by rfl, ?_⟩) (by assumption) ?_
        rotate_left
        · (intro w hSw; (try dsimp only at hSw); go_simp) <;> with_reducible rfl
        try simp only [Act.put, List.setIfInBounds_toArray, List.set_cons_zero, List.set_cons_succ]
        refine wpAnyH_take (i := 11) (oi := { dst := some 27, op := Op.load 2 (Operand.tmp 26), type := 2, pos := "l09_ledger.go:69", after := #[{ on := 10, ground := Ground.data }, { on := 6, ground := Ground.guard }], guard := some (6, false) }) (v := ?_) rfl (by kernel_rfl) (by kernel_rfl) (by kernel_rfl) (fun _ _ _ h => h) (Or.inl ⟨by rfl, ?_⟩) (by assumption) ?_
        rotate_left
        · (intro w hSw; (try dsimp only at hSw); go_simp) <;> with_reducible rfl
        try simp only [Act.put, List.setIfInBounds_toArray, List.set_cons_zero, List.set_cons_succ]
        refine wpAnyH_take (i := 12) (oi := { dst := some 28, op := Op.move (Operand.tmp 0), type := 23, pos := "l09_ledger.go:69", after := #[{ on := 6, ground := Ground.guard }], guard := some (6, false) }) (v := ?_) rfl (by kernel_rfl) (by kernel_rfl) (by kernel_rfl) (fun _ _ _ h => h) (Or.inl ⟨by rfl, ?_⟩) (by assumption) ?_
        rotate_left
        · (intro w hSw; (try dsimp only at hSw); go_simp) <;> with_reducible rfl
        try simp only [Act.put, List.setIfInBounds_toArray, List.set_cons_zero, List.set_cons_succ]
        refine wpAnyH_take (i := 13) (oi := { dst := some 29, op := Op.move (Operand.tmp 3), type := 3, pos := "l09_ledger.go:69", after := #[{ on := 6, ground := Ground.guard }], guard := some (6, false) }) (v := ?_) rfl (by kernel_rfl) (by kernel_rfl) (by kernel_rfl) (fun _ _ _ h => h) (Or.inl ⟨by rfl, ?_⟩) (by assumption) ?_
        rotate_left
        · (intro w hSw; (try dsimp only at hSw); go_simp) <;> with_reducible rfl
        try simp only [Act.put, List.setIfInBounds_toArray, List.set_cons_zero, List.set_cons_succ]
        refine wpAnyH_take (i := 14) (oi := { dst := some 30, op := Op.move (Operand.tmp 0), type := 23, pos := "l09_ledger.go:69", after := #[{ on := 6, ground := Ground.guard }], guard := some (6, false) }) (v := ?_) rfl (by kernel_rfl) (by kernel_rfl) (by kernel_rfl) (fun _ _ _ h => h) (Or.inl ⟨by rfl, ?_⟩) (by assumption) ?_
        rotate_left
        · (intro w hSw; (try dsimp only at hSw); go_simp) <;> with_reducible rfl
        try simp only [Act.put, List.setIfInBounds_toArray, List.set_cons_zero, List.set_cons_succ]
        refine wpAnyH_take (i := 15) (oi := { dst := some 31, op := Op.move (Operand.tmp 3), type := 3, pos := "l09_ledger.go:69", after := #[{ on := 6, ground := Ground.guard }], guard := some (6, false) }) (v := ?_) rfl (by kernel_rfl) (by kernel_rfl) (by kernel_rfl) (fun _ _ _ h => h) (Or.inl ⟨by rfl, ?_⟩) (by assumption) ?_
        rotate_left
        · (intro w hSw; (try dsimp only at hSw); go_simp) <;> with_reducible rfl
        try simp only [Act.put, List.setIfInBounds_toArray, List.set_cons_zero, List.set_cons_succ]
        refine wpAnyH_take (i := 16) (oi := { dst := some 32, op := Op.indexAddr 23 (Operand.tmp 30) (Operand.tmp 31), type := 0, pos := "l09_ledger.go:69", after := #[{ on := 14, ground := Ground.data }, { on := 15, ground := Ground.data }, { on := 6, ground := Ground.guard }], guard := some (6, false) }) (v := ?_) rfl (by kernel_rfl) (by kernel_rfl) (by kernel_rfl) (fun _ _ _ h => h) (Or.inl ⟨by rfl, ?_⟩) (by assumption) ?_
        rotate_left
        · (intro w hSw; (try dsimp only at hSw); go_simp) <;> with_reducible rfl
        try simp only [Act.put, List.setIfInBounds_toArray, List.set_cons_zero, List.set_cons_succ]
        refine wpAnyH_take (i := 17) (oi := { dst := some 33, op := Op.fieldAddr 29 (Operand.tmp 32) 0, type := 0, pos := "l09_ledger.go:69", after := #[{ on := 16, ground := Ground.data }, { on := 6, ground := Ground.guard }], guard := some (6, false) }) (v := ?_) rfl (by kernel_rfl) (by kernel_rfl) (by kernel_rfl) (fun _ _ _ h => h) (Or.inl ⟨by rfl, ?_⟩) (by assumption) ?_
        rotate_left
        · (intro w hSw; (try dsimp only at hSw); go_simp) <;> with_reducible rfl
        try simp only [Act.put, List.setIfInBounds_toArray, List.set_cons_zero, List.set_cons_succ]
        refine wpAnyH_take (i := 18) (oi := { dst := some 34, op := Op.load 9 (Operand.tmp 33), type := 9, pos := "l09_ledger.go:69", after := #[{ on := 17, ground := Ground.data }, { on := 6, ground := Ground.guard }], guard := some (6, false) }) (v := ?_) rfl (by kernel_rfl) (by kernel_rfl) (by kernel_rfl) (fun _ _ _ h => h) (Or.inl ⟨by rfl, ?_⟩) (by assumption) ?_
        rotate_left
        · (intro w hSw; (try dsimp only at hSw); go_simp) <;> with_reducible rfl
        try simp only [Act.put, List.setIfInBounds_toArray, List.set_cons_zero, List.set_cons_succ]
        refine wpAnyH_take (i := 19) (oi := { dst := some 35, op := Op.move (Operand.tmp 0), type := 23, pos := "l09_ledger.go:69", after := #[{ on := 6, ground := Ground.guard }], guard := some (6, false) }) (v := ?_) rfl (by kernel_rfl) (by kernel_rfl) (by kernel_rfl) (fun _ _ _ h => h) (Or.inl ⟨by rfl, ?_⟩) (by assumption) ?_
        rotate_left
        · (intro w hSw; (try dsimp only at hSw); go_simp) <;> with_reducible rfl
        try simp only [Act.put, List.setIfInBounds_toArray, List.set_cons_zero, List.set_cons_succ]
        refine wpAnyH_take (i := 20) (oi := { dst := some 36, op := Op.move (Operand.tmp 3), type := 3, pos := "l09_ledger.go:69", after := #[{ on := 6, ground := Ground.guard }], guard := some (6, false) }) (v := ?_) rfl (by kernel_rfl) (by kernel_rfl) (by kernel_rfl) (fun _ _ _ h => h) (Or.inl ⟨by rfl, ?_⟩) (by assumption) ?_
        rotate_left
        · (intro w hSw; (try dsimp only at hSw); go_simp) <;> with_reducible rfl
        try simp only [Act.put, List.setIfInBounds_toArray, List.set_cons_zero, List.set_cons_succ]
        refine wpAnyH_take (i := 21) (oi := { dst := some 37, op := Op.indexAddr 23 (Operand.tmp 35) (Operand.tmp 36), type := 0, pos := "l09_ledger.go:69", after := #[{ on := 19, ground := Ground.data }, { on := 20, ground := Ground.data }, { on := 6, ground := Ground.guard }], guard := some (6, false) }) (v := ?_) rfl (by kernel_rfl) (by kernel_rfl) (by kernel_rfl) (fun _ _ _ h => h) (Or.inl ⟨by rfl, ?_⟩) (by assumption) ?_
        rotate_left
        · (intro w hSw; (try dsimp only at hSw); go_simp) <;> with_reducible rfl
        try simp only [Act.put, List.setIfInBounds_toArray, List.set_cons_zero, List.set_cons_succ]
        refine wpAnyH_take (i := 22) (oi := { dst := some 38, op := Op.fieldAddr 29 (Operand.tmp 37) 1, type := 0, pos := "l09_ledger.go:69", after := #[{ on := 21, ground := Ground.data }, { on := 6, ground := Ground.guard }], guard := some (6, false) }) (v := ?_) rfl (by kernel_rfl) (by kernel_rfl) (by kernel_rfl) (fun _ _ _ h => h) (Or.inl ⟨by rfl, ?_⟩) (by assumption) ?_
        rotate_left
        · (intro w hSw; (try dsimp only at hSw); go_simp) <;> with_reducible rfl
        try simp only [Act.put, List.setIfInBounds_toArray, List.set_cons_zero, List.set_cons_succ]
        refine wpAnyH_take (i := 23) (oi := { dst := some 39, op := Op.load 2 (Operand.tmp 38), type := 2, pos := "l09_ledger.go:69", after := #[{ on := 22, ground := Ground.data }, { on := 6, ground := Ground.guard }], guard := some (6, false) }) (v := ?_) rfl (by kernel_rfl) (by kernel_rfl) (by kernel_rfl) (fun _ _ _ h => h) (Or.inl ⟨by rfl, ?_⟩) (by assumption) ?_
        rotate_left
        · (intro w hSw; (try dsimp only at hSw); go_simp) <;> with_reducible rfl
        try simp only [Act.put, List.setIfInBounds_toArray, List.set_cons_zero, List.set_cons_succ]
        refine wpAnyH_ready (rs := [24]) (by kernel_rfl) (by simp) ?_
        refine AllReadyH.cons (o := { dst := some 40, op := Op.call { callee := Callee.value (Operand.func 41), args := #[Operand.tmp 28, Operand.tmp 29, Operand.tmp 34, Operand.tmp 39], argTypes := #[23, 3, 9, 2] }, type := 2, pos := "l09_ledger.go:69", after := #[{ on := 12, ground := Ground.data }, { on := 13, ground := Ground.data }, { on := 18, ground := Ground.data }, { on := 23, ground := Ground.data }, { on := 6, ground := Ground.chain }, { on := 6, ground := Ground.guard }], guard := some (6, false) }) rfl (fun K hK => ?_) AllReadyH.nil
        go_simp
        go_at_call 41
        refine (HC.out _ hk1.1).mono ?_
        rintro e q2 ⟨rfl, hq2⟩
        try go_wp2_with fail
        have hk2 := QB.below (w := w) (b := b) (o := off + k * 4) (xa := xa) (xm := xm) (xs := xs) (la := la) (ll := ll) (lc := lc) hk1 hq2
        refine hK.out _ _ hk2 (fun _ => ?_)
        clear hK K
        try simp only [Act.put, List.setIfInBounds_toArray, List.set_cons_zero, List.set_cons_succ]
        refine wpAnyH_take (i := 25) (oi := { dst := some 41, op := Op.binOp BinOp.neq 2 (Operand.tmp 27) (Operand.tmp 40) 2, type := 4, pos := "l09_ledger.go:69", after := #[{ on := 11, ground := Ground.data }, { on := 24, ground := Ground.data }, { on := 6, ground := Ground.guard }], guard := some (6, false) }) (v := ?_) rfl (by kernel_rfl) (by kernel_rfl) (by kernel_rfl) (fun _ _ _ h => h) (Or.inl ⟨by rfl, ?_⟩) (by assumption) ?_
        rotate_left
        · (intro w hSw; (try dsimp only at hSw); go_simp) <;> with_reducible rfl
        try simp only [Act.put, List.setIfInBounds_toArray, List.set_cons_zero, List.set_cons_succ]
        refine wpAnyH_take (i := 26) (oi := { dst := some 42, op := Op.pick (Operand.tmp 22) (Operand.const (Value.bool true)) (Operand.tmp 41), type := 4, pos := "l09_ledger.go:69", after := #[{ on := 6, ground := Ground.data }, { on := 25, ground := Ground.data }], guard := none }) (v := ?_) rfl (by kernel_rfl) (by kernel_rfl) (by kernel_rfl) (fun _ _ _ h => h) (Or.inl ⟨by rfl, ?_⟩) (by assumption) ?_
        rotate_left
        · (intro w hSw; (try dsimp only at hSw); go_simp) <;> with_reducible rfl
        try simp only [Act.put, List.setIfInBounds_toArray, List.set_cons_zero, List.set_cons_succ]
        refine wpAnyH_done (by kernel_rfl) ?_ _
        have HBQ := hid_intro hk2.1
        clear hk1 hk2
        go_wp2_with fail
        go_ret
        exact ⟨by rw [HE.out]; rfl, HBQ.out⟩
    · have hlt2 : ¬ (k : Int) < (len : Int) := by omega
      obtain rfl : k = len := by omega
      have HSL : Hid (SOk ds ds.length) := hid_intro (by have h := HS.out; rw [HL.out] at h; exact h)
      obtain ⟨Wo, hWo⟩ : ∃ Wo, Wo = wr := ⟨_, rfl⟩
      subst hWo
      clear HS
      obtain ⟨len, hlen2⟩ : ∃ len, len = k := ⟨_, rfl⟩
      subst hlen2
      go_wp2_with fail
      go_loopw [4] (fun z wr => ∃ k : Nat, k ≤ len ∧ z = .int .i64 k ∧ Hid (NOk ds k) ∧ Hid (Below w.heap.size w wr)) (fun z _ => len - (intOf z).toNat)
      case atStart => exact ⟨0, by omega, rfl, hid_intro (fun i hi => absurd hi (by omega)), HB⟩
      case round =>
        clear HB
        obtain ⟨k, hk, rfl, HN, HB⟩ := hrel
        by_cases hlt : k < len
        · have hlt2 : (k : Int) < (len : Int) := by omega
          have hkl : k < ds.length := by have := HL.out; omega
          obtain ⟨b, off, la, lc, rfl, hbl, c0, c1, c2, c3, hLi⟩ := (HI.out.below HB.out).at k hkl
          obtain ⟨X, hX⟩ : ∃ X, X = ds.getD k D.zero := ⟨_, rfl⟩
          rw [← hX] at c0 c1 c2 c3
          have HXX := hid_intro hX
          clear hX hLi
          obtain ⟨xa, xm, xs, xl⟩ := X
          dsimp only at c0 c1 c2 c3
          generalize xl.length = ll at *
          have HSM : Hid (Calls Try.prog 43 #[.slice (some ⟨b, off, none⟩) len cap, .string xa, .int .i64 xm] wr.drew fun e w' => ∃ v, e = .returned v ∧ OwnN w' wr.drew.heap.size v (net ds xa xm) ∧ Below wr.drew.heap.size wr.drew w') := hid_intro (by have h := ssum (some ⟨b, off, none⟩) cap ds xa xm wr.drew (by have := HL.out; omega) HSL.out (HI.out.below (HB.out.trans ((Below.refl _ _).drew.mono HB.out.size))); rw [← HL.out] at h; exact h)
          have HNL : Hid ((net ds xa xm).length ≤ 1000) := hid_intro (by have h := (net_facts (ds := ds) ds.length (Nat.le_refl _) HSL.out xa xm).2.1; rw [List.take_length] at h; have := HL.out; omega)
          have HNO : Hid (ovB (net ds xa xm) = false → R = false) := hid_intro (fun h => by rw [← HR.out]; exact lB_no (fun hr => by
            have h1 := hr.2.2 k hkl
            rw [← HXX.out] at h1
            rw [h] at h1
            cases h1))
          have HYE : Hid (ovB (net ds xa xm) = true → NOk ds (k + 1)) := hid_intro (fun h i hi => by
            by_cases e : i = k
            · subst e
              rw [← HXX.out]
              exact h
            · exact HN.out i (by omega))
          have HS0 : Hid (QB w b (off + k * 4) xa xm xs la ll lc wr.drew) := hid_intro ⟨HB.out.drew, hbl, c0, c1, c2, c3⟩
          clear c0 c1 c2 c3
          cases ho : ovB (net ds xa xm)
          · have HE := hid_intro (HNO.out ho)
            have HOV := hid_intro ho
            clear ho
            go_wp2_with fail
            refine wp_region_held_drew (S := (fun W => Below w.heap.size w W ∧ b < W.heap.size ∧ W.cell? ⟨b, off + k * 4, none⟩ = some (.string xa) ∧ W.cell? ⟨b, off + k * 4 + 1, none⟩ = some (.int .i64 xm) ∧ W.cell? ⟨b, off + k * 4 + 2, none⟩ = some (.int .i64 xs) ∧ W.cell? ⟨b, off + k * 4 + 3, none⟩ = some (.slice la ll lc))) (by kernel_rfl) HS0.out (fun hHeld => ?_)
            refine wpAnyH_take (i := 0) (oi := { dst := some 50, op := Op.move (Operand.tmp 0), type := 23, pos := "l09_ledger.go:74", after := #[], guard := none }) (v := ?_) rfl (by kernel_rfl) (by kernel_rfl) (by kernel_rfl) (fun _ _ _ h => h) (Or.inl ⟨by rfl, ?_⟩) (by assumption) ?_
            rotate_left
            · (intro w hSw; (try dsimp only at hSw); go_simp) <;> with_reducible rfl
            try simp only [Act.put, List.setIfInBounds_toArray, List.set_cons_zero, List.set_cons_succ]
            refine wpAnyH_take (i := 1) (oi := { dst := some 51, op := Op.move (Operand.tmp 0), type := 23, pos := "l09_ledger.go:74", after := #[], guard := none }) (v := ?_) rfl (by kernel_rfl) (by kernel_rfl) (by kernel_rfl) (fun _ _ _ h => h) (Or.inl ⟨by rfl, ?_⟩) (by assumption) ?_
            rotate_left
            · (intro w hSw; (try dsimp only at hSw); go_simp) <;> with_reducible rfl
            try simp only [Act.put, List.setIfInBounds_toArray, List.set_cons_zero, List.set_cons_succ]
            refine wpAnyH_take (i := 2) (oi := { dst := some 52, op := Op.move (Operand.tmp 4), type := 3, pos := "l09_ledger.go:74", after := #[], guard := none }) (v := ?_) rfl (by kernel_rfl) (by kernel_rfl) (by kernel_rfl) (fun _ _ _ h => h) (Or.inl ⟨by rfl, ?_⟩) (by assumption) ?_
            rotate_left
            · (intro w hSw; (try dsimp only at hSw); go_simp) <;> with_reducible rfl
            try simp only [Act.put, List.setIfInBounds_toArray, List.set_cons_zero, List.set_cons_succ]
            refine wpAnyH_take (i := 3) (oi := { dst := some 53, op := Op.indexAddr 23 (Operand.tmp 51) (Operand.tmp 52), type := 0, pos := "l09_ledger.go:74", after := #[{ on := 1, ground := Ground.data }, { on := 2, ground := Ground.data }], guard := none }) (v := ?_) rfl (by kernel_rfl) (by kernel_rfl) (by kernel_rfl) (fun _ _ _ h => h) (Or.inl ⟨by rfl, ?_⟩) (by assumption) ?_
            rotate_left
            · (intro w hSw; (try dsimp only at hSw); go_simp) <;> with_reducible rfl
            try simp only [Act.put, List.setIfInBounds_toArray, List.set_cons_zero, List.set_cons_succ]
            refine wpAnyH_take (i := 4) (oi := { dst := some 54, op := Op.fieldAddr 29 (Operand.tmp 53) 0, type := 0, pos := "l09_ledger.go:74", after := #[{ on := 3, ground := Ground.data }], guard := none }) (v := ?_) rfl (by kernel_rfl) (by kernel_rfl) (by kernel_rfl) (fun _ _ _ h => h) (Or.inl ⟨by rfl, ?_⟩) (by assumption) ?_
            rotate_left
            · (intro w hSw; (try dsimp only at hSw); go_simp) <;> with_reducible rfl
            try simp only [Act.put, List.setIfInBounds_toArray, List.set_cons_zero, List.set_cons_succ]
            refine wpAnyH_take (i := 5) (oi := { dst := some 55, op := Op.load 9 (Operand.tmp 54), type := 9, pos := "l09_ledger.go:74", after := #[{ on := 4, ground := Ground.data }], guard := none }) (v := ?_) rfl (by kernel_rfl) (by kernel_rfl) (by kernel_rfl) (fun _ _ _ h => h) (Or.inl ⟨by rfl, ?_⟩) (by assumption) ?_
            rotate_left
            · (intro w hSw; (try dsimp only at hSw); go_simp) <;> with_reducible rfl
            try simp only [Act.put, List.setIfInBounds_toArray, List.set_cons_zero, List.set_cons_succ]
            refine wpAnyH_take (i := 6) (oi := { dst := some 56, op := Op.move (Operand.tmp 0), type := 23, pos := "l09_ledger.go:74", after := #[], guard := none }) (v := ?_) rfl (by kernel_rfl) (by kernel_rfl) (by kernel_rfl) (fun _ _ _ h => h) (Or.inl ⟨by rfl, ?_⟩) (by assumption) ?_
            rotate_left
            · (intro w hSw; (try dsimp only at hSw); go_simp) <;> with_reducible rfl
            try simp only [Act.put, List.setIfInBounds_toArray, List.set_cons_zero, List.set_cons_succ]
            refine wpAnyH_take (i := 7) (oi := { dst := some 57, op := Op.move (Operand.tmp 4), type := 3, pos := "l09_ledger.go:74", after := #[], guard := none }) (v := ?_) rfl (by kernel_rfl) (by kernel_rfl) (by kernel_rfl) (fun _ _ _ h => h) (Or.inl ⟨by rfl, ?_⟩) (by assumption) ?_
            rotate_left
            · (intro w hSw; (try dsimp only at hSw); go_simp) <;> with_reducible rfl
            try simp only [Act.put, List.setIfInBounds_toArray, List.set_cons_zero, List.set_cons_succ]
            refine wpAnyH_take (i := 8) (oi := { dst := some 58, op := Op.indexAddr 23 (Operand.tmp 56) (Operand.tmp 57), type := 0, pos := "l09_ledger.go:74", after := #[{ on := 6, ground := Ground.data }, { on := 7, ground := Ground.data }], guard := none }) (v := ?_) rfl (by kernel_rfl) (by kernel_rfl) (by kernel_rfl) (fun _ _ _ h => h) (Or.inl ⟨by rfl, ?_⟩) (by assumption) ?_
            rotate_left
            · (intro w hSw; (try dsimp only at hSw); go_simp) <;> with_reducible rfl
            try simp only [Act.put, List.setIfInBounds_toArray, List.set_cons_zero, List.set_cons_succ]
            refine wpAnyH_take (i := 9) (oi := { dst := some 59, op := Op.fieldAddr 29 (Operand.tmp 58) 1, type := 0, pos := "l09_ledger.go:74", after := #[{ on := 8, ground := Ground.data }], guard := none }) (v := ?_) rfl (by kernel_rfl) (by kernel_rfl) (by kernel_rfl) (fun _ _ _ h => h) (Or.inl ⟨by rfl, ?_⟩) (by assumption) ?_
            rotate_left
            · (intro w hSw; (try dsimp only at hSw); go_simp) <;> with_reducible rfl
            try simp only [Act.put, List.setIfInBounds_toArray, List.set_cons_zero, List.set_cons_succ]
            refine wpAnyH_take (i := 10) (oi := { dst := some 60, op := Op.load 2 (Operand.tmp 59), type := 2, pos := "l09_ledger.go:74", after := #[{ on := 9, ground := Ground.data }], guard := none }) (v := ?_) rfl (by kernel_rfl) (by kernel_rfl) (by kernel_rfl) (fun _ _ _ h => h) (Or.inl ⟨by rfl, ?_⟩) (by assumption) ?_
            rotate_left
            · (intro w hSw; (try dsimp only at hSw); go_simp) <;> with_reducible rfl
            try simp only [Act.put, List.setIfInBounds_toArray, List.set_cons_zero, List.set_cons_succ]
            refine wpAnyH_ready (rs := [11]) (by kernel_rfl) (by simp) ?_
            refine AllReadyH.cons (o := { dst := some 61, op := Op.call { callee := Callee.value (Operand.func 43), args := #[Operand.tmp 50, Operand.tmp 55, Operand.tmp 60], argTypes := #[23, 9, 2] }, type := 27, pos := "l09_ledger.go:74", after := #[{ on := 0, ground := Ground.data }, { on := 5, ground := Ground.data }, { on := 10, ground := Ground.data }], guard := none }) rfl (fun K hK => ?_) AllReadyH.nil
            go_simp
            go_at_call 43
            refine HSM.out.mono ?_
            rintro e q1 ⟨v, rfl, hv, hq1⟩
            obtain ⟨g, cp, rfl, g1, g2, g3, g4, g5⟩ := hv.open
            have HCL := hid_intro (sclean (some ⟨g, 0, none⟩) cp (net ds xa xm) q1 (by have := HNL.out; omega) g5)
            clear hv g5
            try go_wp2_with fail
            have hk1 := QB.below (w := w) (b := b) (o := off + k * 4) (xa := xa) (xm := xm) (xs := xs) (la := la) (ll := ll) (lc := lc) HS0.out hq1
            refine hK.out _ _ hk1 (fun _ => ?_)
            clear hK K
            try simp only [Act.put, List.setIfInBounds_toArray, List.set_cons_zero, List.set_cons_succ]
            refine wpAnyH_ready (rs := [12]) (by kernel_rfl) (by simp) ?_
            refine AllReadyH.cons (o := { dst := some 62, op := Op.call { callee := Callee.value (Operand.func 42), args := #[Operand.tmp 61], argTypes := #[27] }, type := 81, pos := "l09_ledger.go:74", after := #[{ on := 11, ground := Ground.data }, { on := 11, ground := Ground.chain }], guard := none }) rfl (fun K hK => ?_) AllReadyH.nil
            go_simp
            go_at_call 42
            refine HCL.out.mono ?_
            rintro e q2 ⟨v2, rfl, hv2, hq2⟩
            clear hv2
            try go_wp2_with fail
            have hk2 := QB.below (w := w) (b := b) (o := off + k * 4) (xa := xa) (xm := xm) (xs := xs) (la := la) (ll := ll) (lc := lc) hk1 hq2
            refine hK.out _ _ hk2 (fun _ => ?_)
            clear hK K
            try simp only [Act.put, List.setIfInBounds_toArray, List.set_cons_zero, List.set_cons_succ]
            refine wpAnyH_take (i := 13) (oi := { dst := some 49, op := Op.move (Operand.tmp 62), type := 81, pos := "l09_ledger.go:74", after := #[{ on := 12, ground := Ground.data }], guard := none }) (v := ?_) rfl (by kernel_rfl) (by kernel_rfl) (by kernel_rfl) (fun _ _ _ h => h) (Or.inl ⟨by rfl, ?_⟩) (by assumption) ?_
            rotate_left
            · (intro w hSw; (try dsimp only at hSw); go_simp) <;> with_reducible rfl
            try simp only [Act.put, List.setIfInBounds_toArray, List.set_cons_zero, List.set_cons_succ]
            refine wpAnyH_take (i := 14) (oi := { dst := some 63, op := Op.extract (Operand.tmp 49) 0, type := 27, pos := "l09_ledger.go:74", after := #[{ on := 13, ground := Ground.data }], guard := none }) (v := ?_) rfl (by kernel_rfl) (by kernel_rfl) (by kernel_rfl) (fun _ _ _ h => h) (Or.inl ⟨by rfl, ?_⟩) (by assumption) ?_
            rotate_left
            · (intro w hSw; (try dsimp only at hSw); go_simp) <;> with_reducible rfl
            try simp only [Act.put, List.setIfInBounds_toArray, List.set_cons_zero, List.set_cons_succ]
            refine wpAnyH_take (i := 15) (oi := { dst := some 64, op := Op.extract (Operand.tmp 49) 1, type := 4, pos := "l09_ledger.go:74", after := #[{ on := 13, ground := Ground.data }, { on := 16, ground := Ground.gcOnly Departure.lateStores }], guard := none }) (v := ?_) rfl (by kernel_rfl) (by kernel_rfl) (by kernel_rfl) (fun _ _ _ h => h) (Or.inl ⟨by rfl, ?_⟩) (by assumption) ?_
            rotate_left
            · (intro w hSw; (try dsimp only at hSw); go_simp) <;> with_reducible rfl
            try simp only [Act.put, List.setIfInBounds_toArray, List.set_cons_zero, List.set_cons_succ]
            refine wpAnyH_take (i := 16) (oi := { dst := some 5, op := Op.assign (Operand.tmp 63), type := 27, pos := "l09_ledger.go:74", after := #[{ on := 14, ground := Ground.data }, { on := 12, ground := Ground.chain }, { on := 0, ground := Ground.phase }, { on := 1, ground := Ground.phase }, { on := 2, ground := Ground.phase }, { on := 3, ground := Ground.phase }, { on := 4, ground := Ground.phase }, { on := 5, ground := Ground.phase }, { on := 6, ground := Ground.phase }, { on := 7, ground := Ground.phase }, { on := 8, ground := Ground.phase }, { on := 9, ground := Ground.phase }, { on := 10, ground := Ground.phase }, { on := 11, ground := Ground.phase }, { on := 12, ground := Ground.phase }, { on := 13, ground := Ground.phase }, { on := 14, ground := Ground.phase }, { on := 15, ground := Ground.textOnly Departure.lateStores }], guard := none }) (v := ?_) rfl (by kernel_rfl) (by kernel_rfl) (by kernel_rfl) (fun _ _ _ h => h) (Or.inl ⟨by rfl, ?_⟩) (by assumption) ?_
            rotate_left
            · (intro w hSw; (try dsimp only at hSw); go_simp) <;> with_reducible rfl
            try simp only [Act.put, List.setIfInBounds_toArray, List.set_cons_zero, List.set_cons_succ]
            refine wpAnyH_take (i := 17) (oi := { dst := some 6, op := Op.assign (Operand.tmp 64), type := 4, pos := "l09_ledger.go:74", after := #[{ on := 15, ground := Ground.data }, { on := 16, ground := Ground.chain }, { on := 0, ground := Ground.phase }, { on := 1, ground := Ground.phase }, { on := 2, ground := Ground.phase }, { on := 3, ground := Ground.phase }, { on := 4, ground := Ground.phase }, { on := 5, ground := Ground.phase }, { on := 6, ground := Ground.phase }, { on := 7, ground := Ground.phase }, { on := 8, ground := Ground.phase }, { on := 9, ground := Ground.phase }, { on := 10, ground := Ground.phase }, { on := 11, ground := Ground.phase }, { on := 12, ground := Ground.phase }, { on := 13, ground := Ground.phase }, { on := 14, ground := Ground.phase }, { on := 15, ground := Ground.phase }, { on := 16, ground := Ground.phase }], guard := none }) (v := ?_) rfl (by kernel_rfl) (by kernel_rfl) (by kernel_rfl) (fun _ _ _ h => h) (Or.inl ⟨by rfl, ?_⟩) (by assumption) ?_
            rotate_left
            · (intro w hSw; (try dsimp only at hSw); go_simp) <;> with_reducible rfl
            try simp only [Act.put, List.setIfInBounds_toArray, List.set_cons_zero, List.set_cons_succ]
            refine wpAnyH_done (by kernel_rfl) ?_ _
            have HBQ := hid_intro hk2.1
            clear hk1 hk2 HCL
            rw [HOV.out]
            go_wp2_with fail
            go_ret
            exact ⟨by rw [HE.out]; rfl, HBQ.out⟩
          · have HE := hid_intro (HYE.out ho)
            have HOV := hid_intro ho
            clear ho
            go_wp2_with fail
            refine wp_region_held_drew (S := (fun W => Below w.heap.size w W ∧ b < W.heap.size ∧ W.cell? ⟨b, off + k * 4, none⟩ = some (.string xa) ∧ W.cell? ⟨b, off + k * 4 + 1, none⟩ = some (.int .i64 xm) ∧ W.cell? ⟨b, off + k * 4 + 2, none⟩ = some (.int .i64 xs) ∧ W.cell? ⟨b, off + k * 4 + 3, none⟩ = some (.slice la ll lc))) (by kernel_rfl) HS0.out (fun hHeld => ?_)
            refine wpAnyH_take (i := 0) (oi := { dst := some 50, op := Op.move (Operand.tmp 0), type := 23, pos := "l09_ledger.go:74", after := #[], guard := none }) (v := ?_) rfl (by kernel_rfl) (by kernel_rfl) (by kernel_rfl) (fun _ _ _ h => h) (Or.inl ⟨by rfl, ?_⟩) (by assumption) ?_
            rotate_left
            · (intro w hSw; (try dsimp only at hSw); go_simp) <;> with_reducible rfl
            try simp only [Act.put, List.setIfInBounds_toArray, List.set_cons_zero, List.set_cons_succ]
            refine wpAnyH_take (i := 1) (oi := { dst := some 51, op := Op.move (Operand.tmp 0), type := 23, pos := "l09_ledger.go:74", after := #[], guard := none }) (v := ?_) rfl (by kernel_rfl) (by kernel_rfl) (by kernel_rfl) (fun _ _ _ h => h) (Or.inl ⟨by rfl, ?_⟩) (by assumption) ?_
            rotate_left
            · (intro w hSw; (try dsimp only at hSw); go_simp) <;> with_reducible rfl
            try simp only [Act.put, List.setIfInBounds_toArray, List.set_cons_zero, List.set_cons_succ]
            refine wpAnyH_take (i := 2) (oi := { dst := some 52, op := Op.move (Operand.tmp 4), type := 3, pos := "l09_ledger.go:74", after := #[], guard := none }) (v := ?_) rfl (by kernel_rfl) (by kernel_rfl) (by kernel_rfl) (fun _ _ _ h => h) (Or.inl ⟨by rfl, ?_⟩) (by assumption) ?_
            rotate_left
            · (intro w hSw; (try dsimp only at hSw); go_simp) <;> with_reducible rfl
            try simp only [Act.put, List.setIfInBounds_toArray, List.set_cons_zero, List.set_cons_succ]
            refine wpAnyH_take (i := 3) (oi := { dst := some 53, op := Op.indexAddr 23 (Operand.tmp 51) (Operand.tmp 52), type := 0, pos := "l09_ledger.go:74", after := #[{ on := 1, ground := Ground.data }, { on := 2, ground := Ground.data }], guard := none }) (v := ?_) rfl (by kernel_rfl) (by kernel_rfl) (by kernel_rfl) (fun _ _ _ h => h) (Or.inl ⟨by rfl, ?_⟩) (by assumption) ?_
            rotate_left
            · (intro w hSw; (try dsimp only at hSw); go_simp) <;> with_reducible rfl
            try simp only [Act.put, List.setIfInBounds_toArray, List.set_cons_zero, List.set_cons_succ]
            refine wpAnyH_take (i := 4) (oi := { dst := some 54, op := Op.fieldAddr 29 (Operand.tmp 53) 0, type := 0, pos := "l09_ledger.go:74", after := #[{ on := 3, ground := Ground.data }], guard := none }) (v := ?_) rfl (by kernel_rfl) (by kernel_rfl) (by kernel_rfl) (fun _ _ _ h => h) (Or.inl ⟨by rfl, ?_⟩) (by assumption) ?_
            rotate_left
            · (intro w hSw; (try dsimp only at hSw); go_simp) <;> with_reducible rfl
            try simp only [Act.put, List.setIfInBounds_toArray, List.set_cons_zero, List.set_cons_succ]
            refine wpAnyH_take (i := 5) (oi := { dst := some 55, op := Op.load 9 (Operand.tmp 54), type := 9, pos := "l09_ledger.go:74", after := #[{ on := 4, ground := Ground.data }], guard := none }) (v := ?_) rfl (by kernel_rfl) (by kernel_rfl) (by kernel_rfl) (fun _ _ _ h => h) (Or.inl ⟨by rfl, ?_⟩) (by assumption) ?_
            rotate_left
            · (intro w hSw; (try dsimp only at hSw); go_simp) <;> with_reducible rfl
            try simp only [Act.put, List.setIfInBounds_toArray, List.set_cons_zero, List.set_cons_succ]
            refine wpAnyH_take (i := 6) (oi := { dst := some 56, op := Op.move (Operand.tmp 0), type := 23, pos := "l09_ledger.go:74", after := #[], guard := none }) (v := ?_) rfl (by kernel_rfl) (by kernel_rfl) (by kernel_rfl) (fun _ _ _ h => h) (Or.inl ⟨by rfl, ?_⟩) (by assumption) ?_
            rotate_left
            · (intro w hSw; (try dsimp only at hSw); go_simp) <;> with_reducible rfl
            try simp only [Act.put, List.setIfInBounds_toArray, List.set_cons_zero, List.set_cons_succ]
            refine wpAnyH_take (i := 7) (oi := { dst := some 57, op := Op.move (Operand.tmp 4), type := 3, pos := "l09_ledger.go:74", after := #[], guard := none }) (v := ?_) rfl (by kernel_rfl) (by kernel_rfl) (by kernel_rfl) (fun _ _ _ h => h) (Or.inl ⟨by rfl, ?_⟩) (by assumption) ?_
            rotate_left
            · (intro w hSw; (try dsimp only at hSw); go_simp) <;> with_reducible rfl
            try simp only [Act.put, List.setIfInBounds_toArray, List.set_cons_zero, List.set_cons_succ]
            refine wpAnyH_take (i := 8) (oi := { dst := some 58, op := Op.indexAddr 23 (Operand.tmp 56) (Operand.tmp 57), type := 0, pos := "l09_ledger.go:74", after := #[{ on := 6, ground := Ground.data }, { on := 7, ground := Ground.data }], guard := none }) (v := ?_) rfl (by kernel_rfl) (by kernel_rfl) (by kernel_rfl) (fun _ _ _ h => h) (Or.inl ⟨by rfl, ?_⟩) (by assumption) ?_
            rotate_left
            · (intro w hSw; (try dsimp only at hSw); go_simp) <;> with_reducible rfl
            try simp only [Act.put, List.setIfInBounds_toArray, List.set_cons_zero, List.set_cons_succ]
            refine wpAnyH_take (i := 9) (oi := { dst := some 59, op := Op.fieldAddr 29 (Operand.tmp 58) 1, type := 0, pos := "l09_ledger.go:74", after := #[{ on := 8, ground := Ground.data }], guard := none }) (v := ?_) rfl (by kernel_rfl) (by kernel_rfl) (by kernel_rfl) (fun _ _ _ h => h) (Or.inl ⟨by rfl, ?_⟩) (by assumption) ?_
            rotate_left
            · (intro w hSw; (try dsimp only at hSw); go_simp) <;> with_reducible rfl
            try simp only [Act.put, List.setIfInBounds_toArray, List.set_cons_zero, List.set_cons_succ]
            refine wpAnyH_take (i := 10) (oi := { dst := some 60, op := Op.load 2 (Operand.tmp 59), type := 2, pos := "l09_ledger.go:74", after := #[{ on := 9, ground := Ground.data }], guard := none }) (v := ?_) rfl (by kernel_rfl) (by kernel_rfl) (by kernel_rfl) (fun _ _ _ h => h) (Or.inl ⟨by rfl, ?_⟩) (by assumption) ?_
            rotate_left
            · (intro w hSw; (try dsimp only at hSw); go_simp) <;> with_reducible rfl
            try simp only [Act.put, List.setIfInBounds_toArray, List.set_cons_zero, List.set_cons_succ]
            refine wpAnyH_ready (rs := [11]) (by kernel_rfl) (by simp) ?_
            refine AllReadyH.cons (o := { dst := some 61, op := Op.call { callee := Callee.value (Operand.func 43), args := #[Operand.tmp 50, Operand.tmp 55, Operand.tmp 60], argTypes := #[23, 9, 2] }, type := 27, pos := "l09_ledger.go:74", after := #[{ on := 0, ground := Ground.data }, { on := 5, ground := Ground.data }, { on := 10, ground := Ground.data }], guard := none }) rfl (fun K hK => ?_) AllReadyH.nil
            go_simp
            go_at_call 43
            refine HSM.out.mono ?_
            rintro e q1 ⟨v, rfl, hv, hq1⟩
            obtain ⟨g, cp, rfl, g1, g2, g3, g4, g5⟩ := hv.open
            have HCL := hid_intro (sclean (some ⟨g, 0, none⟩) cp (net ds xa xm) q1 (by have := HNL.out; omega) g5)
            clear hv g5
            try go_wp2_with fail
            have hk1 := QB.below (w := w) (b := b) (o := off + k * 4) (xa := xa) (xm := xm) (xs := xs) (la := la) (ll := ll) (lc := lc) HS0.out hq1
            refine hK.out _ _ hk1 (fun _ => ?_)
            clear hK K
            try simp only [Act.put, List.setIfInBounds_toArray, List.set_cons_zero, List.set_cons_succ]
            refine wpAnyH_ready (rs := [12]) (by kernel_rfl) (by simp) ?_
            refine AllReadyH.cons (o := { dst := some 62, op := Op.call { callee := Callee.value (Operand.func 42), args := #[Operand.tmp 61], argTypes := #[27] }, type := 81, pos := "l09_ledger.go:74", after := #[{ on := 11, ground := Ground.data }, { on := 11, ground := Ground.chain }], guard := none }) rfl (fun K hK => ?_) AllReadyH.nil
            go_simp
            go_at_call 42
            refine HCL.out.mono ?_
            rintro e q2 ⟨v2, rfl, hv2, hq2⟩
            clear hv2
            try go_wp2_with fail
            have hk2 := QB.below (w := w) (b := b) (o := off + k * 4) (xa := xa) (xm := xm) (xs := xs) (la := la) (ll := ll) (lc := lc) hk1 hq2
            refine hK.out _ _ hk2 (fun _ => ?_)
            clear hK K
            try simp only [Act.put, List.setIfInBounds_toArray, List.set_cons_zero, List.set_cons_succ]
            refine wpAnyH_take (i := 13) (oi := { dst := some 49, op := Op.move (Operand.tmp 62), type := 81, pos := "l09_ledger.go:74", after := #[{ on := 12, ground := Ground.data }], guard := none }) (v := ?_) rfl (by kernel_rfl) (by kernel_rfl) (by kernel_rfl) (fun _ _ _ h => h) (Or.inl ⟨by rfl, ?_⟩) (by assumption) ?_
            rotate_left
            · (intro w hSw; (try dsimp only at hSw); go_simp) <;> with_reducible rfl
            try simp only [Act.put, List.setIfInBounds_toArray, List.set_cons_zero, List.set_cons_succ]
            refine wpAnyH_take (i := 14) (oi := { dst := some 63, op := Op.extract (Operand.tmp 49) 0, type := 27, pos := "l09_ledger.go:74", after := #[{ on := 13, ground := Ground.data }], guard := none }) (v := ?_) rfl (by kernel_rfl) (by kernel_rfl) (by kernel_rfl) (fun _ _ _ h => h) (Or.inl ⟨by rfl, ?_⟩) (by assumption) ?_
            rotate_left
            · (intro w hSw; (try dsimp only at hSw); go_simp) <;> with_reducible rfl
            try simp only [Act.put, List.setIfInBounds_toArray, List.set_cons_zero, List.set_cons_succ]
            refine wpAnyH_take (i := 15) (oi := { dst := some 64, op := Op.extract (Operand.tmp 49) 1, type := 4, pos := "l09_ledger.go:74", after := #[{ on := 13, ground := Ground.data }, { on := 16, ground := Ground.gcOnly Departure.lateStores }], guard := none }) (v := ?_) rfl (by kernel_rfl) (by kernel_rfl) (by kernel_rfl) (fun _ _ _ h => h) (Or.inl ⟨by rfl, ?_⟩) (by assumption) ?_
            rotate_left
            · (intro w hSw; (try dsimp only at hSw); go_simp) <;> with_reducible rfl
            try simp only [Act.put, List.setIfInBounds_toArray, List.set_cons_zero, List.set_cons_succ]
            refine wpAnyH_take (i := 16) (oi := { dst := some 5, op := Op.assign (Operand.tmp 63), type := 27, pos := "l09_ledger.go:74", after := #[{ on := 14, ground := Ground.data }, { on := 12, ground := Ground.chain }, { on := 0, ground := Ground.phase }, { on := 1, ground := Ground.phase }, { on := 2, ground := Ground.phase }, { on := 3, ground := Ground.phase }, { on := 4, ground := Ground.phase }, { on := 5, ground := Ground.phase }, { on := 6, ground := Ground.phase }, { on := 7, ground := Ground.phase }, { on := 8, ground := Ground.phase }, { on := 9, ground := Ground.phase }, { on := 10, ground := Ground.phase }, { on := 11, ground := Ground.phase }, { on := 12, ground := Ground.phase }, { on := 13, ground := Ground.phase }, { on := 14, ground := Ground.phase }, { on := 15, ground := Ground.textOnly Departure.lateStores }], guard := none }) (v := ?_) rfl (by kernel_rfl) (by kernel_rfl) (by kernel_rfl) (fun _ _ _ h => h) (Or.inl ⟨by rfl, ?_⟩) (by assumption) ?_
            rotate_left
            · (intro w hSw; (try dsimp only at hSw); go_simp) <;> with_reducible rfl
            try simp only [Act.put, List.setIfInBounds_toArray, List.set_cons_zero, List.set_cons_succ]
            refine wpAnyH_take (i := 17) (oi := { dst := some 6, op := Op.assign (Operand.tmp 64), type := 4, pos := "l09_ledger.go:74", after := #[{ on := 15, ground := Ground.data }, { on := 16, ground := Ground.chain }, { on := 0, ground := Ground.phase }, { on := 1, ground := Ground.phase }, { on := 2, ground := Ground.phase }, { on := 3, ground := Ground.phase }, { on := 4, ground := Ground.phase }, { on := 5, ground := Ground.phase }, { on := 6, ground := Ground.phase }, { on := 7, ground := Ground.phase }, { on := 8, ground := Ground.phase }, { on := 9, ground := Ground.phase }, { on := 10, ground := Ground.phase }, { on := 11, ground := Ground.phase }, { on := 12, ground := Ground.phase }, { on := 13, ground := Ground.phase }, { on := 14, ground := Ground.phase }, { on := 15, ground := Ground.phase }, { on := 16, ground := Ground.phase }], guard := none }) (v := ?_) rfl (by kernel_rfl) (by kernel_rfl) (by kernel_rfl) (fun _ _ _ h => h) (Or.inl ⟨by rfl, ?_⟩) (by assumption) ?_
            rotate_left
            · (intro w hSw; (try dsimp only at hSw); go_simp) <;> with_reducible rfl
            try simp only [Act.put, List.setIfInBounds_toArray, List.set_cons_zero, List.set_cons_succ]
            refine wpAnyH_done (by kernel_rfl) ?_ _
            have HBQ := hid_intro hk2.1
            clear hk1 hk2 HCL
            rw [HOV.out]
            go_wp2_with fail
            go_roundw
            case rel => exact ⟨k + 1, by omega, by go_num, HE, HBQ⟩
            case measure => simp [intOf]; omega
        · have hlt2 : ¬ (k : Int) < (len : Int) := by omega
          obtain rfl : k = len := by omega
          have HE : Hid (R = true) := hid_intro (by rw [← HR.out]; exact lB_yes ⟨by have := HL.out; omega, HSL.out, by have h := HN.out; rw [HL.out] at h; exact h⟩)
          go_wp2_with fail
          go_ret
          exact ⟨by rw [HE.out]; rfl, HB.out⟩
set_option maxRecDepth 100000 in
set_option maxHeartbeats 4000000 in
theorem impl_ledger (ao : Option Addr) (cap : Nat) (ds : List D) (w : World) (hlen : ds.length ≤ 1048576) (hSm : ∀ d ∈ ds, d.Sm) (hwf : ∀ d ∈ ds, (Lit.int .i64 d.mo).wf = true) (hI : Dcs ao ds w) :
    Calls Try.prog 14 #[.slice ao ds.length cap] w fun e w' => e = .returned (.bool (lB ds)) ∧ Below w.heap.size w w' := by
  have H1 := hid_intro (irows ao cap ds w hlen hSm hwf hI)
  unfold RowsR at H1
  generalize lB ds = r at *
  generalize ds.length = len at *
  clear hI hSm hwf
  go_enter Try.func14, Try.ntmps14
  go_wp2_with fail
  refine H1.out.mono ?_
  rintro e w1 ⟨hb, ⟨rfl, c, rfl⟩ | ⟨rfl, M, rfl, _⟩⟩
  · have HB := hid_intro hb
    clear hb
    go_wp2_with fail
    go_ret
    exact ⟨rfl, HB.out⟩
  · have HB := hid_intro hb
    clear hb
    go_wp2_with fail
    go_ret
    exact ⟨rfl, HB.out⟩
end LedR
end Go.Proofs.Ytbecgngmpjajaaa
namespace Go.Proofs.Ytbecgngmpjajaaa
open Go.ChangeShapes Go.WideShapes Go.ChangeAt Go.RowKit
set_option linter.unusedVariables false
namespace NetR
open LinR RowG LtR
theorem all_size {L b : List N} {s : Int} (hL : ∀ y ∈ L, y.i.size ≤ 1048576) (hb : ∀ y ∈ b, y.i.size ≤ 1048576) : ∀ y ∈ all L b s, y.i.size ≤ 1048576 := all_i (fun n => n.size ≤ 1048576) b s hL hb
end NetR
end Go.Proofs.Ytbecgngmpjajaaa
namespace Go.Proofs.Ytbecgngmpjajaaa
open Go.ChangeShapes Go.WideShapes Go.ChangeAt Go.RowKit
set_option linter.unusedVariables false
namespace LedR
open LinR RowG LtR NetR DocR
theorem net_size {a : ByteArray} {m : Int} : ∀ (ds : List D) (L : List N), (∀ d ∈ ds, ∀ e ∈ d.ls, e.i.size ≤ 1048576) → (∀ y ∈ L, y.i.size ≤ 1048576) → ∀ y ∈ ds.foldl (fun L d => bif of a m d then all L d.ls 1 else L) L, y.i.size ≤ 1048576
  | [], L, _, hL => hL
  | d :: ds, L, h, hL => by
    rw [List.foldl_cons]
    refine net_size ds _ (fun d hd => h d (by simp [hd])) ?_
    cases of a m d
    · exact hL
    · exact all_size hL (h d (by simp))
/-- Both answers. -/
def netB (ds : List D) (a : ByteArray) (m : Int) : List N := bif lB ds then clL (net ds a m) else []
theorem name_small {s : ByteArray} (h : NameR.nameB s = true) : s.size ≤ 8000 := by
  unfold NameR.nameB at h
  simp only [decide_eq_true_eq] at h
  omega
theorem net_long {ds : List D} {a : ByteArray} {m : Int} (h : LRight ds) (ha : 8000 < a.size) : net ds a m = [] := by
  refine net_zero ?_
  cases hc : cnt ds a m with
  | zero => rfl
  | succ n =>
    obtain ⟨i, hi, e1, e2⟩ := mem_cnt (ds := ds) (a := a) (m := m) (by omega)
    have h1 := (h.2.1 i hi).1
    unfold dB at h1
    simp only [Bool.and_eq_true] at h1
    have := name_small h1.1
    rw [e1] at this
    omega
theorem netB_len {ds : List D} {a : ByteArray} {m : Int} : (netB ds a m).length ≤ 180 := by
  unfold netB
  cases h : lB ds
  · simp
  · have hr := lB_iff.1 h
    have h1 := (net_facts (ds := ds) ds.length (Nat.le_refl _) hr.2.1 a m).2.1
    rw [List.take_length] at h1
    have h2 := hr.1
    simp only [cond_true, clL]
    cases ovB (net ds a m)
    · simp
    · have h3 := List.length_filter_le nz (net ds a m)
      simp only [cond_true]
      omega
theorem ov_net {ds : List D} (h : LRight ds) (a : ByteArray) (m : Int) : ovB (net ds a m) = true := by
  by_cases hc : cnt ds a m = 0
  · rw [net_zero hc]; rfl
  · obtain ⟨i, hi, rfl, rfl⟩ := mem_cnt hc
    exact h.2.2 i hi
theorem fldR (c : Int) (mb : Option Nat) (w : World) : (Instr.field 100 (.agg #[.int .i64 c, .map mb]) 1).run Try.prog w = .ok (.map mb) w := by kernel_rfl
set_option maxRecDepth 100000 in
set_option maxHeartbeats 4000000 in
theorem snet (ao : Option Addr) (cap : Nat) (ds : List D) (a : ByteArray) (m : Int) (w : World) (hR : LRight ds) (hI : Dcs ao ds w) :
    Calls Try.prog 61 #[.slice ao ds.length cap, .string a, .int .i64 m] w fun e w' => ∃ v, e = .returned v ∧ OwnN w' w.heap.size v (clL (net ds a m)) ∧ Below w.heap.size w w' := by
  have H1 := hid_intro (ssum ao cap ds a m w hR.1 hR.2.1 hI)
  have HNL : Hid ((net ds a m).length ≤ 1000) := hid_intro (by have h := (net_facts (ds := ds) ds.length (Nat.le_refl _) hR.2.1 a m).2.1; rw [List.take_length] at h; have := hR.1; omega)
  generalize ds.length = len at *
  generalize net ds a m = L at *
  clear hI hR
  go_enter Try.func61, Try.ntmps61
  go_wp2_with fail
  refine H1.out.mono ?_
  rintro e w1 ⟨v, rfl, hv, hb1⟩
  have HB1 := hid_intro hb1
  obtain ⟨g, cp, rfl, h1, h2, h3, h4, h5⟩ := hv.open
  have H2 := hid_intro (sclean (some ⟨g, 0, none⟩) cp L w1 (by have := HNL.out; omega) h5)
  clear hv h5 hb1
  generalize L.length = ll at *
  generalize ovB L = rr at *
  go_wp2_with fail
  refine H2.out.mono ?_
  rintro e w2 ⟨v2, rfl, hv2, hb2⟩
  have HB2 := hid_intro (HB1.out.trans (hb2.mono HB1.out.size))
  have HV2 : Hid (OwnN w2 w.heap.size v2 (clL L)) := hid_intro ⟨own_low hv2.1 HB1.out.size, hv2.2⟩
  clear hv2 hb2
  go_wp2_with fail
  go_ret
  exact ⟨_, rfl, HV2.out, HB2.out⟩
end LedR
end Go.Proofs.Ytbecgngmpjajaaa
namespace Go.Proofs.Ytbecgngmpjajaaa
open Go.ChangeShapes Go.WideShapes Go.ChangeAt Go.RowKit
set_option linter.unusedVariables false
namespace LedR
open LinR RowG LtR NetR DocR
open NameR (nameB)
/-- What the bill has more than the net. -/
def moreG (ds : List D) (a : ByteArray) (m : Int) (bl : List N) : List N := all bl ((net ds a m).filter nz) (-1)
def isBigB (ds : List D) (a : ByteArray) (bl : List N) : Bool := decide (400 < ds.length ∨ 8000 < a.size ∨ 400 < bl.length)
def isFormB (ds : List D) (a : ByteArray) (m : Int) (bl : List N) : Bool := lB ds && (nameB a && (decide (0 ≤ m ∧ m ≤ 2760) && sB bl))
def isC (ds : List D) (a : ByteArray) (m : Int) (bl : List N) : Int :=
  bif isBigB ds a bl then 2 else bif !isFormB ds a m bl then 1 else bif !ovB (moreG ds a m bl) then 12 else bif decide (clL (moreG ds a m bl) = [] ∧ 0 < cnt ds a m) then 7 else bif decide (30 ≤ ds.length) then 9 else 0
/-- The document that is issued. -/
def newD (ds : List D) (a : ByteArray) (m : Int) (bl : List N) : D := ⟨a, m, cnt ds a m, clL (moreG ds a m bl)⟩
def isX (ds : List D) (a : ByteArray) (m : Int) (bl : List N) : D := if isC ds a m bl = 0 then newD ds a m bl else D.zero
def isD (ds : List D) (a : ByteArray) (m : Int) (bl : List N) : List D := if isC ds a m bl = 0 then ds ++ [newD ds a m bl] else []
section
variable (ds : List D) (a : ByteArray) (m : Int) (bl : List N)
theorem is_err {c : Int} (h : isC ds a m bl = c) (h0 : c ≠ 0) : isD ds a m bl = [] ∧ isX ds a m bl = D.zero ∧ isC ds a m bl = c := by
  have : ¬ isC ds a m bl = 0 := by rw [h]; exact h0
  exact ⟨if_neg this, if_neg this, h⟩
theorem isBig (h : 400 < ds.length ∨ 8000 < a.size ∨ 400 < bl.length) : isD ds a m bl = [] ∧ isX ds a m bl = D.zero ∧ isC ds a m bl = 2 :=
  is_err ds a m bl (by unfold isC isBigB; rw [decide_eq_true h]; rfl) (by decide)
theorem isForm (h : ¬ (400 < ds.length ∨ 8000 < a.size ∨ 400 < bl.length)) (h1 : isFormB ds a m bl = false) : isD ds a m bl = [] ∧ isX ds a m bl = D.zero ∧ isC ds a m bl = 1 :=
  is_err ds a m bl (by unfold isC isBigB; rw [decide_eq_false h, h1]; rfl) (by decide)
theorem isGo (h : ¬ (400 < ds.length ∨ 8000 < a.size ∨ 400 < bl.length)) (h1 : isFormB ds a m bl = true) :
    (ovB (moreG ds a m bl) = false → isD ds a m bl = [] ∧ isX ds a m bl = D.zero ∧ isC ds a m bl = 12)
    ∧ (ovB (moreG ds a m bl) = true → clL (moreG ds a m bl) = [] → 0 < cnt ds a m → isD ds a m bl = [] ∧ isX ds a m bl = D.zero ∧ isC ds a m bl = 7)
    ∧ (ovB (moreG ds a m bl) = true → ¬ (clL (moreG ds a m bl) = [] ∧ 0 < cnt ds a m) → 30 ≤ ds.length → isD ds a m bl = [] ∧ isX ds a m bl = D.zero ∧ isC ds a m bl = 9)
    ∧ (ovB (moreG ds a m bl) = true → ¬ (clL (moreG ds a m bl) = [] ∧ 0 < cnt ds a m) → ds.length < 30 → isD ds a m bl = ds ++ [newD ds a m bl] ∧ isX ds a m bl = newD ds a m bl ∧ isC ds a m bl = 0) := by
  have e : isC ds a m bl = bif !ovB (moreG ds a m bl) then 12 else bif decide (clL (moreG ds a m bl) = [] ∧ 0 < cnt ds a m) then 7 else bif decide (30 ≤ ds.length) then 9 else 0 := by
    unfold isC isBigB
    rw [decide_eq_false h, h1]
    rfl
  refine ⟨fun h2 => ?_, fun h2 h3 h4 => ?_, fun h2 h3 h4 => ?_, fun h2 h3 h4 => ?_⟩
  · exact is_err ds a m bl (by rw [e, h2]; rfl) (by decide)
  · exact is_err ds a m bl (by rw [e, h2, decide_eq_true ⟨h3, h4⟩]; rfl) (by decide)
  · exact is_err ds a m bl (by rw [e, h2, decide_eq_false h3, decide_eq_true h4]; rfl) (by decide)
  · have e0 : isC ds a m bl = 0 := by rw [e, h2, decide_eq_false h3, decide_eq_false (by omega)]; rfl
    exact ⟨if_pos e0, if_pos e0, e0⟩
end
theorem right_nz {es : List N} (h : SRight es) : es.filter nz = es := by
  rw [List.filter_eq_self]
  intro x hx
  obtain ⟨i, hi, rfl⟩ := List.getElem_of_mem hx
  have := (h.2 i hi).2
  rw [show es.getD i N.zero = es[i] by simp [List.getD, hi]] at this
  unfold lOk at this
  simp only [Bool.and_eq_true] at this
  exact this.2.2
theorem clL_nz (G : List N) : (clL G).filter nz = clL G := by
  unfold clL
  cases ovB G
  · rfl
  · rw [cond_true, List.filter_filter]
    simp
theorem cnt_lt (ds : List D) (a : ByteArray) (m : Int) : cnt ds a m ≤ ds.length := cnt_le ds a m
end LedR
end Go.Proofs.Ytbecgngmpjajaaa
namespace Go.Proofs.Ytbecgngmpjajaaa
open Go.ChangeShapes Go.WideShapes Go.ChangeAt Go.RowKit
set_option linter.unusedVariables false
namespace RowG
theorem grown_refl (w : World) (row : Option Nat) : w.grownBy w row := ⟨rfl, rfl, rfl, Nat.le_refl _, fun _ _ _ => rfl⟩
theorem wpList_append_whole {P : Program} (w : World) {ops : Array Oper} {rest : List Oper} {o : Oper} {a : Act} {Q : Exit → Act → World → Prop} (hgd : o.guard = none) (s x : Operand) (t : TypeId)
    (ho : o.op = .call { callee := .builtin .append, args := #[s, x], argTypes := #[t, t] })
    (base : Nat) (e : TypeId) (i : TypeInfo) (z : Value) (size bytes : Nat) (ht : P.underlying t = some (.slice e)) (hi : P.info? e = some i) (hz : i.zero = some z)
    (hsize : i.size = size) (hby : i.bytes = bytes) (hzs : z.cells.size = size) (hsz : 0 < size)
    (g : Nat) (hs : a.eval s = .slice (some ⟨g, 0, none⟩) 0 0) (hown : w.ownsRow base e size (.slice (some ⟨g, 0, none⟩) 0 0) 0 [])
    (la : Option Addr) (m c : Nat) (news : List Value) (hx : a.eval x = .slice la m c) (hl : news.length = m * size) (hla : m = 0 ∨ ∃ ad, la = some ad ∧ ∀ j u, news[j]? = some u → w.cell? (ad.add j) = some u) (h1 : ∀ u ∈ news, u.oneCell' = true)
    (h63 : m ≤ maxLen) (hbytes : m * bytes ≤ 140737488355328) (hbase : base ≤ w.heap.size)
    (h : ∀ v' w', w'.ownsRow base e size v' m news → w.grownBy w' (some g) → v' ≠ .slice none 0 0 → wpList P ops Q rest (a.put o.dst v') w') : wpList P ops Q (o :: rest) a w := by
  cases la with
  | none =>
    have hm : m = 0 := by
      rcases hla with h0 | ⟨ad, e, _⟩
      · exact h0
      · cases e
    subst hm
    obtain rfl : news = [] := List.eq_nil_of_length_eq_zero (by simpa using hl)
    have hrun := run_append_room_src (P := P) w t t o.type e i ht hi g 0 0 0 (.slice none 0 c) 0 [] (Src.ofNil w ht c) (by omega) (fun j hj => by simp at hj) (fun j hj => by simp at hj)
    refine wpList_plain hgd fun K hK => ?_
    unfold Oper.wp
    simp only [execOp, ho, resolve, invoke, builtin, Sem.run_bind, Sem.run_pure, Result.andThen_ok, List.map_toArray, List.map_cons, List.map_nil, hs, hx, hrun]
    exact hK _ _ (h _ _ hown (grown_refl _ _) (by simp))
  | some ad =>
    refine wpList_append_own w hgd s x t ho base e i z size bytes ht hi hz hsize hby hzs hsz _ 0 [] hs hown ad m c news hx hl ?_ h1 (by rw [Nat.zero_add]; exact h63) (by rw [Nat.zero_add]; exact hbytes) hbase ?_
    · rcases hla with h0 | ⟨ad', e, hc⟩
      · subst h0
        obtain rfl : news = [] := List.eq_nil_of_length_eq_zero (by simpa using hl)
        intro j u hj
        simp at hj
      · cases e
        exact hc
    · intro v' w' hv hg hn
      refine h v' w' (by simpa using hv) hg (fun e => ?_)
      have := (hn.1 e).1
      cases this
end RowG
end Go.Proofs.Ytbecgngmpjajaaa
namespace Go.Proofs.Ytbecgngmpjajaaa
open Go.ChangeShapes Go.WideShapes Go.ChangeAt Go.RowKit
set_option linter.unusedVariables false
namespace LedR
open LinR DocR NetR
open RowG
theorem lis_src {la : Option Addr} {L : List N} {w : World} (h : Lis la L w) : ∀ W, Below w.heap.size w W → (L.length = 0 ∨ ∃ ad, la = some ad ∧ ∀ j u, (cellsAll N.cells L)[j]? = some u → W.cell? (ad.add j) = some u) := by
  intro W hW
  rcases h.below hW with h0 | ⟨b, off, rfl, hb, hc⟩
  · exact .inl h0
  · refine .inr ⟨⟨b, off, none⟩, rfl, fun j u hj => ?_⟩
    have h1 := rws_sub (i := 0) (n := L.length) N.len (.inr ⟨b, off, rfl, hb, hc⟩ : RowG.Rws 2 N.cells N.zero (some ⟨b, off, none⟩) L W) j u (by simpa using hj)
    rw [Nat.zero_mul, Nat.add_zero] at h1
    exact h1
set_option maxRecDepth 100000 in
set_option maxHeartbeats 4000000 in
theorem sdoc (d : D) (la : Option Addr) (lc : Nat) (w : World) (hlen : d.ls.length ≤ 1048576) (hI : Lis la d.ls w) :
    Calls Try.prog 63 #[.agg #[.string d.a, .int .i64 d.mo, .int .i64 d.sq, .slice la d.ls.length lc]] w fun e w' => ∃ ao cap, e = .returned (.agg #[.string d.a, .int .i64 d.mo, .int .i64 d.sq, .slice ao d.ls.length cap]) ∧ w'.ownsRow w.heap.size 54 2 (.slice ao d.ls.length cap) d.ls.length (cellsAll N.cells d.ls) ∧ Below w.heap.size w w' := by
  obtain ⟨a, mo, sq, ls⟩ := d
  dsimp only at *
  obtain ⟨i0, hi, hz0, hz1, hz2⟩ := info_parts infoN
  have HI := hid_intro (lis_src hI)
  have HO1 := hid_intro (lis_one ls)
  have HLC : Hid ((cellsAll N.cells ls).length = ls.length * 2) := hid_intro (by rw [cellsAll_len N.len])
  have HOM := hid_intro (fun (W : World) base v (h : W.ownsRow base 54 2 v ls.length (cellsAll N.cells ls)) => RowG.own_made (z := N.zero) N.len h)
  generalize cellsAll N.cells ls = C at *
  obtain ⟨len, hl⟩ : ∃ len, len = ls.length := ⟨_, rfl⟩
  rw [← hl] at HI HLC HOM hlen ⊢
  obtain ⟨W0, hW0⟩ : ∃ W0, W0 = ((w.alloc (.cells #[.string a, .int .i64 mo, .int .i64 sq, .slice la len lc] 29)).alloc (.cells #[.string ⟨#[]⟩, .int .i64 0, .int .i64 0, .slice none 0 0] 29)).alloc (.cells #[] 54) := ⟨_, rfl⟩
  have HB0 : Hid (Below w.heap.size w W0) := hid_intro (by rw [hW0]; exact (((Below.refl _ _).alloc (Nat.le_refl _) _).alloc (by simp) _).alloc (by simp; omega) _)
  have HV0 : Hid (BlkW w.heap.size [.string a, .int .i64 mo, .int .i64 sq, .slice la len lc] W0) := hid_intro (by rw [hW0]; exact ((BlkW.new w [.string a, .int .i64 mo, .int .i64 sq, .slice la len lc] 29).below ((Below.refl _ _).alloc (Nat.le_refl _) _)).below ((Below.refl _ _).alloc (Nat.le_refl _) _))
  have HR0 : Hid (BlkW (w.heap.size + 1) [.string ⟨#[]⟩, .int .i64 0, .int .i64 0, .slice none 0 0] W0) := hid_intro (by
    rw [hW0]
    have := (BlkW.new (w.alloc (.cells #[.string a, .int .i64 mo, .int .i64 sq, .slice la len lc] 29)) [.string ⟨#[]⟩, .int .i64 0, .int .i64 0, .slice none 0 0] 29).below ((Below.refl _ _).alloc (Nat.le_refl _) (.cells #[] 54))
    simpa using this)
  have HE0 : Hid (W0.ownsRow (w.heap.size + 2) 54 2 (.slice (some ⟨w.heap.size + 1 + 1, 0, none⟩) 0 0) 0 []) := hid_intro (by
    rw [hW0]
    have := own_empty ((w.alloc (.cells #[.string a, .int .i64 mo, .int .i64 sq, .slice la len lc] 29)).alloc (.cells #[.string ⟨#[]⟩, .int .i64 0, .int .i64 0, .slice none 0 0] 29)) (w.heap.size + 2) 54 2 (by simp)
    simpa using this)
  have hS0 : W0.heap.size = w.heap.size + 3 := by rw [hW0]; simp
  have HW := hid_intro hW0
  have HSZ := hid_intro hS0
  clear hI hl hW0 hS0
  go_enter Try.func63, Try.ntmps63
  go_wp2_with (at_builtin; rw [← HW.out]; refine RowG.wpList_append_whole _ rfl _ _ 27 rfl (w.heap.size + 2) 54 i0 (.agg #[.string ⟨#[]⟩, .int .i64 0]) 2 24 Try.underlying27 hi hz0 hz1 hz2 rfl (by decide) (w.heap.size + 1 + 1) rfl HE0.out la len lc C rfl HLC.out (HI.out _ HB0.out) HO1.out (by unfold maxLen; omega) (by omega) (by rw [HSZ.out]; omega) ?_)
  intro v1 w2 hown hgrow hne
  have HB2 := hid_intro (HB0.out.grown hgrow HB0.out.size (fun k e => by simp only [Option.some.injEq] at e; omega))
  have HV2 := hid_intro (OwG.blkW_grown HV0.out hgrow (by simp only [ne_eq, Option.some.injEq]; omega))
  have HR2 := hid_intro (OwG.blkW_grown HR0.out hgrow (by simp only [ne_eq, Option.some.injEq]; omega))
  obtain ⟨ao, cap, rfl, -⟩ := HOM.out w2 _ v1 hown
  have HOF := hid_intro (own_low (OwG.own_keepG (OwG.own_keepG hown (RowG.grown_set w2 w.heap.size 3 (.slice ao len cap)) (by omega)) (StR.stL_grown (w.heap.size + 1) [.string a, .int .i64 mo, .int .i64 sq, .slice ao len cap] 0 _) (by omega)) (show w.heap.size ≤ w.heap.size + 2 by omega))
  have HBF := hid_intro ((HB2.out.setCell (p := ⟨w.heap.size, 3, none⟩) (Nat.le_refl _) (.slice ao len cap)).grown (StR.stL_grown (w.heap.size + 1) [.string a, .int .i64 mo, .int .i64 sq, .slice ao len cap] 0 _) (by have := HB2.out.size; simpa using this) (fun k h => by cases h; omega))
  simp only [StR.stL, Nat.zero_add, Nat.reduceAdd] at HOF HBF
  have l1 := HV2.out.1.1
  have l2 := HR2.out.1.1
  have f3 := HV2.out.2 3 (by simp)
  have c0 := HV2.out.1.2 0 (by simp)
  have c1 := HV2.out.1.2 1 (by simp)
  have c2 := HV2.out.1.2 2 (by simp)
  have c3 := HV2.out.1.2 3 (by simp)
  have r0 := HR2.out.1.2 0 (by simp)
  have r1 := HR2.out.1.2 1 (by simp)
  have r2 := HR2.out.1.2 2 (by simp)
  have r3 := HR2.out.1.2 3 (by simp)
  have g0 := HR2.out.2 0 (by simp)
  have g1 := HR2.out.2 1 (by simp)
  have g2 := HR2.out.2 2 (by simp)
  have g3 := HR2.out.2 3 (by simp)
  simp only [List.getElem?_cons_zero, List.getElem?_cons_succ] at c0 c1 c2 c3 r0 r1 r2 r3
  clear hown hgrow hne
  go_wp2_with fail
  refine bodyPost_ret (v := .agg #[.string a, .int .i64 mo, .int .i64 sq, .slice ao len cap]) (by simp [results, Try.results63, go_sem, r0, r1, r2, r3]) rfl ⟨ao, cap, rfl, HOF.out, HBF.out⟩
end LedR
end Go.Proofs.Ytbecgngmpjajaaa
namespace Go.Proofs.Ytbecgngmpjajaaa
open Go.ChangeShapes Go.WideShapes Go.ChangeAt Go.RowKit Go.Deep
set_option linter.unusedVariables false
namespace DocR
open RowG LinR
section
variable {J : Type} {enc : TypeId × Value → J} {P : Program} {w : World} {base : Nat} {spare : Nat → Bool} {held : Bool}
theorem lst4 {α : Type} {cs : List α} (h : cs.length = 4) : ∃ c0 c1 c2 c3, cs = [c0, c1, c2, c3] := by
  match cs, h with
  | [c0, c1, c2, c3], _ => exact ⟨c0, c1, c2, c3, rfl⟩
theorem slice_one {t e : TypeId} {fuel : Nat} {c : Value} {x : DataW J × List MemPlace} (ht : P.underlying t = some (.slice e)) (h : DataW.trod enc P w base spare held fuel t [c] = some x) : ∃ ao len cap, c = .slice ao len cap := by
  rcases DataW.trod_slice ht h with ⟨hcs, _⟩ | ⟨a, len', cap', elems, rest, n, _, hcs, _⟩
  · simp only [List.cons.injEq, and_true] at hcs
    exact ⟨_, _, _, hcs⟩
  · simp only [List.cons.injEq, and_true] at hcs
    exact ⟨_, _, _, hcs⟩
/-- A document that came in, cell by cell. -/
theorem doc_open {t te : TypeId} {f0 f1 f2 f3 g0 g1 : Field} {fuel : Nat} {cs : List Value} {x : DataW J × List MemPlace} (hs : P.underlying t = some (.struct #[f0, f1, f2, f3])) (hone : oneCellFields P #[f0, f1, f2, f3] = true) (hC : P.cellsOf t = 4)
    (u0 : P.underlying f0.type = some .string) (u1 : P.underlying f1.type = some (.int .i64)) (u2 : P.underlying f2.type = some (.int .i64)) (u3 : P.underlying f3.type = some (.slice te))
    (hs2 : P.underlying te = some (.struct #[g0, g1])) (hone2 : oneCellFields P #[g0, g1] = true) (hC2 : P.cellsOf te = 2) (v0 : P.underlying g0.type = some .string) (v1 : P.underlying g1.type = some (.int .i64))
    (h : DataW.trod enc P w base spare held fuel t cs = some x) :
    ∃ (x : D) (la : Option Addr) (lc : Nat), cs = (dcells x la lc).toList ∧ x.In ∧ Lis la x.ls w := by
  obtain ⟨xs, n, _, _, hl, hlen, hf⟩ := DataW.trod_struct hs h
  obtain ⟨c0, c1, c2, c3, rfl⟩ := lst4 (hl.trans hC)
  obtain ⟨y0, y1, y2, y3, rfl⟩ := lst4 (show xs.length = 4 from hlen)
  obtain ⟨o0, k0⟩ := hone_of hone 0 f0 rfl
  obtain ⟨o1, k1⟩ := hone_of hone 1 f1 rfl
  obtain ⟨o2, k2⟩ := hone_of hone 2 f2 rfl
  obtain ⟨o3, k3⟩ := hone_of hone 3 f3 rfl
  have h0 := hf 0 f0 rfl
  have h1 := hf 1 f1 rfl
  have h2 := hf 2 f2 rfl
  have h3 := hf 3 f3 rfl
  simp [o0, k0] at h0
  simp [o1, k1] at h1
  simp [o2, k2] at h2
  simp [o3, k3] at h3
  obtain ⟨a, e0, _, s0⟩ := DataW.trod_string u0 h0
  obtain ⟨p, e1, _, _⟩ := DataW.trod_int u1 h1
  obtain ⟨q, e2, _, _⟩ := DataW.trod_int u2 h2
  obtain ⟨la, ll, lc, rfl⟩ := slice_one u3 h3
  obtain ⟨ls, rfl, q1, q2, q3⟩ := lis_open u3 hs2 hone2 hC2 v0 v1 h3
  simp only [List.cons.injEq, and_true] at e0 e1 e2
  subst e0 e1 e2
  exact ⟨⟨a, p, q, ls⟩, la, lc, rfl, ⟨s0, q1, q3⟩, q2⟩
end
end DocR
end Go.Proofs.Ytbecgngmpjajaaa
namespace Go.Proofs.Ytbecgngmpjajaaa
open Go.ChangeShapes Go.WideShapes Go.ChangeAt Go.RowKit Go.Deep
set_option linter.unusedVariables false
namespace LedR
open LinR RowG LtR NetR DocR
open EvtR (Pt cell_put cell_far)
/-- A list of documents that came in. -/
def IsDcs (w : World) (ao : Option Addr) (ds : List D) : Prop := ds.length ≤ maxLen ∧ Dcs ao ds w ∧ ∀ d ∈ ds, d.In ∧ (Lit.int .i64 d.mo).wf = true
section
variable {J : Type} {enc : TypeId × Value → J} {P : Program} {w : World} {base : Nat} {spare : Nat → Bool} {held : Bool}
theorem doc_wf {t : TypeId} {f0 f1 f2 f3 : Field} {fuel : Nat} {cs : List Value} {x : DataW J × List MemPlace} (hs : P.underlying t = some (.struct #[f0, f1, f2, f3])) (hone : oneCellFields P #[f0, f1, f2, f3] = true) (hC : P.cellsOf t = 4) (u1 : P.underlying f1.type = some (.int .i64))
    (h : DataW.trod enc P w base spare held fuel t cs = some x) (y : D) (la : Option Addr) (lc : Nat) (e : cs = (dcells y la lc).toList) : (Lit.int .i64 y.mo).wf = true := by
  obtain ⟨xs, n, _, _, hl, hlen, hf⟩ := DataW.trod_struct hs h
  obtain ⟨c0, c1, c2, c3, rfl⟩ := lst4 (hl.trans hC)
  obtain ⟨y0, y1, y2, y3, rfl⟩ := lst4 (show xs.length = 4 from hlen)
  obtain ⟨o1, k1⟩ := hone_of hone 1 f1 rfl
  have h1 := hf 1 f1 rfl
  simp [o1, k1] at h1
  obtain ⟨p, e1, _, hw⟩ := DataW.trod_int u1 h1
  simp only [List.cons.injEq, and_true] at e1
  simp [dcells] at e
  rw [e1] at e
  have := e.2.1
  simp at this
  rw [← this]
  exact hw
theorem docs_open {t e te : TypeId} {f0 f1 f2 f3 g0 g1 : Field} {fuel : Nat} {ao : Option Addr} {len cap : Nat} {x : DataW J × List MemPlace} (ht : P.underlying t = some (.slice e)) (hs : P.underlying e = some (.struct #[f0, f1, f2, f3])) (hone : oneCellFields P #[f0, f1, f2, f3] = true) (hC : P.cellsOf e = 4)
    (u0 : P.underlying f0.type = some .string) (u1 : P.underlying f1.type = some (.int .i64)) (u2 : P.underlying f2.type = some (.int .i64)) (u3 : P.underlying f3.type = some (.slice te))
    (hs2 : P.underlying te = some (.struct #[g0, g1])) (hone2 : oneCellFields P #[g0, g1] = true) (hC2 : P.cellsOf te = 2) (v0 : P.underlying g0.type = some .string) (v1 : P.underlying g1.type = some (.int .i64))
    (h : DataW.trod enc P w base spare held fuel t [.slice ao len cap] = some x) : ∃ ds, ds.length = len ∧ IsDcs w ao ds := by
  rcases DataW.trod_slice ht h with ⟨hcs, _⟩ | ⟨a, len', cap', elems, rest, n, _, hcs, _, hb, hl, hm, hlen, hel, _, _⟩
  · simp only [List.cons.injEq, Value.slice.injEq, and_true] at hcs
    obtain ⟨rfl, rfl, rfl⟩ := hcs
    exact ⟨[], rfl, Nat.zero_le _, .inl rfl, fun e he => by cases he⟩
  · simp only [List.cons.injEq, Value.slice.injEq, and_true] at hcs
    obtain ⟨rfl, rfl, rfl⟩ := hcs
    have key : ∀ i, i < len → ∃ (X : D) (la : Option Addr) (lc : Nat), X.In ∧ (Lit.int .i64 X.mo).wf = true ∧ Lis la X.ls w ∧ w.cells? base (a.add (i * 4)) 4 = some (dcells X la lc).toList := by
      intro i hi
      have h1 := hel i hi
      rw [hC, List.getElem?_eq_getElem (by omega)] at h1
      cases hc : w.cells? base (a.add (i * 4)) 4 with
      | none => rw [hc] at h1; simp at h1
      | some cs =>
        rw [hc] at h1
        simp only [Option.bind_some] at h1
        obtain ⟨X, la, lc, rfl, q1, q2⟩ := doc_open hs hone hC u0 u1 u2 u3 hs2 hone2 hC2 v0 v1 h1
        exact ⟨X, la, lc, q1, doc_wf hs hone hC u1 h1 X la lc rfl, q2, rfl⟩
    have : ∃ f : Nat → D, ∀ i, i < len → (f i).In ∧ (Lit.int .i64 (f i).mo).wf = true ∧ ∃ la lc, Lis la (f i).ls w ∧ w.cells? base (a.add (i * 4)) 4 = some (dcells (f i) la lc).toList := by
      refine ⟨fun i => if hi : i < len then Classical.choose (key i hi) else D.zero, fun i hi => ?_⟩
      simp only [hi, dif_pos]
      obtain ⟨la, lc, q1, q2, q3, q4⟩ := Classical.choose_spec (key i hi)
      exact ⟨q1, q2, la, lc, q3, q4⟩
    obtain ⟨f, hf⟩ := this
    refine ⟨(List.range len).map f, by simp, by simp; omega, ?_, fun e he => ?_⟩
    · by_cases h0 : len = 0
      · exact .inl (by simpa using h0)
      · obtain ⟨b, off, spot⟩ := a
        obtain ⟨_, _, la0, lc0, _, hc00⟩ := hf 0 (by omega)
        have hc0 := LinR.cells_at hc00 0 (by omega)
        have hspot : spot = none := by
          have : w.cell? ⟨b, off, spot⟩ = some (.string (f 0).a) := by simpa [Addr.add, dcells] using hc0
          exact World.cell?_spot this
        subst hspot
        refine .inr ⟨b, off, rfl, ?_, fun j hj => ?_⟩
        · have : w.cell? ⟨b, off, none⟩ = some (.string (f 0).a) := by simpa [Addr.add, dcells] using hc0
          exact World.block_lt_of_cell? w _ this
        · have hj : j < len := by simpa using hj
          have e : ((List.range len).map f).getD j D.zero = f j := by simp [List.getD, hj]
          rw [e]
          obtain ⟨_, _, la, lc, hL, hcc⟩ := hf j hj
          have g := fun k (hk : k < 4) => LinR.cells_at hcc k hk
          have ad : ∀ k, ((⟨b, off, none⟩ : Addr).add (j * 4)).add k = ⟨b, off + j * 4 + k, none⟩ := by
            intro k
            unfold Addr.add
            split <;> split <;> simp_all
          simp only [ad] at g
          exact ⟨la, lc, g 0 (by omega), g 1 (by omega), g 2 (by omega), g 3 (by omega), hL⟩
    · simp only [List.mem_map, List.mem_range] at he
      obtain ⟨i, hi, rfl⟩ := he
      exact ⟨(hf i hi).1, (hf i hi).2.1⟩
end
/-- What is left of a size. -/
def dsS : Int → List D → Int
  | l, [] => l
  | l, d :: ds => if dszR l d < 0 then -1 else dsS (dszR l d) ds
theorem dsS_small : ∀ {ds : List D} {l : Int}, l ≤ 1048576 → ¬ dsS l ds < 0 → ∀ d ∈ ds, d.Sm
  | [], l, _, _, d, h => by cases h
  | x :: ds, l, hl, h, d, hd => by
    rw [dsS] at h
    by_cases q : dszR l x < 0
    · rw [if_pos q] at h; exact absurd (by omega) h
    · rw [if_neg q] at h
      obtain ⟨h1, h2⟩ := dsz_small hl q
      rcases List.mem_cons.1 hd with rfl | hd
      · exact h1
      · exact dsS_small (by omega) h d hd
def szDR (ds : List D) : Int := if (1048576 : Int) - (ds.length : Int) < 0 then -1 else dsS (1048576 - (ds.length : Int)) ds
theorem szDR_small {ds : List D} (h : ¬ szDR ds < 0) : ds.length ≤ 1048576 ∧ ∀ d ∈ ds, d.Sm := by
  unfold szDR at h
  by_cases q : (1048576 : Int) - (ds.length : Int) < 0
  · rw [if_pos q] at h; exact absurd (by omega) h
  · rw [if_neg q] at h
    exact ⟨by omega, dsS_small (by omega) h⟩
theorem drop_more (ds : List D) (k : Nat) (h : k < ds.length) : ds.drop k = ds.getD k D.zero :: ds.drop (k + 1) := by
  rw [List.drop_eq_getElem_cons h]
  simp [List.getD, h]
end LedR
end Go.Proofs.Ytbecgngmpjajaaa
namespace Go.Proofs.Ytbecgngmpjajaaa
open Go.ChangeShapes Go.WideShapes Go.ChangeAt Go.RowKit Go.Deep
set_option linter.unusedVariables false
namespace LedR
open LinR RowG LtR NetR DocR
open EvtR (Pt cell_put cell_far)
theorem infoD : (Try.prog.info? 29).map (fun i => (i.zero, i.size, i.bytes)) = some (some (.agg #[.string ⟨#[]⟩, .int .i64 0, .int .i64 0, .slice none 0 0]), 4, 56) := by kernel_rfl
theorem pt_any {p q n o : Nat} {W : World} {v : Value} (h : Pt p n W) : Pt p n (W.setCell ⟨q, o, none⟩ v) := by
  by_cases e : p = q
  · subst e; exact h.set _ _
  · have eb : (W.setCell ⟨q, o, none⟩ v).heap[p]? = W.heap[p]? := by
      simp only [World.setCell]
      rw [Array.getElem?_modify, if_neg (fun e2 => e e2.symm)]
    exact ⟨by have := h.lt; simpa using this, fun x hx => by obtain ⟨u, hu⟩ := h.has x hx; exact ⟨u, (World.cell?_of_block (a := ⟨p, x, none⟩) eb).trans hu⟩, fun x hx => (World.frozen?_of_block (a := ⟨p, x, none⟩) eb).trans (h.free x hx)⟩
theorem ne_of {la : Option Addr} {n g : Nat} {W : World} (h : n = 0 ∨ ∃ g', la = some ⟨g', 0, none⟩ ∧ g < g' ∧ g' < W.heap.size ∧ Pt g' (n * 2) W) : n = 0 ∨ ∀ b off, la = some ⟨b, off, none⟩ → b ≠ g :=
  h.imp id (fun ⟨g', e1, e2, _⟩ b off e3 => by rw [e1] at e3; simp at e3; omega)
theorem own_put {la : Option Addr} {n g q o : Nat} {W : World} {v : Value} (h : n = 0 ∨ ∃ g', la = some ⟨g', 0, none⟩ ∧ g < g' ∧ g' < W.heap.size ∧ Pt g' (n * 2) W) : n = 0 ∨ ∃ g', la = some ⟨g', 0, none⟩ ∧ g < g' ∧ g' < (W.setCell ⟨q, o, none⟩ v).heap.size ∧ Pt g' (n * 2) (W.setCell ⟨q, o, none⟩ v) :=
  h.imp id (fun ⟨g', e1, e2, e3, e4⟩ => ⟨g', e1, e2, by simpa using e3, pt_any e4⟩)
/-- The first documents of a list that is being laid. -/
def DW (g k : Nat) (ds : List D) (W : World) : Prop := ∀ j, j < k → ∃ la lc, W.cell? ⟨g, j * 4, none⟩ = some (.string (ds.getD j D.zero).a) ∧ W.cell? ⟨g, j * 4 + 1, none⟩ = some (.int .i64 (ds.getD j D.zero).mo) ∧ W.cell? ⟨g, j * 4 + 2, none⟩ = some (.int .i64 (ds.getD j D.zero).sq) ∧ W.cell? ⟨g, j * 4 + 3, none⟩ = some (.slice la (ds.getD j D.zero).ls.length lc) ∧ Lis la (ds.getD j D.zero).ls W ∧ ((ds.getD j D.zero).ls.length = 0 ∨ ∃ g', la = some ⟨g', 0, none⟩ ∧ g < g' ∧ g' < W.heap.size ∧ Pt g' ((ds.getD j D.zero).ls.length * 2) W)
theorem DW.below {g k : Nat} {ds : List D} {W W' : World} (h : DW g k ds W) (hg : g < W.heap.size) (hb : Below W.heap.size W W') : DW g k ds W' := by
  intro j hj
  obtain ⟨la, lc, c0, c1, c2, c3, hL, hn⟩ := h j hj
  have f := fun x => hb.cell (p := ⟨g, x, none⟩) hg
  exact ⟨la, lc, (f _).trans c0, (f _).trans c1, (f _).trans c2, (f _).trans c3, hL.below hb, hn.imp id (fun ⟨g', e1, e2, e3, e4⟩ => ⟨g', e1, e2, by have := hb.size; omega, e4.below hb⟩)⟩
theorem DW.put {g k o : Nat} {ds : List D} {W : World} (h : DW g k ds W) (ho : k * 4 ≤ o) (v : Value) : DW g k ds (W.setCell ⟨g, o, none⟩ v) := by
  intro j hj
  obtain ⟨la, lc, c0, c1, c2, c3, hL, hn⟩ := h j hj
  exact ⟨la, lc, (cell_far _ _ (by omega) v).trans c0, (cell_far _ _ (by omega) v).trans c1, (cell_far _ _ (by omega) v).trans c2, (cell_far _ _ (by omega) v).trans c3, DocR.Rws.put hL g o v (ne_of hn), own_put hn⟩
theorem DW.more {g k n : Nat} {ds : List D} {W : World} (h : DW g k ds W) (hp : Pt g n W) (hk : k * 4 + 3 < n) (la : Option Addr) (lc : Nat) (hL : Lis la (ds.getD k D.zero).ls W) (hn : (ds.getD k D.zero).ls.length = 0 ∨ ∃ g', la = some ⟨g', 0, none⟩ ∧ g < g' ∧ g' < W.heap.size ∧ Pt g' ((ds.getD k D.zero).ls.length * 2) W) :
    DW g (k + 1) ds ((((W.setCell ⟨g, k * 4, none⟩ (.string (ds.getD k D.zero).a)).setCell ⟨g, k * 4 + 1, none⟩ (.int .i64 (ds.getD k D.zero).mo)).setCell ⟨g, k * 4 + 2, none⟩ (.int .i64 (ds.getD k D.zero).sq)).setCell ⟨g, k * 4 + 3, none⟩ (.slice la (ds.getD k D.zero).ls.length lc)) := by
  intro j hj
  by_cases e : j = k
  · subst e
    have p1 := hp.set (j * 4) (.string (ds.getD j D.zero).a)
    have p2 := p1.set (j * 4 + 1) (.int .i64 (ds.getD j D.zero).mo)
    have p3 := p2.set (j * 4 + 2) (.int .i64 (ds.getD j D.zero).sq)
    refine ⟨la, lc, ?_, ?_, ?_, cell_put p3 _ hk _, DocR.Rws.put (DocR.Rws.put (DocR.Rws.put (DocR.Rws.put hL g _ _ (ne_of hn)) g _ _ (ne_of hn)) g _ _ (ne_of hn)) g _ _ (ne_of hn), own_put (own_put (own_put (own_put hn)))⟩
    · rw [cell_far _ _ (by omega), cell_far _ _ (by omega), cell_far _ _ (by omega), cell_put hp _ (by omega)]
    · rw [cell_far _ _ (by omega), cell_far _ _ (by omega), cell_put p1 _ (by omega)]
    · rw [cell_far _ _ (by omega), cell_put p2 _ (by omega)]
  · exact ((((h.put (by omega) _).put (by omega) _).put (by omega) _).put (by omega) _) j (by omega)
theorem DW.dcs {g : Nat} {ds : List D} {W : World} (h : DW g ds.length ds W) (hg : g < W.heap.size) : Dcs (some ⟨g, 0, none⟩) ds W := .inr ⟨g, 0, rfl, hg, fun j hj => by
  obtain ⟨la, lc, c0, c1, c2, c3, hL, _⟩ := h j hj
  exact ⟨la, lc, by rw [Nat.zero_add]; exact c0, by rw [Nat.zero_add]; exact c1, by rw [Nat.zero_add]; exact c2, by rw [Nat.zero_add]; exact c3, hL⟩⟩
end LedR
end Go.Proofs.Ytbecgngmpjajaaa
namespace Go.Proofs.Ytbecgngmpjajaaa
open Go.ChangeShapes Go.WideShapes Go.ChangeAt Go.RowKit
set_option linter.unusedVariables false
namespace LedR
open OwG LinR DocR
open RowG (MadeG Rws cellsAll hid_intro)
open EvtR (Pt)
open CatR (Blk Blk.new)
/-- A document with the place of its lines. -/
structure DA where
  d : D
  la : Option Addr
  lc : Nat
def DA.v (x : DA) : Value := .slice x.la x.d.ls.length x.lc
def DA.cells (x : DA) : List Value := [.string x.d.a, .int .i64 x.d.mo, .int .i64 x.d.sq, x.v]
theorem DA.len (x : DA) : x.cells.length = 4 := rfl
def DA.zero : DA := ⟨D.zero, none, 0⟩
/-- Its lines are its own. -/
def LnO (base : Nat) (x : DA) (W : World) : Prop := W.ownsRow base 54 2 x.v x.d.ls.length (cellsAll N.cells x.d.ls)
def Apt (x y : DA) : Prop := ∀ b, x.v.ownBlock = some b → y.v.ownBlock ≠ some b
/-- A list of documents of one's own. -/
def DsO (base : Nat) (v : Value) (ds : List D) (W : World) : Prop := ∃ xs : List DA, xs.map DA.d = ds ∧ W.ownsRow base 29 4 v ds.length (cellsAll DA.cells xs) ∧ (∀ x ∈ xs, LnO base x W) ∧ xs.Pairwise Apt
theorem LnO.grown {base : Nat} {x : DA} {W W' : World} {row : Option Nat} (h : LnO base x W) (hg : W.grownBy W' row) (hne : ∀ b, x.v.ownBlock = some b → some b ≠ row) : LnO base x W' := own_keepO h hg hne
theorem LnO.low {base base' : Nat} {x : DA} {W : World} (h : LnO base x W) (hb : base' ≤ base) : LnO base' x W := OwG.own_low h hb
theorem dso_nil (base : Nat) (W : World) : DsO base (.slice none 0 0) [] W := ⟨[], rfl, World.ownsRow_nil _ _ _ _, (fun x h => absurd h (by simp)), List.Pairwise.nil⟩
theorem DsO.low {base base' : Nat} {v : Value} {ds : List D} {W : World} (h : DsO base v ds W) (hb : base' ≤ base) : DsO base' v ds W := by
  obtain ⟨xs, h1, h2, h3, h4⟩ := h
  exact ⟨xs, h1, OwG.own_low h2 hb, fun x hx => (h3 x hx).low hb, h4⟩
theorem DsO.far {base g : Nat} {v : Value} {ds : List D} {W W' : World} (h : DsO base v ds W) (hg : W.grownBy W' (some g)) (hlt : g < base) : DsO base v ds W' := by
  obtain ⟨xs, h1, h2, h3, h4⟩ := h
  exact ⟨xs, h1, own_keepG h2 hg hlt, fun x hx => own_keepG (h3 x hx) hg hlt, h4⟩
theorem DsO.below {base : Nat} {v : Value} {ds : List D} {W W' : World} (h : DsO base v ds W) (hb : Below W.heap.size W W') : DsO base v ds W' := by
  obtain ⟨xs, h1, h2, h3, h4⟩ := h
  exact ⟨xs, h1, RowG.own_below h2 hb, fun x hx => RowG.own_below (h3 x hx) hb, h4⟩
theorem dso_step {base g : Nat} {v v' : Value} {xs : List DA} {ds : List D} {d : D} {la : Option Addr} {lc : Nat} {wr w1 w2 w9 : World} (hds : xs.map DA.d = ds) (hLn : ∀ x ∈ xs, LnO base x wr) (hPw : xs.Pairwise Apt) (hg1 : wr.grownBy w1 (some g)) (hgb : g < base) (hbw : base ≤ wr.heap.size)
    (hnew : w1.ownsRow wr.heap.size 54 2 (.slice la d.ls.length lc) d.ls.length (cellsAll N.cells d.ls)) (al : Below w1.heap.size w1 w2) (hO : w2.ownsRow base 29 4 v ds.length (cellsAll DA.cells xs)) (hgrow : w2.grownBy w9 v.ownBlock)
    (hown : w9.ownsRow base 29 4 v' (ds.length + 1) (cellsAll DA.cells xs ++ [.string d.a, .int .i64 d.mo, .int .i64 d.sq, .slice la d.ls.length lc])) : DsO base v' (ds ++ [d]) w9 := by
  have hk : ∀ x : DA, LnO base x w2 → LnO base x w9 := fun x hx => hx.grown hgrow (own_apart hx hO (by decide))
  refine ⟨xs ++ [⟨d, la, lc⟩], by rw [List.map_append, hds]; rfl, ?_, ?_, ?_⟩
  · rw [cellsAll_snoc, List.length_append]
    exact hown
  · intro x hx
    rcases List.mem_append.1 hx with h | h
    · exact hk x (RowG.own_below (own_keepG (hLn x h) hg1 hgb) al)
    · rw [List.mem_singleton] at h
      subst h
      exact hk ⟨d, la, lc⟩ (RowG.own_below (OwG.own_low hnew hbw) al)
  · refine List.pairwise_append.2 ⟨hPw, List.pairwise_singleton _ _, fun x hx y hy => ?_⟩
    rw [List.mem_singleton] at hy
    subst hy
    intro b h1 h2
    have p1 := (hLn x hx).lt b h1
    have p2 := hnew.lt b h2
    omega
theorem DsO.dcs {base : Nat} {v : Value} {ds : List D} {W : World} (h : DsO base v ds W) : ∃ ao cap, v = .slice ao ds.length cap ∧ Dcs ao ds W := by
  obtain ⟨xs, h1, h2, h3, _⟩ := h
  have hl : ds.length = xs.length := by rw [← h1]; simp
  rw [hl] at h2
  obtain ⟨ao, cap, rfl, hm⟩ := RowG.own_made (z := DA.zero) DA.len h2
  refine ⟨ao, cap, by rw [hl], ?_⟩
  rcases hm.rws with h0 | ⟨b, off, rfl, hb, hc⟩
  · exact .inl (by omega)
  · refine .inr ⟨b, off, rfl, hb, fun i hi => ?_⟩
    have hx : i < xs.length := by omega
    have e : ds.getD i D.zero = (xs.getD i DA.zero).d := by
      rw [← h1]
      simp [List.getD, hx]
    have hmem := RowG.getD_mem (z := DA.zero) xs i hx
    have c := hc i hx
    rw [e]
    generalize xs.getD i DA.zero = X at *
    obtain ⟨ao', cap', e', hm'⟩ := RowG.own_made (z := N.zero) N.len (h3 X hmem)
    unfold DA.v at e'
    cases e'
    exact ⟨X.la, X.lc, c 0 (by omega), c 1 (by omega), c 2 (by omega), c 3 (by omega), hm'.rws⟩
theorem doc_one (d : D) (la : Option Addr) (lc : Nat) : ∀ u ∈ ([.string d.a, .int .i64 d.mo, .int .i64 d.sq, .slice la d.ls.length lc] : List Value), u.oneCell' = true := by
  intro u hu
  simp at hu
  rcases hu with rfl | rfl | rfl | rfl <;> rfl
end LedR
end Go.Proofs.Ytbecgngmpjajaaa
namespace Go.Proofs.Ytbecgngmpjajaaa
open Go.ChangeShapes Go.WideShapes Go.ChangeAt Go.RowKit
set_option linter.unusedVariables false
namespace LedR
open LinR DocR NetR OwG
open RowG (cellsAll cellsAll_len hid_intro take_more)
/-- One more document, with what both lists hold. -/
theorem dso_snoc {base : Nat} {v v' : Value} {xs : List DA} {ds : List D} {d : D} {la : Option Addr} {lc : Nat} {w2 w9 : World} (hds : xs.map DA.d = ds) (hLn : ∀ x ∈ xs, LnO base x w2) (hPw : xs.Pairwise Apt) (hn : LnO base ⟨d, la, lc⟩ w2) (hap : ∀ x ∈ xs, Apt x ⟨d, la, lc⟩)
    (hO : w2.ownsRow base 29 4 v ds.length (cellsAll DA.cells xs)) (hgrow : w2.grownBy w9 v.ownBlock)
    (hown : w9.ownsRow base 29 4 v' (ds.length + 1) (cellsAll DA.cells xs ++ [.string d.a, .int .i64 d.mo, .int .i64 d.sq, .slice la d.ls.length lc])) :
    (xs ++ [(⟨d, la, lc⟩ : DA)]).map DA.d = ds ++ [d] ∧ w9.ownsRow base 29 4 v' (ds ++ [d]).length (cellsAll DA.cells (xs ++ [(⟨d, la, lc⟩ : DA)])) ∧ (∀ x ∈ xs ++ [(⟨d, la, lc⟩ : DA)], LnO base x w9) ∧ (xs ++ [(⟨d, la, lc⟩ : DA)]).Pairwise Apt := by
  have hk : ∀ x : DA, LnO base x w2 → LnO base x w9 := fun x hx => hx.grown hgrow (own_apart hx hO (by decide))
  refine ⟨by rw [List.map_append, hds]; rfl, ?_, ?_, ?_⟩
  · rw [cellsAll_snoc, List.length_append]
    exact hown
  · intro x hx
    rcases List.mem_append.1 hx with h | h
    · exact hk x (hLn x h)
    · rw [List.mem_singleton] at h
      subst h
      exact hk _ hn
  · refine List.pairwise_append.2 ⟨hPw, List.pairwise_singleton _ _, fun x hx y hy => ?_⟩
    rw [List.mem_singleton] at hy
    subst hy
    exact hap x hx
theorem new_cells4 (W : World) (cs : List Value) (T : TypeId) : ∀ (j : Nat) u, cs[j]? = some u → (W.alloc (.cells cs.toArray T)).cell? ((⟨W.heap.size, 0, none⟩ : Addr).add j) = some u := by
  intro j u hx
  have hb := (BlkW.new W cs T).1
  rw [Addr.add_lit, Nat.zero_add, hb.2 j (List.getElem?_eq_some_iff.1 hx).1]
  exact hx
set_option maxRecDepth 100000 in
set_option maxHeartbeats 4000000 in
theorem scopy (ao : Option Addr) (cap : Nat) (ds : List D) (w : World) (hlen : ds.length ≤ 1048575) (hL : ∀ d ∈ ds, d.ls.length ≤ 1048576) (hI : Dcs ao ds w) :
    Calls Try.prog 62 #[.slice ao ds.length cap] w fun e w' => ∃ v, e = .returned v ∧ DsO w.heap.size v ds w' ∧ Below w.heap.size w w' := by
  obtain ⟨i0, hi, hz0, hz1, hz2⟩ := info_parts infoD
  have HI := hid_intro hI
  have HL := hid_intro hL
  obtain ⟨len, hl⟩ : ∃ len, len = ds.length := ⟨_, rfl⟩
  have HLN := hid_intro hl
  have HEND : Hid (ds.take len = ds) := hid_intro (by rw [hl]; exact List.take_length)
  rw [← hl] at hlen ⊢
  have HE0 := hid_intro (own_empty w w.heap.size 29 4 (Nat.le_refl _))
  clear hI hL hl
  go_enter Try.func62, Try.ntmps62
  go_wp2_with fail
  go_loopw [3, 4] (fun v z wr => ∃ k : Nat, k ≤ len ∧ z = .int .i64 k ∧ Hid (DsO w.heap.size v (ds.take k) wr) ∧ Hid (Below w.heap.size w wr)) (fun v z _ => len - (intOf z).toNat)
  case atStart => exact ⟨0, by omega, rfl, hid_intro ⟨[], rfl, HE0.out, (fun x h => by cases h), List.Pairwise.nil⟩, hid_intro ((Below.refl _ _).alloc (Nat.le_refl _) _)⟩
  case round =>
    obtain ⟨k, hk, rfl, HO, HB⟩ := hrel
    by_cases hlt : k < len
    · have hlt2 : (k : Int) < (len : Int) := by omega
      have hkl : k < ds.length := by have := HLN.out; omega
      obtain ⟨b, off, la, lc, rfl, hbl, c0, c1, c2, c3, hLi⟩ := (HI.out.below HB.out).at k hkl
      have hdl := HL.out _ (RowG.getD_mem (z := D.zero) ds k hkl)
      have HT := hid_intro (take_more (z := D.zero) ds k hkl)
      have HDK : Hid ((ds.take k).length = k) := hid_intro (by rw [List.length_take]; omega)
      generalize ds.getD k D.zero = X at *
      obtain ⟨xs, hx1, hx2, hx3, hx4⟩ := HO.out
      have HX1 := hid_intro hx1
      have HX2 := hid_intro hx2
      have HX3 := hid_intro hx3
      have HX4 := hid_intro hx4
      have HSD := hid_intro (fun W (hb : Below wr.heap.size wr W) => sdoc X la lc W hdl (hLi.below hb))
      obtain ⟨a, mo, sq, ls⟩ := X
      dsimp only at c0 c1 c2 c3 HSD hdl
      obtain ⟨nl, hnl⟩ : ∃ nl, nl = ls.length := ⟨_, rfl⟩
      rw [← hnl] at c3 HSD hdl
      have HNL := hid_intro hnl
      clear hx1 hx2 hx3 hx4 hLi hnl HO
      go_wp2_with fail
      refine (HSD.out _ (Below.refl _ _)).mono ?_
      rintro e w1 ⟨no, nc, rfl, hnew, hb1⟩
      have HN1 := hid_intro hnew
      have HB1 := hid_intro hb1
      have HS1 : Hid (w.heap.size ≤ wr.heap.size) := hid_intro HB.out.size
      obtain ⟨w2, hw2⟩ : ∃ z, z = w1.alloc (.cells #[.string a, .int .i64 mo, .int .i64 sq, .slice no nl nc] 29) := ⟨_, rfl⟩
      have al : Below w1.heap.size w1 w2 := by rw [hw2]; exact (Below.refl _ _).alloc (Nat.le_refl _) _
      have HAL := hid_intro al
      have HO2 := hid_intro (RowG.own_below (RowG.own_below HX2.out hb1) al)
      have HNW : Hid (∀ j u, ([.string a, .int .i64 mo, .int .i64 sq, .slice no nl nc] : List Value)[j]? = some u → w2.cell? ((⟨w1.heap.size, 0, none⟩ : Addr).add j) = some u) := hid_intro (by rw [hw2]; exact new_cells4 w1 [.string a, .int .i64 mo, .int .i64 sq, .slice no nl nc] 29)
      have HS2 : Hid (w.heap.size ≤ w2.heap.size) := hid_intro (by have := al.size; have := hb1.size; have := HB.out.size; omega)
      have HW2 := hid_intro hw2
      have HDO : Hid (∀ u ∈ ([.string a, .int .i64 mo, .int .i64 sq, .slice no nl nc] : List Value), u.oneCell' = true) := hid_intro (by intro u hu; simp at hu; rcases hu with rfl | rfl | rfl | rfl <;> rfl)
      rw [HDK.out] at HO2
      have hsz1 : k + 1 ≤ maxLen := by unfold maxLen; omega
      have hsz2 : (k + 1) * 56 ≤ 140737488355328 := by omega
      clear hnew hb1 al hw2 HSD
      go_wp2_with (at_builtin; rw [← HW2.out]; refine wpList_append_own _ rfl _ _ 23 rfl w.heap.size 29 i0 (.agg #[.string ⟨#[]⟩, .int .i64 0, .int .i64 0, .slice none 0 0]) 4 56 Try.underlying23 hi hz0 hz1 hz2 rfl (by decide) _ _ _ rfl HO2.out ⟨w1.heap.size, 0, none⟩ 1 1 [.string a, .int .i64 mo, .int .i64 sq, .slice no nl nc] rfl rfl HNW.out HDO.out hsz1 hsz2 HS2.out ?_)
      intro v' w9 hown hgrow hne
      have HD9 : Hid (DsO w.heap.size v' (ds.take (k + 1)) w9) := hid_intro (by
        rw [HT.out]
        have e := HNL.out
        subst e
        have h := dso_snoc (d := ⟨a, mo, sq, ls⟩) (la := no) (lc := nc) HX1.out (fun x hx => RowG.own_below (RowG.own_below (HX3.out x hx) HB1.out) HAL.out) HX4.out (RowG.own_below (OwG.own_low HN1.out HS1.out) HAL.out) (fun x hx b h1 h2 => by
          have p1 := ((HX3.out x hx).lt b h1).2
          have p2 := (HN1.out.lt b h2).1
          omega) (by rw [HDK.out]; exact HO2.out) hgrow (by rw [HDK.out]; exact hown)
        exact ⟨_, h.1, h.2.1, h.2.2.1, h.2.2.2⟩)
      have HB9 : Hid (Below w.heap.size w w9) := hid_intro (((HB.out.trans (HB1.out.mono HB.out.size)).trans (HAL.out.mono (Nat.le_trans HB.out.size HB1.out.size))).grown hgrow HS2.out (fun k e => by have := (HO2.out.lt k e).1; omega))
      clear hown hgrow hne
      go_wp2_with fail
      go_roundw
      case rel => exact ⟨k + 1, by omega, by go_num, HD9, HB9⟩
      case measure => simp [intOf]; omega
    · have hlt2 : ¬ (k : Int) < (len : Int) := by omega
      obtain rfl : k = len := by omega
      rw [HEND.out] at HO
      go_wp2_with fail
      go_ret
      exact ⟨_, rfl, HO.out, HB.out⟩
end LedR
end Go.Proofs.Ytbecgngmpjajaaa
namespace Go.Proofs.Ytbecgngmpjajaaa
open Go.ChangeShapes Go.WideShapes Go.ChangeAt Go.RowKit
set_option linter.unusedVariables false
namespace LedR
open LinR RowG LtR NetR DocR
theorem rise_of {es : List N} (h : SRight es) : Rise es := right_rise h
theorem num_of {es : List N} (h : SRight es) : ∀ e ∈ es, -1000000000000000 ≤ e.n ∧ e.n ≤ 1000000000000000 := by
  intro x hx
  obtain ⟨i, hi, rfl⟩ := List.getElem_of_mem hx
  have := (h.2 i hi).2
  rw [show es.getD i N.zero = es[i] by simp [List.getD, hi]] at this
  unfold lOk nOk at this
  simp only [Bool.and_eq_true, decide_eq_true_eq] at this
  exact this.2.1
end LedR
end Go.Proofs.Ytbecgngmpjajaaa
namespace Go.Proofs.Ytbecgngmpjajaaa
open Go.ChangeShapes Go.WideShapes Go.ChangeAt Go.RowKit
set_option linter.unusedVariables false
namespace LedR
open LinR RowG DocR
open EvtR (Pt cell_put cell_far)
open CatR (Blk Blk.new)
/-- An answer that reads so. -/
def LoR (v : Value) (ds : List D) (x : D) (cd : Int) (W : World) : Prop := ∃ ao cap la lc, v = .agg #[.slice ao ds.length cap, .string x.a, .int .i64 x.mo, .int .i64 x.sq, .slice la x.ls.length lc, .int .i64 cd] ∧ Dcs ao ds W ∧ Lis la x.ls W
theorem LoR.below {v : Value} {ds : List D} {x : D} {cd : Int} {W W' : World} (h : LoR v ds x cd W) (hb : Below W.heap.size W W') : LoR v ds x cd W' := by
  obtain ⟨ao, cap, la, lc, rfl, h1, h2⟩ := h
  exact ⟨ao, cap, la, lc, rfl, h1.below hb, h2.below hb⟩
/-- An answer of one's own. -/
def LoO (base : Nat) (v : Value) (ds : List D) (x : D) (cd : Int) (W : World) : Prop := ∃ (vd : Value) (xs : List DA) (la : Option Addr) (lc : Nat), v = .agg #[vd, .string x.a, .int .i64 x.mo, .int .i64 x.sq, .slice la x.ls.length lc, .int .i64 cd] ∧ xs.map DA.d = ds ∧ W.ownsRow base 29 4 vd ds.length (cellsAll DA.cells xs) ∧ (∀ y ∈ xs, LnO base y W) ∧ xs.Pairwise Apt ∧ LnO base ⟨x, la, lc⟩ W ∧ ∀ y ∈ xs, Apt y ⟨x, la, lc⟩
theorem LoO.reads {base : Nat} {v : Value} {ds : List D} {x : D} {cd : Int} {W : World} (h : LoO base v ds x cd W) : LoR v ds x cd W := by
  obtain ⟨vd, xs, la, lc, rfl, h1, h2, h3, h4, h5, _⟩ := h
  obtain ⟨ao, cap, rfl, hd⟩ := DsO.dcs (⟨xs, h1, h2, h3, h4⟩ : DsO base vd ds W)
  obtain ⟨ao', cap', e', hm'⟩ := RowG.own_made (z := N.zero) N.len h5
  unfold DA.v at e'
  cases e'
  exact ⟨ao, cap, la, lc, rfl, hd, hm'.rws⟩
theorem LoO.below {base : Nat} {v : Value} {ds : List D} {x : D} {cd : Int} {W W' : World} (h : LoO base v ds x cd W) (hb : Below W.heap.size W W') : LoO base v ds x cd W' := by
  obtain ⟨vd, xs, la, lc, rfl, h1, h2, h3, h4, h5, h6⟩ := h
  exact ⟨vd, xs, la, lc, rfl, h1, RowG.own_below h2 hb, fun y hy => RowG.own_below (h3 y hy) hb, h4, RowG.own_below h5 hb, h6⟩
theorem loO_of {base : Nat} {vd : Value} {ds : List D} {cd : Int} {W : World} (h : DsO base vd ds W) : LoO base (.agg #[vd, .string ⟨#[]⟩, .int .i64 0, .int .i64 0, .slice none 0 0, .int .i64 cd]) ds D.zero cd W := by
  obtain ⟨xs, h1, h2, h3, h4⟩ := h
  exact ⟨vd, xs, none, 0, rfl, h1, h2, h3, h4, World.ownsRow_nil _ _ _ _, fun y _ b h1 h2 => by simp [DA.v, Value.ownBlock] at h2⟩
end LedR
end Go.Proofs.Ytbecgngmpjajaaa
