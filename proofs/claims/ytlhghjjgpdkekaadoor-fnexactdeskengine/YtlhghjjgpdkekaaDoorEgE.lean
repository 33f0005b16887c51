/-
  Engines, and answers with engines, held against each other: put together of what their parts promise; and lists of sources. The condition: at most 1048576 sources.
-/
import Derived.Test.YtlhghjjgpdkekaaDoorCrL
import Derived.Test.YtlhghjjgpdkekaaDoorBlk
import Derived.Test.YtlhghjjgpdkekaaDoorRowG
namespace Go.Proofs.YtlhghjjgpdkekaaDoor
open Go.ChangeShapes Go.WideShapes Go.ChangeAt Go.RowKit
set_option linter.unusedVariables false
namespace CatR
open EvtR (Pt cell_put cell_far)
open RowG (hid_intro)
theorem eqSr_any (u : ByteArray) (p : Int) (w : World) : Calls Tryd.prog 38 #[.agg #[.string u, .int .i64 p], .agg #[.string u, .int .i64 p]] w fun e w' => e = .returned (.bool true) ∧ Below w.heap.size w w' := by
  go_enter Tryd.func38, Tryd.ntmps38
  go_wp2
  go_ret
  refine ⟨rfl, ?_⟩
  repeat' first | exact Below.refl _ _ | apply Below.setCell | apply Below.alloc
  all_goals first | omega | (simp; done) | (simp; omega)
set_option maxHeartbeats 4000000 in
theorem eqSrs_any (ao bo : Option Addr) (len cap cap' : Nat) (ts : List Cr) (w : World) (hlen : len ≤ 1048576) (hI : Crs ao len ts w) (hJ : Crs bo len ts w) :
    Calls Tryd.prog 14 #[.slice ao len cap, .slice bo len cap'] w fun e w' => e = .returned (.bool true) ∧ Below w.heap.size w w' := by
  have HI := hid_intro hI
  have HJ := hid_intro hJ
  clear hI hJ
  go_enter Tryd.func14, Tryd.ntmps14
  go_wp2_with fail
  go_loopw [5] (fun z wr => ∃ k : Nat, k ≤ len ∧ z = .int .i64 k ∧ Hid (Below w.heap.size w wr)) (fun z _ => len - (intOf z).toNat)
  case atStart => exact ⟨0, by omega, rfl, hid_intro (Below.refl _ _)⟩
  case round =>
    obtain ⟨k, hk, rfl, HW⟩ := hrel
    by_cases hlt : k < len
    · have hlt2 : (k : Int) < (len : Int) := by omega
      obtain ⟨b, off, rfl, _, c0, c1⟩ := crs_at (HI.out.below HW.out) k hlt
      obtain ⟨b', off', rfl, _, e0, e1⟩ := crs_at (HJ.out.below HW.out) k hlt
      generalize ts.getD k Cr.zero = X at *
      obtain ⟨u, p⟩ := X
      have HC := hid_intro (fun w => eqSr_any u p w)
      go_wp2_with fail
      go_region_with (go_at_call 38; refine (HC.out _).mono ?_; rintro e w1 ⟨rfl, hb⟩)
      all_goals (
        have HB1 := hid_intro (HW.out.drew.trans (hb.mono HW.out.drew.size))
        clear hb c0 c1 e0 e1
        go_wp2_with fail
        go_roundw
        case rel => exact ⟨k + 1, by omega, by go_num, HB1⟩
        case measure => simp [intOf]; omega)
    · have hlt2 : ¬ (k : Int) < (len : Int) := by omega
      go_wp2_with fail
      go_ret
      exact ⟨rfl, HW.out⟩
set_option maxHeartbeats 4000000 in
theorem eqEns0 (ao bo : Option Addr) (cap cap' : Nat) (w : World) : Calls Tryd.prog 15 #[.slice ao 0 cap, .slice bo 0 cap'] w fun e w' => e = .returned (.bool true) ∧ Below w.heap.size w w' := by
  go_enter Tryd.func15, Tryd.ntmps15
  go_wp2_with fail
  go_loopw [5] (fun z wr => z = .int .i64 0 ∧ Hid (Below w.heap.size w wr)) (fun z _ => 0)
  case atStart => exact ⟨rfl, hid_intro (Below.refl _ _)⟩
  case round =>
    obtain ⟨rfl, HB⟩ := hrel
    go_wp2_with fail
    go_ret
    exact ⟨rfl, HB.out⟩
set_option maxHeartbeats 4000000 in
theorem eqWds0 (ao bo : Option Addr) (cap cap' : Nat) (w : World) : Calls Tryd.prog 16 #[.slice ao 0 cap, .slice bo 0 cap'] w fun e w' => e = .returned (.bool true) ∧ Below w.heap.size w w' := by
  go_enter Tryd.func16, Tryd.ntmps16
  go_wp2_with fail
  go_loopw [5] (fun z wr => z = .int .i64 0 ∧ Hid (Below w.heap.size w wr)) (fun z _ => 0)
  case atStart => exact ⟨rfl, hid_intro (Below.refl _ _)⟩
  case round =>
    obtain ⟨rfl, HB⟩ := hrel
    go_wp2_with fail
    go_ret
    exact ⟨rfl, HB.out⟩
set_option maxHeartbeats 4000000 in
theorem eqDcs0 (ao bo : Option Addr) (cap cap' : Nat) (w : World) : Calls Tryd.prog 17 #[.slice ao 0 cap, .slice bo 0 cap'] w fun e w' => e = .returned (.bool true) ∧ Below w.heap.size w w' := by
  go_enter Tryd.func17, Tryd.ntmps17
  go_wp2_with fail
  go_loopw [5] (fun z wr => z = .int .i64 0 ∧ Hid (Below w.heap.size w wr)) (fun z _ => 0)
  case atStart => exact ⟨rfl, hid_intro (Below.refl _ _)⟩
  case round =>
    obtain ⟨rfl, HB⟩ := hrel
    go_wp2_with fail
    go_ret
    exact ⟨rfl, HB.out⟩
set_option maxHeartbeats 4000000 in
theorem eqEng (ma ma' : Option Addr) (ml mc mc' : Nat) (ca ca' : Option Addr) (cl cc cc' : Nat) (sa sa' : Option Addr) (sl sc sc' : Nat) (na na' : Option Addr) (nl nc nc' : Nat) (ua ua' : Option Addr) (ul uc uc' : Nat) (da da' : Option Addr) (dl dc dc' : Nat) (fr : Int) (w : World)
    (h0 : ∀ W, Below w.heap.size w W → Calls Tryd.prog 13 #[.agg #[.slice ma ml mc, .slice ca cl cc], .agg #[.slice ma' ml mc', .slice ca' cl cc']] W fun e w' => e = .returned (.bool true) ∧ Below W.heap.size W w')
    (h1 : ∀ W, Below w.heap.size w W → Calls Tryd.prog 14 #[.slice sa sl sc, .slice sa' sl sc'] W fun e w' => e = .returned (.bool true) ∧ Below W.heap.size W w')
    (h2 : ∀ W, Below w.heap.size w W → Calls Tryd.prog 15 #[.slice na nl nc, .slice na' nl nc'] W fun e w' => e = .returned (.bool true) ∧ Below W.heap.size W w')
    (h3 : ∀ W, Below w.heap.size w W → Calls Tryd.prog 16 #[.slice ua ul uc, .slice ua' ul uc'] W fun e w' => e = .returned (.bool true) ∧ Below W.heap.size W w')
    (h4 : ∀ W, Below w.heap.size w W → Calls Tryd.prog 17 #[.slice da dl dc, .slice da' dl dc'] W fun e w' => e = .returned (.bool true) ∧ Below W.heap.size W w') :
    Calls Tryd.prog 6 #[.agg #[.slice ma ml mc, .slice ca cl cc, .slice sa sl sc, .slice na nl nc, .slice ua ul uc, .slice da dl dc, .int .i64 fr], .agg #[.slice ma' ml mc', .slice ca' cl cc', .slice sa' sl sc', .slice na' nl nc', .slice ua' ul uc', .slice da' dl dc', .int .i64 fr]] w fun e w' => e = .returned (.bool true) ∧ Below w.heap.size w w' := by
  have H0 := hid_intro h0
  have H1 := hid_intro h1
  have H2 := hid_intro h2
  have H3 := hid_intro h3
  have H4 := hid_intro h4
  clear h0 h1 h2 h3 h4
  obtain ⟨W0, hW0⟩ : ∃ W0, W0 = (w.alloc (.cells #[.slice ma ml mc, .slice ca cl cc, .slice sa sl sc, .slice na nl nc, .slice ua ul uc, .slice da dl dc, .int .i64 fr] 31)).alloc (.cells #[.slice ma' ml mc', .slice ca' cl cc', .slice sa' sl sc', .slice na' nl nc', .slice ua' ul uc', .slice da' dl dc', .int .i64 fr] 31) := ⟨_, rfl⟩
  have B0 : Hid (Below w.heap.size w W0) := hid_intro (by rw [hW0]; exact ((Below.refl _ _).alloc (Nat.le_refl _) _).alloc (by simp) _)
  have X0 : Hid (Blk w.heap.size [.slice ma ml mc, .slice ca cl cc, .slice sa sl sc, .slice na nl nc, .slice ua ul uc, .slice da dl dc, .int .i64 fr] W0) := hid_intro (by rw [hW0]; exact (Blk.new w [.slice ma ml mc, .slice ca cl cc, .slice sa sl sc, .slice na nl nc, .slice ua ul uc, .slice da dl dc, .int .i64 fr] 31).below ((Below.refl _ _).alloc (Nat.le_refl _) _))
  have Y0 : Hid (Blk (w.heap.size + 1) [.slice ma' ml mc', .slice ca' cl cc', .slice sa' sl sc', .slice na' nl nc', .slice ua' ul uc', .slice da' dl dc', .int .i64 fr] W0) := hid_intro (by
    rw [hW0]
    obtain ⟨X, hX⟩ : ∃ X, X = w.alloc (.cells #[.slice ma ml mc, .slice ca cl cc, .slice sa sl sc, .slice na nl nc, .slice ua ul uc, .slice da dl dc, .int .i64 fr] 31) := ⟨_, rfl⟩
    have e : X.heap.size = w.heap.size + 1 := by rw [hX]; simp
    rw [← hX, ← e]
    exact Blk.new X [.slice ma' ml mc', .slice ca' cl cc', .slice sa' sl sc', .slice na' nl nc', .slice ua' ul uc', .slice da' dl dc', .int .i64 fr] 31)
  have HW := hid_intro hW0
  clear hW0
  go_enter Tryd.func6, Tryd.ntmps6
  go_wp2_with fail
  rw [← HW.out]
  clear HW
  refine (H0.out _ B0.out).mono ?_
  rintro e w1 ⟨rfl, hb⟩
  have B1 := hid_intro (B0.out.trans (hb.mono B0.out.size))
  have X1 := hid_intro (X0.out.below hb)
  have Y1 := hid_intro (Y0.out.below hb)
  clear hb B0 X0 Y0
  have xl := X1.out.1
  have yl := Y1.out.1
  have x0 : w1.cell? ⟨w.heap.size, 0, none⟩ = some (.slice ma ml mc) := X1.out.2 0 (by simp)
  have y0 : w1.cell? ⟨w.heap.size + 1, 0, none⟩ = some (.slice ma' ml mc') := Y1.out.2 0 (by simp)
  have x1 : w1.cell? ⟨w.heap.size, 1, none⟩ = some (.slice ca cl cc) := X1.out.2 1 (by simp)
  have y1 : w1.cell? ⟨w.heap.size + 1, 1, none⟩ = some (.slice ca' cl cc') := Y1.out.2 1 (by simp)
  have x2 : w1.cell? ⟨w.heap.size, 2, none⟩ = some (.slice sa sl sc) := X1.out.2 2 (by simp)
  have y2 : w1.cell? ⟨w.heap.size + 1, 2, none⟩ = some (.slice sa' sl sc') := Y1.out.2 2 (by simp)
  have x3 : w1.cell? ⟨w.heap.size, 3, none⟩ = some (.slice na nl nc) := X1.out.2 3 (by simp)
  have y3 : w1.cell? ⟨w.heap.size + 1, 3, none⟩ = some (.slice na' nl nc') := Y1.out.2 3 (by simp)
  have x4 : w1.cell? ⟨w.heap.size, 4, none⟩ = some (.slice ua ul uc) := X1.out.2 4 (by simp)
  have y4 : w1.cell? ⟨w.heap.size + 1, 4, none⟩ = some (.slice ua' ul uc') := Y1.out.2 4 (by simp)
  have x5 : w1.cell? ⟨w.heap.size, 5, none⟩ = some (.slice da dl dc) := X1.out.2 5 (by simp)
  have y5 : w1.cell? ⟨w.heap.size + 1, 5, none⟩ = some (.slice da' dl dc') := Y1.out.2 5 (by simp)
  have x6 : w1.cell? ⟨w.heap.size, 6, none⟩ = some (.int .i64 fr) := X1.out.2 6 (by simp)
  have y6 : w1.cell? ⟨w.heap.size + 1, 6, none⟩ = some (.int .i64 fr) := Y1.out.2 6 (by simp)
  go_wp2_with fail
  refine (H1.out _ B1.out).mono ?_
  rintro e w2 ⟨rfl, hb⟩
  clear xl yl x0 y0 x1 y1 x2 y2 x3 y3 x4 y4 x5 y5 x6 y6
  have B2 := hid_intro (B1.out.trans (hb.mono B1.out.size))
  have X2 := hid_intro (X1.out.below hb)
  have Y2 := hid_intro (Y1.out.below hb)
  clear hb B1 X1 Y1
  have xl := X2.out.1
  have yl := Y2.out.1
  have x0 : w2.cell? ⟨w.heap.size, 0, none⟩ = some (.slice ma ml mc) := X2.out.2 0 (by simp)
  have y0 : w2.cell? ⟨w.heap.size + 1, 0, none⟩ = some (.slice ma' ml mc') := Y2.out.2 0 (by simp)
  have x1 : w2.cell? ⟨w.heap.size, 1, none⟩ = some (.slice ca cl cc) := X2.out.2 1 (by simp)
  have y1 : w2.cell? ⟨w.heap.size + 1, 1, none⟩ = some (.slice ca' cl cc') := Y2.out.2 1 (by simp)
  have x2 : w2.cell? ⟨w.heap.size, 2, none⟩ = some (.slice sa sl sc) := X2.out.2 2 (by simp)
  have y2 : w2.cell? ⟨w.heap.size + 1, 2, none⟩ = some (.slice sa' sl sc') := Y2.out.2 2 (by simp)
  have x3 : w2.cell? ⟨w.heap.size, 3, none⟩ = some (.slice na nl nc) := X2.out.2 3 (by simp)
  have y3 : w2.cell? ⟨w.heap.size + 1, 3, none⟩ = some (.slice na' nl nc') := Y2.out.2 3 (by simp)
  have x4 : w2.cell? ⟨w.heap.size, 4, none⟩ = some (.slice ua ul uc) := X2.out.2 4 (by simp)
  have y4 : w2.cell? ⟨w.heap.size + 1, 4, none⟩ = some (.slice ua' ul uc') := Y2.out.2 4 (by simp)
  have x5 : w2.cell? ⟨w.heap.size, 5, none⟩ = some (.slice da dl dc) := X2.out.2 5 (by simp)
  have y5 : w2.cell? ⟨w.heap.size + 1, 5, none⟩ = some (.slice da' dl dc') := Y2.out.2 5 (by simp)
  have x6 : w2.cell? ⟨w.heap.size, 6, none⟩ = some (.int .i64 fr) := X2.out.2 6 (by simp)
  have y6 : w2.cell? ⟨w.heap.size + 1, 6, none⟩ = some (.int .i64 fr) := Y2.out.2 6 (by simp)
  go_wp2_with fail
  refine (H2.out _ B2.out).mono ?_
  rintro e w3 ⟨rfl, hb⟩
  clear xl yl x0 y0 x1 y1 x2 y2 x3 y3 x4 y4 x5 y5 x6 y6
  have B3 := hid_intro (B2.out.trans (hb.mono B2.out.size))
  have X3 := hid_intro (X2.out.below hb)
  have Y3 := hid_intro (Y2.out.below hb)
  clear hb B2 X2 Y2
  have xl := X3.out.1
  have yl := Y3.out.1
  have x0 : w3.cell? ⟨w.heap.size, 0, none⟩ = some (.slice ma ml mc) := X3.out.2 0 (by simp)
  have y0 : w3.cell? ⟨w.heap.size + 1, 0, none⟩ = some (.slice ma' ml mc') := Y3.out.2 0 (by simp)
  have x1 : w3.cell? ⟨w.heap.size, 1, none⟩ = some (.slice ca cl cc) := X3.out.2 1 (by simp)
  have y1 : w3.cell? ⟨w.heap.size + 1, 1, none⟩ = some (.slice ca' cl cc') := Y3.out.2 1 (by simp)
  have x2 : w3.cell? ⟨w.heap.size, 2, none⟩ = some (.slice sa sl sc) := X3.out.2 2 (by simp)
  have y2 : w3.cell? ⟨w.heap.size + 1, 2, none⟩ = some (.slice sa' sl sc') := Y3.out.2 2 (by simp)
  have x3 : w3.cell? ⟨w.heap.size, 3, none⟩ = some (.slice na nl nc) := X3.out.2 3 (by simp)
  have y3 : w3.cell? ⟨w.heap.size + 1, 3, none⟩ = some (.slice na' nl nc') := Y3.out.2 3 (by simp)
  have x4 : w3.cell? ⟨w.heap.size, 4, none⟩ = some (.slice ua ul uc) := X3.out.2 4 (by simp)
  have y4 : w3.cell? ⟨w.heap.size + 1, 4, none⟩ = some (.slice ua' ul uc') := Y3.out.2 4 (by simp)
  have x5 : w3.cell? ⟨w.heap.size, 5, none⟩ = some (.slice da dl dc) := X3.out.2 5 (by simp)
  have y5 : w3.cell? ⟨w.heap.size + 1, 5, none⟩ = some (.slice da' dl dc') := Y3.out.2 5 (by simp)
  have x6 : w3.cell? ⟨w.heap.size, 6, none⟩ = some (.int .i64 fr) := X3.out.2 6 (by simp)
  have y6 : w3.cell? ⟨w.heap.size + 1, 6, none⟩ = some (.int .i64 fr) := Y3.out.2 6 (by simp)
  go_wp2_with fail
  refine (H3.out _ B3.out).mono ?_
  rintro e w4 ⟨rfl, hb⟩
  clear xl yl x0 y0 x1 y1 x2 y2 x3 y3 x4 y4 x5 y5 x6 y6
  have B4 := hid_intro (B3.out.trans (hb.mono B3.out.size))
  have X4 := hid_intro (X3.out.below hb)
  have Y4 := hid_intro (Y3.out.below hb)
  clear hb B3 X3 Y3
  have xl := X4.out.1
  have yl := Y4.out.1
  have x0 : w4.cell? ⟨w.heap.size, 0, none⟩ = some (.slice ma ml mc) := X4.out.2 0 (by simp)
  have y0 : w4.cell? ⟨w.heap.size + 1, 0, none⟩ = some (.slice ma' ml mc') := Y4.out.2 0 (by simp)
  have x1 : w4.cell? ⟨w.heap.size, 1, none⟩ = some (.slice ca cl cc) := X4.out.2 1 (by simp)
  have y1 : w4.cell? ⟨w.heap.size + 1, 1, none⟩ = some (.slice ca' cl cc') := Y4.out.2 1 (by simp)
  have x2 : w4.cell? ⟨w.heap.size, 2, none⟩ = some (.slice sa sl sc) := X4.out.2 2 (by simp)
  have y2 : w4.cell? ⟨w.heap.size + 1, 2, none⟩ = some (.slice sa' sl sc') := Y4.out.2 2 (by simp)
  have x3 : w4.cell? ⟨w.heap.size, 3, none⟩ = some (.slice na nl nc) := X4.out.2 3 (by simp)
  have y3 : w4.cell? ⟨w.heap.size + 1, 3, none⟩ = some (.slice na' nl nc') := Y4.out.2 3 (by simp)
  have x4 : w4.cell? ⟨w.heap.size, 4, none⟩ = some (.slice ua ul uc) := X4.out.2 4 (by simp)
  have y4 : w4.cell? ⟨w.heap.size + 1, 4, none⟩ = some (.slice ua' ul uc') := Y4.out.2 4 (by simp)
  have x5 : w4.cell? ⟨w.heap.size, 5, none⟩ = some (.slice da dl dc) := X4.out.2 5 (by simp)
  have y5 : w4.cell? ⟨w.heap.size + 1, 5, none⟩ = some (.slice da' dl dc') := Y4.out.2 5 (by simp)
  have x6 : w4.cell? ⟨w.heap.size, 6, none⟩ = some (.int .i64 fr) := X4.out.2 6 (by simp)
  have y6 : w4.cell? ⟨w.heap.size + 1, 6, none⟩ = some (.int .i64 fr) := Y4.out.2 6 (by simp)
  go_wp2_with fail
  refine (H4.out _ B4.out).mono ?_
  rintro e w5 ⟨rfl, hb⟩
  clear xl yl x0 y0 x1 y1 x2 y2 x3 y3 x4 y4 x5 y5 x6 y6
  have B5 := hid_intro (B4.out.trans (hb.mono B4.out.size))
  have X5 := hid_intro (X4.out.below hb)
  have Y5 := hid_intro (Y4.out.below hb)
  clear hb B4 X4 Y4
  have xl := X5.out.1
  have yl := Y5.out.1
  have x0 : w5.cell? ⟨w.heap.size, 0, none⟩ = some (.slice ma ml mc) := X5.out.2 0 (by simp)
  have y0 : w5.cell? ⟨w.heap.size + 1, 0, none⟩ = some (.slice ma' ml mc') := Y5.out.2 0 (by simp)
  have x1 : w5.cell? ⟨w.heap.size, 1, none⟩ = some (.slice ca cl cc) := X5.out.2 1 (by simp)
  have y1 : w5.cell? ⟨w.heap.size + 1, 1, none⟩ = some (.slice ca' cl cc') := Y5.out.2 1 (by simp)
  have x2 : w5.cell? ⟨w.heap.size, 2, none⟩ = some (.slice sa sl sc) := X5.out.2 2 (by simp)
  have y2 : w5.cell? ⟨w.heap.size + 1, 2, none⟩ = some (.slice sa' sl sc') := Y5.out.2 2 (by simp)
  have x3 : w5.cell? ⟨w.heap.size, 3, none⟩ = some (.slice na nl nc) := X5.out.2 3 (by simp)
  have y3 : w5.cell? ⟨w.heap.size + 1, 3, none⟩ = some (.slice na' nl nc') := Y5.out.2 3 (by simp)
  have x4 : w5.cell? ⟨w.heap.size, 4, none⟩ = some (.slice ua ul uc) := X5.out.2 4 (by simp)
  have y4 : w5.cell? ⟨w.heap.size + 1, 4, none⟩ = some (.slice ua' ul uc') := Y5.out.2 4 (by simp)
  have x5 : w5.cell? ⟨w.heap.size, 5, none⟩ = some (.slice da dl dc) := X5.out.2 5 (by simp)
  have y5 : w5.cell? ⟨w.heap.size + 1, 5, none⟩ = some (.slice da' dl dc') := Y5.out.2 5 (by simp)
  have x6 : w5.cell? ⟨w.heap.size, 6, none⟩ = some (.int .i64 fr) := X5.out.2 6 (by simp)
  have y6 : w5.cell? ⟨w.heap.size + 1, 6, none⟩ = some (.int .i64 fr) := Y5.out.2 6 (by simp)
  go_wp2_with fail
  go_ret
  exact ⟨rfl, B5.out⟩
end CatR
end Go.Proofs.YtlhghjjgpdkekaaDoor
