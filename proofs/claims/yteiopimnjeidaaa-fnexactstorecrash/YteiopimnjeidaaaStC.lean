/-
  What a crash leaves of a store: the program's StoreCrash and the model's hand back the same. The condition: the log has at most 2^20 bytes.
-/
import Derived.Test.YteiopimnjeidaaaJoin
import Derived.Test.YteiopimnjeidaaaClamp
namespace Go.Proofs.Yteiopimnjeidaaa
open Go.ChangeShapes Go.WideShapes Go.ChangeAt Go.RowKit
set_option linter.unusedVariables false
namespace StoR
/-- A store by value. -/
def st (l : ByteArray) (n : Int) : Value := .agg #[.string l, .int .i64 n]
theorem within_s (n low high : Int) (w : World) :
    Calls Try.prog 11 #[.int .i64 n, .int .i64 low, .int .i64 high] w fun e w' => e = .returned (.bool (decide (low ≤ n ∧ n ≤ high))) ∧ w' = w := by
  rcases (show (¬ low ≤ n) ∨ (low ≤ n ∧ ¬ n ≤ high) ∨ (low ≤ n ∧ n ≤ high) by omega) with h | ⟨h1, h2⟩ | ⟨h1, h2⟩
  all_goals
    go_enter Try.func11, Try.ntmps11
    go_wp2
    go_ret
    exact ⟨ret_bool (by first | (simp [*]; done) | (simp; omega)), rfl⟩
theorem is_s (n low high : Int) (w : World) :
    Calls Try.prog 9 #[.int .i64 n, .int .i64 low, .int .i64 high] w fun e w' => e = .returned (.bool (decide (low ≤ n ∧ n ≤ high))) ∧ w' = w := by
  rcases (show (¬ low ≤ n) ∨ (low ≤ n ∧ ¬ n ≤ high) ∨ (low ≤ n ∧ n ≤ high) by omega) with h | ⟨h1, h2⟩ | ⟨h1, h2⟩
  all_goals
    go_enter Try.func9, Try.ntmps9
    go_wp2
    go_ret
    exact ⟨ret_bool (by first | (simp [*]; done) | (simp; omega)), rfl⟩
theorem min_s (a b : Int) (w : World) :
    Calls Try.prog 10 #[.int .i64 a, .int .i64 b] w fun e w' => e = .returned (.int .i64 (if a < b then a else b)) ∧ w' = w := by
  by_cases h : a < b
  all_goals
    simp only [h, if_true, if_false]
    go_enter Try.func10, Try.ntmps10
    go_wp2
    go_ret
    exact ⟨rfl, rfl⟩
theorem join1c (a : ByteArray) (b : Nat) (w : World) (hb : b < w.heap.size) (hc : w.cell? ⟨b, 0, none⟩ = some (.string a)) (ht : a.size ≤ 1048576) :
    Calls Try.prog 15 #[.slice (some ⟨b, 0, none⟩) 1 1] w fun e w' => e = .returned (.string a) ∧ Below w.heap.size w w' := by
  refine (JoinR.join_any [a] b 1 _ (Nat.le_refl _) (by omega) hb (fun k h => by match k, h with | 0, _ => exact hc) (by simp [JoinR.jl]; show a.size ≤ _; omega)).mono ?_
  rintro e w' ⟨rfl, hb⟩
  exact ⟨ret_str (by unfold JoinR.joinB; simp), hb⟩
theorem synced (l : ByteArray) (w : World) (hl : l.size ≤ 1048576) :
    Calls Try.prog 14 #[.string l] w fun e w' => e = .returned (st l l.size) ∧ Below w.heap.size w w' := by
  unfold st
  go_enter Try.func14, Try.ntmps14
  go_wp2_with fail
  refine (join1c _ _ _ (by simp) (by simp [go_sem]) hl).mono ?_
  rintro e w1 ⟨rfl, hb1⟩
  obtain ⟨hcc, hff⟩ := bcell hb1
  have g0 := hb1.cell (p := ⟨w.heap.size, 0, none⟩) (by simp; omega)
  have g1 := hb1.cell (p := ⟨w.heap.size, 1, none⟩) (by simp; omega)
  have hz1 : w.heap.size < w1.heap.size := by (have hz2 := hb1.size; simp at hz2; omega)
  simp [go_sem] at g0 g1
  have HB := hid_intro (bel_alloc (bel_alloc hb1))
  clear hb1
  go_wp2
  refine bodyPost_ret (v := st l l.size) (by simp [st, results, Try.results14, go_sem, g0, g1]) rfl ⟨rfl, ?_⟩
  exact (HB.out.setCell (Nat.le_refl _) _).setCell (Nat.le_refl _) _
theorem copied (l : ByteArray) (n : Int) (w : World) (hl : l.size ≤ 1048576) :
    Calls Try.prog 12 #[st l n] w fun e w' => e = .returned (st l n) ∧ Below w.heap.size w w' := by
  unfold st
  go_enter Try.func12, Try.ntmps12
  go_wp2_with fail
  go_region_with (go_at_call 15; refine (join1c _ _ _ (by simp) (by simp [go_sem]) hl).mono ?_; rintro e w1 ⟨rfl, hb1⟩; obtain ⟨hcc, hff⟩ := bcell hb1; have hz1 : w.heap.size + 1 < w1.heap.size := (by (have hz2 := hb1.size; simp at hz2; omega)); have HB := hid_intro (bel_alloc (bel_alloc_drew (bel_alloc hb1))))
  all_goals
    go_wp2
    refine bodyPost_ret (v := st l n) (by simp [st, results, Try.results12, go_sem, hcc]) rfl ⟨rfl, ?_⟩
    exact (HB.out.setCell (Nat.le_succ _) _).setCell (Nat.le_succ _) _
/-- How many bytes are left of a log whose Synced is right. -/
def left (l : ByteArray) (n : Nat) (keep : Int) : Nat := n + (ClampR.clamp keep 0 ((l.size : Int) - n)).toNat
theorem left_le (l : ByteArray) (n : Nat) (keep : Int) (h : n ≤ l.size) : left l n keep ≤ l.size ∧ (n : Int) + ClampR.clamp keep 0 ((l.size : Int) - n) = left l n keep := by
  unfold left ClampR.clamp
  split
  · omega
  · split <;> omega
theorem impl_out (l : ByteArray) (n keep : Int) (w : World) (hl : l.size ≤ 1048576) (hn : ¬ (0 ≤ n ∧ n ≤ l.size)) :
    Calls Try.prog 7 #[st l n, .int .i64 keep] w fun e w' => e = .returned (st l n) ∧ Below w.heap.size w w' := by
  have hw := fun w => within_s n 0 l.size w
  rw [decide_eq_false hn] at hw
  have HC := hid_intro (fun w => copied l n w hl)
  unfold st at *
  go_enter Try.func7, Try.ntmps7
  go_wp2_with (first | (go_at_call 11; refine (hw _).mono ?_; rintro e w' ⟨rfl, rfl⟩) | (go_at_call 12; refine (HC.out _).mono ?_; rintro e w1 ⟨rfl, hb1⟩; obtain ⟨hcc, hff⟩ := bcell hb1; have hz1 : w.heap.size + 1 < w1.heap.size := by (have hz2 := hb1.size; simp at hz2; omega)))
  refine bodyPost_ret (v := st l n) (by simp [st, results, Try.results7, go_sem, hcc]) rfl ⟨rfl, ?_⟩
  exact ((bel_alloc (bel_alloc hb1)).setCell (Nat.le_succ _) _).setCell (Nat.le_succ _) _
theorem impl_in (l : ByteArray) (n : Nat) (keep : Int) (w : World) (hl : l.size ≤ 1048576) (hn : n ≤ l.size) :
    Calls Try.prog 7 #[st l n, .int .i64 keep] w fun e w' => e = .returned (st (l.extract 0 (left l n keep)) (left l n keep)) ∧ Below w.heap.size w w' := by
  have hw := fun w => within_s n 0 l.size w
  rw [decide_eq_true ⟨by omega, by omega⟩] at hw
  obtain ⟨h1, h2⟩ := left_le l n keep hn
  have hk := fun w => ClampR.impl_any keep 0 ((l.size : Int) - n) w
  generalize ClampR.clamp keep 0 ((l.size : Int) - n) = c at *
  generalize left l n keep = k at *
  have hsz : (l.extract 0 k).size = k := by rw [ByteArray.size_extract]; omega
  have HC := hid_intro (fun w => synced (l.extract 0 k) w (by omega))
  rw [hsz] at HC
  unfold st at *
  go_enter Try.func7, Try.ntmps7
  go_wp2_with (first | (go_at_call 11; refine (hw _).mono ?_; rintro e w' ⟨rfl, rfl⟩) | (go_at_call 13; refine (hk _).mono ?_; rintro e w' ⟨rfl, rfl⟩) | (go_at_call 14; refine (HC.out _).mono ?_; rintro e w1 ⟨rfl, hb1⟩; obtain ⟨hcc, hff⟩ := bcell hb1; have hz1 : w.heap.size + 1 < w1.heap.size := by (have hz2 := hb1.size; simp at hz2; omega)))
  refine bodyPost_ret (v := st (l.extract 0 k) k) (by simp [st, results, Try.results7, go_sem, hcc]) rfl ⟨rfl, ?_⟩
  exact ((bel_alloc (bel_alloc hb1)).setCell (Nat.le_succ _) _).setCell (Nat.le_succ _) _
theorem spec_out (l : ByteArray) (n keep : Int) (w : World) (hl : l.size ≤ 1048576) (hn : ¬ (0 ≤ n ∧ n ≤ l.size)) :
    Calls Try.prog 5 #[st l n, .int .i64 keep] w fun e w' => e = .returned (st l n) ∧ Below w.heap.size w w' := by
  have hw := fun w => is_s n 0 l.size w
  rw [decide_eq_false hn] at hw
  unfold st at *
  go_enter Try.func5, Try.ntmps5
  go_wp2_with (go_at_call 9; refine (hw _).mono ?_; rintro e w' ⟨rfl, rfl⟩)
  refine bodyPost_ret (v := st l n) (by simp [st, results, Try.results5, go_sem]) rfl ⟨rfl, ?_⟩
  repeat' first | exact Below.refl _ _ | apply Below.setCell | apply Below.alloc
  all_goals first | omega | (simp; done) | (simp; omega)
theorem spec_in (l : ByteArray) (n : Nat) (keep : Int) (w : World) (hl : l.size ≤ 1048576) (hn : n ≤ l.size) :
    Calls Try.prog 5 #[st l n, .int .i64 keep] w fun e w' => e = .returned (st (l.extract 0 (left l n keep)) (left l n keep)) ∧ Below w.heap.size w w' := by
  have hw := fun w => is_s n 0 l.size w
  rw [decide_eq_true ⟨by omega, by omega⟩] at hw
  obtain ⟨h1, h2⟩ := left_le l n keep hn
  have hm := fun w => min_s keep ((l.size : Int) - n) w
  have hk : if keep > 0 then (n : Int) + (if keep < (l.size : Int) - n then keep else (l.size : Int) - n) = left l n keep else (n : Int) = left l n keep := by
    unfold ClampR.clamp at h2
    split
    · rw [if_neg (by omega)] at h2
      split <;> split at h2 <;> omega
    · rw [← h2]; split <;> (try split) <;> omega
  generalize (if keep < (l.size : Int) - n then keep else (l.size : Int) - n) = c at *
  clear h2
  generalize left l n keep = k at *
  unfold st at *
  by_cases hp : keep > 0
  · rw [if_pos hp] at hk
    go_enter Try.func5, Try.ntmps5
    go_wp2_with (first | (go_at_call 9; refine (hw _).mono ?_; rintro e w' ⟨rfl, rfl⟩) | (go_at_call 10; refine (hm _).mono ?_; rintro e w' ⟨rfl, rfl⟩))
    refine bodyPost_ret (v := st (l.extract 0 k) k) (by simp [st, results, Try.results5, go_sem]) rfl ⟨rfl, ?_⟩
    exact ((Below.refl w.heap.size w).alloc (Nat.le_refl _) _).alloc (by simp) _
  · rw [if_neg hp] at hk
    obtain rfl : n = k := by omega
    go_enter Try.func5, Try.ntmps5
    go_wp2_with (first | (go_at_call 9; refine (hw _).mono ?_; rintro e w' ⟨rfl, rfl⟩) | (go_at_call 10; refine (hm _).mono ?_; rintro e w' ⟨rfl, rfl⟩))
    refine bodyPost_ret (v := st (l.extract 0 n) n) (by simp [st, results, Try.results5, go_sem]) rfl ⟨rfl, ?_⟩
    exact ((Below.refl w.heap.size w).alloc (Nat.le_refl _) _).alloc (by simp) _
theorem crash_both (l : ByteArray) (n keep : Int) (hl : l.size ≤ 1048576) : ∃ l' n',
    (∀ w, Calls Try.prog 5 #[st l n, .int .i64 keep] w fun e w' => e = .returned (st l' n') ∧ Below w.heap.size w w') ∧
    (∀ w, Calls Try.prog 7 #[st l n, .int .i64 keep] w fun e w' => e = .returned (st l' n') ∧ Below w.heap.size w w') := by
  by_cases hn : 0 ≤ n ∧ n ≤ l.size
  · obtain ⟨m, rfl⟩ := Int.eq_ofNat_of_zero_le hn.1
    exact ⟨_, _, fun w => spec_in l m keep w hl (by omega), fun w => impl_in l m keep w hl (by omega)⟩
  · exact ⟨l, n, fun w => spec_out l n keep w hl hn, fun w => impl_out l n keep w hl hn⟩
end StoR
end Go.Proofs.Yteiopimnjeidaaa
