/-
  The program's product, whether it runs over or not. The condition: the program's own error stands in its variable.
-/
import Derived.Test.YtnhjodlcdfkpnaaDoorReckon
namespace Go.Proofs.YtnhjodlcdfkpnaaDoor
open Go.ChangeShapes Go.WideShapes Go.ChangeAt Go.RowKit
set_option linter.unusedVariables false
namespace FixR
theorem w64t (x : Int) (h : -9223372036854775808 ≤ x ∧ x ≤ 9223372036854775807) : wrap64 x = x := by unfold wrap64; omega
/-- The size of a number. -/
def abs (a : Int) : Int := if a < 0 then -a else a
theorem abs_bd (a : Int) (h : In a) (h0 : a ≠ 0) : 1 ≤ abs a ∧ abs a ≤ 1000000000000000 := by unfold abs; unfold In at h; split <;> omega
theorem most_bd (s : Int) (h : 1 ≤ s) : 0 ≤ (1000000000000000 : Int).tdiv s ∧ (1000000000000000 : Int).tdiv s ≤ 1000000000000000 := by
  rw [Int.tdiv_eq_ediv_of_nonneg (by omega)]
  constructor
  · exact Int.ediv_nonneg (by omega) (by omega)
  · apply Int.ediv_le_of_le_mul (by omega)
    have := Int.mul_le_mul_of_nonneg_left h (show (0 : Int) ≤ 1000000000000000 by omega)
    omega
theorem le_most (b s : Int) (h : 1 ≤ s) : b ≤ (1000000000000000 : Int).tdiv s ↔ b * s ≤ 1000000000000000 := by
  rw [Int.tdiv_eq_ediv_of_nonneg (by omega)]
  exact Int.le_ediv_iff_mul_le (by omega)
theorem in_prod (a b : Int) (h0 : a ≠ 0) (ha : In a) : In (a * b) ↔ (-(1000000000000000 : Int).tdiv (abs a) ≤ b ∧ b ≤ (1000000000000000 : Int).tdiv (abs a)) := by
  have h1 := (abs_bd a ha h0).1
  have e1 := le_most b (abs a) h1
  have e2 := le_most (-b) (abs a) h1
  have e3 : -(1000000000000000 : Int).tdiv (abs a) ≤ b ↔ -b ≤ (1000000000000000 : Int).tdiv (abs a) := by omega
  rw [e3, e1, e2]
  unfold In abs
  by_cases h : a < 0
  · rw [if_pos h]
    have f1 : b * -a = -(a * b) := by rw [Int.mul_neg, Int.mul_comm]
    have f2 : -b * -a = a * b := by rw [Int.neg_mul_neg, Int.mul_comm]
    rw [f1, f2]; omega
  · rw [if_neg h]
    have f1 : b * a = a * b := Int.mul_comm _ _
    have f2 : -b * a = -(a * b) := by rw [Int.neg_mul, Int.mul_comm]
    rw [f1, f2]; omega
theorem prod_facts (a b : Int) (h0 : a ≠ 0) (ha : In a) : ∃ s m : Int, s = abs a ∧ (1000000000000000 : Int).tdiv s = m ∧ ¬ s = 0 ∧ wrap64 m = m ∧ wrap64 (-m) = -m ∧ (In (a * b) ↔ (-m ≤ b ∧ b ≤ m)) := by
  have hs := (abs_bd a ha h0).1
  have hm := most_bd _ hs
  refine ⟨_, _, rfl, rfl, ?_, w64t _ ⟨?_, ?_⟩, w64t _ ⟨?_, ?_⟩, in_prod a b h0 ha⟩ <;> omega
theorem sizeOf_any (a : Int) (h : In a) (w : World) :
    Calls Tryd.prog 57 #[.int .i64 a] w fun e w' => e = .returned (.int .i64 (abs a)) ∧ w' = w := by
  have e : wrap64 (-a) = -a := w64t _ (by unfold In at h; omega)
  unfold abs
  clear h
  by_cases h : a < 0
  · rw [if_pos h]
    have h2 : -a > a := by omega
    go_enter Tryd.func57, Tryd.ntmps57
    go_wp2
    go_ret
    refine ⟨ret_int ?_, rfl⟩
    first | rfl | (split <;> omega) | omega
  · rw [if_neg h]
    have h2 : ¬ -a > a := by omega
    go_enter Tryd.func57, Tryd.ntmps57
    go_wp2
    go_ret
    refine ⟨ret_int ?_, rfl⟩
    first | rfl | (split <;> omega) | omega
set_option maxHeartbeats 4000000 in
theorem product_in (a b : Int) (ha : In a) (hb : In b) (hv : In (a * b)) (w : World) :
    Calls Tryd.prog 55 #[.int .i64 a, .int .i64 b] w fun e w' => e = .returned (.int .i64 (a * b)) ∧ w' = w := by
  by_cases h0 : a = 0
  · subst h0
    rw [Int.zero_mul]
    go_enter Tryd.func55, Tryd.ntmps55
    go_wp2
    go_ret
    exact ⟨rfl, rfl⟩
  · have hz : (a == 0) = false := by simpa using h0
    have hq := fun w => sizeOf_any a ha w
    obtain ⟨s, m, hs, ht, hs0, e1, e2, hi⟩ := prod_facts a b h0 ha
    rw [← hs] at hq
    have hd := fun w => held_in b (-m) m (hi.1 hv) w
    have e3 : wrap64 (a * b) = a * b := w64t _ (by unfold In at hv; omega)
    clear hv ha hb hs hi
    go_enter Tryd.func55, Tryd.ntmps55
    go_wp2_with (first | (go_at_call 57; refine (hq _).mono ?_; rintro e w1 ⟨rfl, rfl⟩) | (go_at_call 52; refine (hd _).mono ?_; rintro e w2 ⟨rfl, rfl⟩))
    go_ret
    exact ⟨ret_int e3, rfl⟩
set_option maxHeartbeats 4000000 in
theorem product_over (a b : Int) (ha : In a) (hb : In b) (hv : ¬ In (a * b)) (w : World) (hL : Laid w) :
    Calls Tryd.prog 55 #[.int .i64 a, .int .i64 b] w fun e w' => Thrown e ∧ w' = w := by
  by_cases h0 : a = 0
  · subst h0
    rw [Int.zero_mul] at hv
    exact absurd (show In 0 by unfold In; omega) hv
  · have hz : (a == 0) = false := by simpa using h0
    have hq := fun w => sizeOf_any a ha w
    obtain ⟨s, m, hs, ht, hs0, e1, e2, hi⟩ := prod_facts a b h0 ha
    rw [← hs] at hq
    have hn : b < -m ∨ m < b := by have := mt hi.2 hv; omega
    have hd := held_out b (-m) m hn w hL
    clear hv ha hb hs hL hi hn
    go_enter Tryd.func55, Tryd.ntmps55
    go_wp2_with (first | (go_at_call 57; refine (hq _).mono ?_; rintro e w1 ⟨rfl, rfl⟩) | (go_at_call 52; refine hd.mono ?_; rintro e w2 ⟨⟨u, x, rfl⟩, rfl⟩))
    exact ⟨rfl, ⟨u, x, rfl⟩, rfl⟩
end FixR
end Go.Proofs.YtnhjodlcdfkpnaaDoor
