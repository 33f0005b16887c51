/-
  A product in parts, the program's side: kept in two words, divided, rounded. The condition: the program's own error stands in its variable.
-/
import Derived.Test.YtaihfidbpkbnkaaDoorDiv64
import Derived.Test.YtaihfidbpkbnkaaDoorParts
namespace Go.Proofs.YtaihfidbpkbnkaaDoor
open Go.ChangeShapes Go.WideShapes Go.ChangeAt Go.RowKit
set_option linter.unusedVariables false
namespace DivR
theorem len_any (x : Nat) (h0 : x ≠ 0) (hx : x < 18446744073709551616) (w : World) :
    Calls Tryd.prog 109 #[.int .u64 x] w fun e w' => (∃ n : Nat, e = .returned (.int .i64 (n : Int)) ∧ n ≤ 64 ∧ Bits x n) ∧ w' = w := by
  obtain ⟨x1, h1, b1, z1⟩ : ∃ x1 : Nat, (((¬ (4294967296 : Int) ≤ x) ∧ x1 = x) ∨ ((4294967296 : Int) ≤ x ∧ (x : Int) / 4294967296 = x1)) ∧ x1 < 4294967296 ∧ x1 ≠ 0 := by
    by_cases h : 4294967296 ≤ x
    · exact ⟨x / 4294967296, .inr ⟨by omega, by omega⟩, by omega, by omega⟩
    · exact ⟨x, .inl ⟨by omega, rfl⟩, by omega, h0⟩
  obtain ⟨x2, h2, b2, z2⟩ : ∃ x2 : Nat, (((¬ (65536 : Int) ≤ x1) ∧ x2 = x1) ∨ ((65536 : Int) ≤ x1 ∧ (x1 : Int) / 65536 = x2)) ∧ x2 < 65536 ∧ x2 ≠ 0 := by
    by_cases h : 65536 ≤ x1
    · exact ⟨x1 / 65536, .inr ⟨by omega, by omega⟩, by omega, by omega⟩
    · exact ⟨x1, .inl ⟨by omega, rfl⟩, by omega, z1⟩
  obtain ⟨x3, h3, b3, z3⟩ : ∃ x3 : Nat, (((¬ (256 : Int) ≤ x2) ∧ x3 = x2) ∨ ((256 : Int) ≤ x2 ∧ (x2 : Int) / 256 = x3)) ∧ x3 < 256 ∧ x3 ≠ 0 := by
    by_cases h : 256 ≤ x2
    · exact ⟨x2 / 256, .inr ⟨by omega, by omega⟩, by omega, by omega⟩
    · exact ⟨x2, .inl ⟨by omega, rfl⟩, by omega, z2⟩
  exact len_inner x x1 x2 x3 h1 h2 h3 (by omega) z3 w
theorem lz_num (n : Nat) (h : n ≤ 64) : wrap64 (64 - (n : Int)) = ((64 - n : Nat) : Int) := by rw [w64d (64 - (n : Int)) (by omega)]; omega
theorem lz_bits (c n : Nat) (h : n ≤ 64) (hb : Bits c n) : 64 - n ≤ 63 ∧ 9223372036854775808 ≤ c * 2 ^ (64 - n) ∧ c * 2 ^ (64 - n) < 18446744073709551616 := by
  obtain ⟨b1, b2, b3⟩ := hb
  have e1 : 2 ^ (n - 1) * 2 ^ (64 - n) = 9223372036854775808 := by rw [← Nat.pow_add, show n - 1 + (64 - n) = 63 by omega]
  have e2 : 2 ^ n * 2 ^ (64 - n) = 18446744073709551616 := by rw [← Nat.pow_add, show n + (64 - n) = 64 by omega]
  refine ⟨by omega, ?_, ?_⟩
  · rw [← e1]; exact Nat.mul_le_mul b2 (Nat.le_refl _)
  · rw [← e2]; exact Nat.mul_lt_mul_of_pos_right b3 (Nat.two_pow_pos _)
theorem bits_unique {x n m : Nat} (hn : Bits x n) (hm : Bits x m) : n = m := by
  obtain ⟨a1, a2, a3⟩ := hn
  obtain ⟨b1, b2, b3⟩ := hm
  rcases Nat.lt_trichotomy n m with h | h | h
  · have := Nat.pow_le_pow_right (n := 2) (by omega) (show n ≤ m - 1 by omega); omega
  · exact h
  · have := Nat.pow_le_pow_right (n := 2) (by omega) (show m ≤ n - 1 by omega); omega
theorem bits_is (x : Nat) (h0 : x ≠ 0) : Bits x (x.log2 + 1) := ⟨by omega, by rw [Nat.add_sub_cancel]; exact Nat.log2_self_le h0, Nat.lt_log2_self⟩
theorem bits_le (x : Nat) (h0 : x ≠ 0) (hx : x < 18446744073709551616) : x.log2 + 1 ≤ 64 := by
  have h := Nat.log2_self_le h0
  apply Nat.le_of_not_lt
  intro hl
  have := Nat.pow_le_pow_right (n := 2) (by omega) (show 64 ≤ x.log2 by omega)
  omega
theorem lz_any (c : Nat) (h0 : c ≠ 0) (hc : c < 18446744073709551616) : ∃ s : Nat, (s ≤ 63 ∧ 9223372036854775808 ≤ c * 2 ^ s ∧ c * 2 ^ s < 18446744073709551616) ∧ ∀ w, Calls Tryd.prog 102 #[.int .u64 c] w fun e w' => e = .returned (.int .i64 (s : Int)) ∧ w' = w := by
  refine ⟨64 - (c.log2 + 1), lz_bits c _ (bits_le c h0 hc) (bits_is c h0), fun w => ?_⟩
  have HL := hid_intro (len_any c h0 hc w)
  have HN := hid_intro (lz_num _ (bits_le c h0 hc))
  have HB := hid_intro (bits_is c h0)
  clear h0 hc
  go_enter Tryd.func102, Tryd.ntmps102
  go_wp2_with fail
  refine HL.out.mono ?_
  rintro e w1 ⟨⟨m, rfl, hm, hb⟩, rfl⟩
  have HM := hid_intro (bits_unique hb HB.out)
  clear hm hb
  go_wp2_with fail
  go_ret
  exact ⟨ret_int (by rw [HM.out]; exact HN.out), rfl⟩
theorem zero_facts (lo c : Nat) (hlo : lo < 18446744073709551616) (hc : 1 ≤ c) : (lo : Int).tdiv c = ((lo / c : Nat) : Int) ∧ (lo : Int).tmod c = ((lo % c : Nat) : Int) ∧ IntKind.u64.wrap ((lo / c : Nat) : Int) = ((lo / c : Nat) : Int) ∧ IntKind.u64.wrap ((lo % c : Nat) : Int) = ((lo % c : Nat) : Int) := by
  have h1 := Nat.div_le_self lo c
  have h2 := Nat.mod_le lo c
  refine ⟨?_, ?_, ukeep _ (by omega), ukeep _ (by omega)⟩
  · rw [Int.tdiv_eq_ediv_of_nonneg (by omega)]; simp
  · rw [Int.tmod_eq_emod_of_nonneg (by omega)]; simp
set_option maxRecDepth 100000 in
theorem div_zero (lo c q r : Nat) (t1 : (lo : Int).tdiv c = q) (t2 : (lo : Int).tmod c = r) (t3 : IntKind.u64.wrap (q : Int) = q) (t4 : IntKind.u64.wrap (r : Int) = r) (c0 : ((c : Int) == 0) = false) (c2 : ¬ (c : Int) = 0) (c1 : ¬ (c : Int) ≤ 0) (w : World) :
    Calls Tryd.prog 98 #[.int .u64 0, .int .u64 lo, .int .u64 c] w fun e w' => e = .returned (.tuple #[.int .u64 (q : Int), .int .u64 (r : Int)]) ∧ Below w.heap.size w w' := by
  go_enter Tryd.func98, Tryd.ntmps98
  go_wp2_with fail
  go_region
  go_wp2_with fail
  go_ret2
  exact ⟨rfl, (Below.refl _ _).drew⟩
theorem div_any (hi lo c : Nat) (hlo : lo < 18446744073709551616) (hhi : hi < c) (hc : c < 18446744073709551616) (w : World) :
    Calls Tryd.prog 98 #[.int .u64 hi, .int .u64 lo, .int .u64 c] w fun e w' => e = .returned (.tuple #[.int .u64 (((hi * 18446744073709551616 + lo) / c : Nat) : Int), .int .u64 (((hi * 18446744073709551616 + lo) % c : Nat) : Int)]) ∧ Below w.heap.size w w' := by
  by_cases h : hi = 0
  · subst h
    obtain ⟨z1, z2, z3, z4⟩ := zero_facts lo c hlo (by omega)
    rw [Nat.zero_mul, Nat.zero_add]
    exact div_zero lo c _ _ z1 z2 z3 z4 (by simp; omega) (by omega) (by omega) w
  · obtain ⟨s, ⟨s1, s2, s3⟩, hs⟩ := lz_any c (by omega) hc
    have hQ : (hi * 18446744073709551616 + lo) / c < 18446744073709551616 := by
      rw [Nat.div_lt_iff_lt_mul (by omega)]
      have : (hi + 1) * 18446744073709551616 ≤ c * 18446744073709551616 := Nat.mul_le_mul hhi (Nat.le_refl _)
      omega
    exact div_inner hi lo c s hlo hhi s1 s2 s3 hQ hs (by simp; omega) (by omega) (by simp; omega) w
end DivR
end Go.Proofs.YtaihfidbpkbnkaaDoor
