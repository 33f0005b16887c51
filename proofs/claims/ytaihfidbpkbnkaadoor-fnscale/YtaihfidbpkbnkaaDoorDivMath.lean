/-
  Arithmetic under math/bits.Div64: each step in a word, as a plain number. No condition.
-/
import Derived.Test.YtaihfidbpkbnkaaDoorLen64
import Derived.Test.YtaihfidbpkbnkaaDoorFixMath
namespace Go.Proofs.YtaihfidbpkbnkaaDoor
open Go.RowKit
set_option linter.unusedVariables false
namespace DivR
theorem uw (n : Int) : IntKind.u64.wrap n = n % 18446744073709551616 := by simp [IntKind.wrap, IntKind.bits, IntKind.signed]
theorem ukeep (n : Nat) (h : n < 18446744073709551616) : IntKind.u64.wrap (n : Int) = n := MulR.keep n h
theorem ucut (n : Nat) : IntKind.u64.wrap (n : Int) = ((n % 18446744073709551616 : Nat) : Int) := MulR.cut n
theorem umul (a b : Nat) : IntKind.u64.wrap ((a : Int) * (b : Int)) = ((a * b % 18446744073709551616 : Nat) : Int) := by rw [← Int.natCast_mul]; exact ucut _
theorem uadd (a b : Nat) : IntKind.u64.wrap ((a : Int) + (b : Int)) = (((a + b) % 18446744073709551616 : Nat) : Int) := by rw [← Int.natCast_add]; exact ucut _
theorem usub (a b c : Nat) (h : (a : Int) - b = c) (hc : c < 18446744073709551616) : IntKind.u64.wrap ((a : Int) - (b : Int)) = (c : Int) := by rw [h]; exact ukeep c hc
theorem usubm (A B c : Nat) (hc : c < 18446744073709551616) (h : B + c = A) : IntKind.u64.wrap (((A % 18446744073709551616 : Nat) : Int) - ((B % 18446744073709551616 : Nat) : Int)) = (c : Int) := by
  rw [uw]; omega
/-- The start of a guess. -/
theorem start (u y1 : Nat) (hu : u < 18446744073709551616) (hy : 1 ≤ y1) : ∃ q m r : Nat, q = u / y1 ∧ r = u % y1 ∧ (u : Int).tdiv y1 = q ∧ IntKind.u64.wrap (q : Int) = q ∧ IntKind.u64.wrap ((q : Int) * y1) = m ∧ IntKind.u64.wrap ((u : Int) - m) = r := by
  have h1 := Nat.div_le_self u y1
  have h2 := Nat.div_add_mod' u y1
  have h3 := Nat.mod_le u y1
  refine ⟨u / y1, u / y1 * y1 % 18446744073709551616, u % y1, rfl, rfl, ?_, ukeep _ (by omega), umul _ _, ?_⟩
  · rw [Int.tdiv_eq_ediv_of_nonneg (by omega)]; simp
  · generalize u / y1 * y1 = m at *
    generalize u % y1 = r at *
    have hm : m < 18446744073709551616 := by omega
    rw [Nat.mod_eq_of_lt hm]
    exact usub _ _ _ (by omega) (by omega)
/-- What stands at the head of a guess's loop. -/
def Inv (u y1 y n q r : Nat) : Prop := q * y1 + r = u ∧ (u * 4294967296 + n) / y ≤ q ∧ q ≤ 4294967297 ∧ r < 4294967296
def Down (u y1 y n q r : Nat) : Prop := ∃ q' r' : Nat, IntKind.u64.wrap ((q : Int) - 1) = q' ∧ IntKind.u64.wrap ((r : Int) + y1) = r' ∧ ((((4294967296 : Int) ≤ r') ∧ Hid ((u * 4294967296 + n) / y = q')) ∨ ((¬ (4294967296 : Int) ≤ r') ∧ Hid (Inv u y1 y n q' r' ∧ q' < q)))
theorem down (u y1 y0 y n q r : Nat) (hy : y = y1 * 4294967296 + y0) (h1 : 2147483648 ≤ y1) (h1' : y1 < 4294967296) (h0 : y0 < 4294967296) (hn : n < 4294967296) (hu : u < y) (hI : Inv u y1 y n q r) (hc : 4294967296 ≤ q ∨ r * 4294967296 + n < q * y0) : Down u y1 y n q r := by
  obtain ⟨i1, i2, i3, i4⟩ := hI
  have hl : (u * 4294967296 + n) / y < q := by rw [hy] at hu ⊢; exact FixM.knuth_lt hn hu i1 hc
  have hq1 : 1 ≤ q := Nat.lt_of_le_of_lt (Nat.zero_le _) hl
  have hnx := FixM.knuth_next hq1 i1
  refine ⟨q - 1, r + y1, usub q 1 (q - 1) (by omega) (by omega), ?_, ?_⟩
  · rw [uadd, Nat.mod_eq_of_lt (by omega)]
  · by_cases hb : 4294967296 ≤ r + y1
    · refine .inl ⟨by omega, ?_⟩
      show (u * 4294967296 + n) / y = q - 1
      have hle : (u * 4294967296 + n) / y ≤ q - 1 := by omega
      rw [hy] at hu hle ⊢
      refine FixM.knuth_eq hu hnx hle ?_
      have e1 : (q - 1) * y0 ≤ 4294967296 * y0 := Nat.mul_le_mul (by omega) (Nat.le_refl _)
      have e2 : 4294967296 * y0 ≤ 4294967296 * (r + y1) := Nat.mul_le_mul (Nat.le_refl _) (by omega)
      rw [Nat.mul_comm (r + y1)]
      exact Nat.le_trans e1 (Nat.le_trans e2 (Nat.le_add_right _ _))
    · exact .inr ⟨by omega, ⟨hnx, by omega, by omega, by omega⟩, by omega⟩
/-- One look at the guess. -/
def Round (u y1 y0 y n q r : Nat) : Prop := ((4294967296 : Int) ≤ q ∧ Down u y1 y n q r) ∨ ((¬ (4294967296 : Int) ≤ q) ∧ ∃ g h i : Nat, IntKind.u64.wrap ((q : Int) * y0) = g ∧ IntKind.u64.wrap (4294967296 * (r : Int)) = h ∧ IntKind.u64.wrap ((h : Int) + n) = i ∧ (((i : Int) < g ∧ Down u y1 y n q r) ∨ ((¬ (i : Int) < g) ∧ Hid ((u * 4294967296 + n) / y = q))))
theorem round (u y1 y0 y n q r : Nat) (hy : y = y1 * 4294967296 + y0) (h1 : 2147483648 ≤ y1) (h1' : y1 < 4294967296) (h0 : y0 < 4294967296) (hn : n < 4294967296) (hu : u < y) (hI : Inv u y1 y n q r) : Round u y1 y0 y n q r := by
  by_cases hq : 4294967296 ≤ q
  · exact .inl ⟨by omega, down u y1 y0 y n q r hy h1 h1' h0 hn hu hI (.inl hq)⟩
  · have hp : q * y0 ≤ 4294967295 * 4294967295 := Nat.mul_le_mul (by omega) (by omega)
    have hr := hI.2.2.2
    refine .inr ⟨by omega, q * y0, r * 4294967296, r * 4294967296 + n, ?_, ?_, ?_, ?_⟩
    · rw [umul, Nat.mod_eq_of_lt (by omega)]
    · rw [show (4294967296 : Int) * (r : Int) = ((r * 4294967296 : Nat) : Int) by omega]
      exact ukeep _ (by omega)
    · rw [uadd, Nat.mod_eq_of_lt (by omega)]
    · by_cases hc : r * 4294967296 + n < q * y0
      · exact .inl ⟨by omega, down u y1 y0 y n q r hy h1 h1' h0 hn hu hI (.inr hc)⟩
      · refine .inr ⟨by omega, ?_⟩
        show (u * 4294967296 + n) / y = q
        have hle := hI.2.1
        have hi := hI.1
        rw [hy] at hu hle ⊢
        exact FixM.knuth_eq hu hi hle (by omega)
theorem inv_start (u y1 y0 y n : Nat) (hy : y = y1 * 4294967296 + y0) (h1 : 2147483648 ≤ y1) (h1' : y1 < 4294967296) (h0 : y0 < 4294967296) (hn : n < 4294967296) (hu : u < y) : Inv u y1 y n (u / y1) (u % y1) := by
  rw [hy] at hu ⊢
  obtain ⟨a, b, c⟩ := FixM.knuth_start (n := n) h1 h0 hu
  have := Nat.mod_lt u (show 0 < y1 by omega)
  exact ⟨a, FixM.knuth_first h1 hn, c, by omega⟩
/-- Between the two guesses. -/
theorem mid (u y n q : Nat) (hy : y < 18446744073709551616) (hy0 : 0 < y) (hq : (u * 4294967296 + n) / y = q) : ∃ g1 g2 g3 u2 : Nat, IntKind.u64.wrap ((u : Int) * 4294967296) = g1 ∧ IntKind.u64.wrap ((g1 : Int) + n) = g2 ∧ IntKind.u64.wrap ((q : Int) * y) = g3 ∧ IntKind.u64.wrap ((g2 : Int) - g3) = u2 ∧ u2 = (u * 4294967296 + n) % y ∧ u2 < y := by
  have hm := Nat.mod_lt (u * 4294967296 + n) hy0
  have hd := Nat.div_add_mod' (u * 4294967296 + n) y
  rw [hq] at hd
  refine ⟨u * 4294967296 % 18446744073709551616, (u * 4294967296 + n) % 18446744073709551616, q * y % 18446744073709551616, (u * 4294967296 + n) % y, umul u 4294967296, ?_, umul q y, ?_, rfl, hm⟩
  · rw [uadd, Nat.mod_add_mod]
  · exact usubm _ _ _ (by omega) hd
/-- The end. -/
theorem fin (u2 y n q1 q0 s c Q R : Nat) (hy : y < 18446744073709551616) (hy0 : 0 < y) (hq : (u2 * 4294967296 + n) / y = q0) (hQ : Q < 18446744073709551616) (hQ' : q1 * 4294967296 + q0 = Q) (hR : (u2 * 4294967296 + n) % y = R * 2 ^ s) : ∃ a1 a2 a3 a4 a5 : Nat, IntKind.u64.wrap ((q1 : Int) * 4294967296) = a1 ∧ IntKind.u64.wrap ((a1 : Int) + q0) = Q ∧ IntKind.u64.wrap ((u2 : Int) * 4294967296) = a2 ∧ IntKind.u64.wrap ((a2 : Int) + n) = a3 ∧ IntKind.u64.wrap ((q0 : Int) * y) = a4 ∧ IntKind.u64.wrap ((a3 : Int) - a4) = a5 ∧ (a5 : Int) / 2 ^ s = R := by
  obtain ⟨g1, g2, g3, v, e1, e2, e3, e4, e5, e6⟩ := mid u2 y n q0 hy hy0 hq
  refine ⟨q1 * 4294967296, g1, g2, g3, v, ?_, ?_, e1, e2, e3, e4, ?_⟩
  · have := umul q1 4294967296
    rw [Nat.mod_eq_of_lt (by omega)] at this
    exact this
  · rw [uadd, hQ', Nat.mod_eq_of_lt hQ]
  · rw [e5, hR]
    have hp : ((2 : Int) ^ s) = ((2 ^ s : Nat) : Int) := by simp
    rw [hp, ← Int.natCast_ediv, Nat.mul_div_cancel _ (Nat.two_pow_pos s)]
/-- Ahead of the first guess: the divisor's top bit is set, and the number goes along. -/
theorem prep (hi lo c s : Nat) (hlo : lo < 18446744073709551616) (hhi : hi < c) (hs : s ≤ 63) (hy1 : 9223372036854775808 ≤ c * 2 ^ s) (hy2 : c * 2 ^ s < 18446744073709551616) :
    ∃ y t h' ls u n10 y1 y0 n1 n0 : Nat, IntKind.u64.wrap (s : Int) = s ∧ min s 64 = s ∧ IntKind.u64.wrap ((c : Int) * 2 ^ s) = y ∧ IntKind.u64.wrap ((hi : Int) * 2 ^ s) = h' ∧ IntKind.u64.wrap (64 - (s : Int)) = t ∧ min t 64 = t ∧ (lo : Int) / 2 ^ t = ls ∧ bits .or .u64 (h' : Int) (ls : Int) = u ∧ IntKind.u64.wrap ((lo : Int) * 2 ^ s) = n10 ∧ (y : Int) / 4294967296 = y1 ∧ bits .and .u64 (y : Int) 4294967295 = y0 ∧ (n10 : Int) / 4294967296 = n1 ∧ bits .and .u64 (n10 : Int) 4294967295 = n0 ∧ (¬ (y1 : Int) = 0)
      ∧ Hid (y = c * 2 ^ s ∧ y = y1 * 4294967296 + y0 ∧ 2147483648 ≤ y1 ∧ y1 < 4294967296 ∧ y0 < 4294967296 ∧ n1 < 4294967296 ∧ n0 < 4294967296 ∧ u < y ∧ u * 18446744073709551616 + (n1 * 4294967296 + n0) = (hi * 18446744073709551616 + lo) * 2 ^ s) := by
  have hp : ((2 : Int) ^ s) = ((2 ^ s : Nat) : Int) := by simp
  have hpt : ((2 : Int) ^ (64 - s)) = ((2 ^ (64 - s) : Nat) : Int) := by simp
  have hpp : 2 ^ (64 - s) * 2 ^ s = 18446744073709551616 := by rw [← Nat.pow_add, show 64 - s + s = 64 by omega]
  have h2 : 0 < 2 ^ s := Nat.two_pow_pos s
  have h3 : 0 < 2 ^ (64 - s) := Nat.two_pow_pos _
  have hh : (hi + 1) * 2 ^ s ≤ c * 2 ^ s := Nat.mul_le_mul hhi (Nat.le_refl _)
  rw [Nat.succ_mul] at hh
  have hls : lo / 2 ^ (64 - s) < 2 ^ s := by
    rw [Nat.div_lt_iff_lt_mul h3, Nat.mul_comm, hpp]; exact hlo
  have hsum : lo * 2 ^ s = lo / 2 ^ (64 - s) * 18446744073709551616 + lo * 2 ^ s % 18446744073709551616 := by
    have hd := Nat.div_add_mod' (lo * 2 ^ s) 18446744073709551616
    have : lo * 2 ^ s / 18446744073709551616 = lo / 2 ^ (64 - s) := by
      rw [← hpp, Nat.mul_div_mul_right _ _ h2]
    rw [this] at hd
    exact hd.symm
  have hN : (hi * 18446744073709551616 + lo) * 2 ^ s = hi * 2 ^ s * 18446744073709551616 + lo * 2 ^ s := by
    rw [Nat.add_mul, Nat.mul_right_comm]
  have hm := Nat.mod_lt (lo * 2 ^ s) (show 0 < 18446744073709551616 by omega)
  have hor : hi * 2 ^ s ||| lo / 2 ^ (64 - s) = hi * 2 ^ s + lo / 2 ^ (64 - s) := by
    rw [Nat.mul_comm hi, Nat.two_pow_add_eq_or_of_lt hls hi]
  refine ⟨c * 2 ^ s, 64 - s, hi * 2 ^ s, lo / 2 ^ (64 - s), hi * 2 ^ s + lo / 2 ^ (64 - s), lo * 2 ^ s % 18446744073709551616, c * 2 ^ s / 4294967296, c * 2 ^ s % 4294967296, lo * 2 ^ s % 18446744073709551616 / 4294967296, lo * 2 ^ s % 18446744073709551616 % 4294967296, ukeep s (by omega), by omega, ?_, ?_, ?_, by omega, ?_, ?_, ?_, ?_, MulR.low32 _ hy2, ?_, MulR.low32 _ hm, ?_, ?_⟩
  · rw [hp, umul, Nat.mod_eq_of_lt hy2]
  · rw [hp, umul, Nat.mod_eq_of_lt (by omega)]
  · rw [show (64 : Int) - (s : Int) = ((64 - s : Nat) : Int) by omega]; exact ukeep _ (by omega)
  · rw [hpt, ← Int.natCast_ediv]
  · have := bits_or_u64_nat (hi * 2 ^ s) (lo / 2 ^ (64 - s)) (by omega) (by have := Nat.div_le_self lo (2 ^ (64 - s)); omega)
    rw [this, hor]
  · rw [hp, umul]
  · exact MulR.high32 _
  · exact MulR.high32 _
  · omega
  · refine ⟨rfl, ?_, ?_, ?_, ?_, ?_, ?_, ?_, ?_⟩
    · omega
    · omega
    · omega
    · omega
    · omega
    · omega
    · omega
    · rw [hN, hsum, Nat.add_mul]
      generalize lo * 2 ^ s % 18446744073709551616 = m at *
      omega
end DivR
end Go.Proofs.YtaihfidbpkbnkaaDoor
