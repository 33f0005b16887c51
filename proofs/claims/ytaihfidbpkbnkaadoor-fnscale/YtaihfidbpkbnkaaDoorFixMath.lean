/-
  Arithmetic alone: the division by halves, a product gathered bit by bit, which of two parts is more, the root. No condition.
-/
namespace Go.Proofs.YtaihfidbpkbnkaaDoor
namespace FixM

/-! the division by halves -/
theorem lt_scaled {u Y n : Nat} (hn : n < 4294967296) (hu : u < Y) : u * 4294967296 + n < 4294967296 * Y := by omega
theorem lt_parts {u z z' rh n : Nat} (hinv : z + rh = u) (h : rh * 4294967296 + n < z') : u * 4294967296 + n < z * 4294967296 + z' := by
  subst hinv
  rw [Nat.add_mul z rh, Nat.add_assoc (z * 4294967296)]
  exact Nat.add_lt_add_left h _
theorem knuth_lt {u y1 y0 n q rh : Nat} (hn : n < 4294967296) (hu : u < y1 * 4294967296 + y0) (hinv : q * y1 + rh = u) (hc : 4294967296 ≤ q ∨ rh * 4294967296 + n < q * y0) :
    (u * 4294967296 + n) / (y1 * 4294967296 + y0) < q := by
  have hY : 0 < y1 * 4294967296 + y0 := by omega
  refine (Nat.div_lt_iff_lt_mul hY).2 ?_
  rcases hc with h | h
  · exact Nat.lt_of_lt_of_le (lt_scaled hn hu) (Nat.mul_le_mul h (Nat.le_refl _))
  · have e : q * (y1 * 4294967296 + y0) = q * y1 * 4294967296 + q * y0 := by rw [Nat.mul_add q (y1 * 4294967296) y0, ← Nat.mul_assoc q y1]
    rw [e]
    exact lt_parts hinv h
theorem knuth_eq {u y1 y0 n q rh : Nat} (hu : u < y1 * 4294967296 + y0) (hinv : q * y1 + rh = u) (hT : (u * 4294967296 + n) / (y1 * 4294967296 + y0) ≤ q) (hc : q * y0 ≤ rh * 4294967296 + n) :
    (u * 4294967296 + n) / (y1 * 4294967296 + y0) = q := by
  have hY : 0 < y1 * 4294967296 + y0 := by omega
  apply Nat.le_antisymm hT
  rw [Nat.le_div_iff_mul_le hY, Nat.mul_add q (y1 * 4294967296) y0, ← Nat.mul_assoc q y1]
  have : q * y1 * 4294967296 = (u - rh) * 4294967296 := by rw [← hinv]; congr 1; omega
  omega
/-- at the head: the guess is not below what is sought, and no more than two beyond -/
theorem knuth_start {u y1 y0 n : Nat} (h1 : 2147483648 ≤ y1) (h0 : y0 < 4294967296) (hu : u < y1 * 4294967296 + y0) :
    u / y1 * y1 + u % y1 = u ∧ (u * 4294967296 + n) / (y1 * 4294967296 + y0) ≤ (u * 4294967296 + n) / (y1 * 4294967296) ∧ u / y1 ≤ 4294967297 := by
  refine ⟨Nat.div_add_mod' u y1, ?_, ?_⟩
  · exact Nat.div_le_div_left (by omega) (by omega)
  · apply Nat.le_of_lt_succ
    rw [Nat.div_lt_iff_lt_mul (by omega)]
    have h : Nat.succ 4294967297 * y1 = y1 * 4294967296 + 2 * y1 := by omega
    rw [h]
    omega
theorem knuth_first {u y1 y0 n : Nat} (h1 : 2147483648 ≤ y1) (hn : n < 4294967296) :
    (u * 4294967296 + n) / (y1 * 4294967296 + y0) ≤ u / y1 := by
  refine Nat.le_trans (Nat.div_le_div_left (c := y1 * 4294967296) (by omega) (by omega)) ?_
  rw [Nat.mul_comm y1 4294967296, ← Nat.div_div_eq_div_mul]
  have : (u * 4294967296 + n) / 4294967296 = u := by omega
  rw [this]
  exact Nat.le_refl _
/-- one step more -/
theorem knuth_next {q y1 rh u : Nat} (hq : 1 ≤ q) (hinv : q * y1 + rh = u) : (q - 1) * y1 + (rh + y1) = u := by
  have : q * y1 = (q - 1) * y1 + y1 := by
    obtain ⟨k, rfl⟩ : ∃ k, q = k + 1 := ⟨q - 1, by omega⟩
    rw [Nat.succ_mul]; simp
  omega
/-- the two halves together -/
theorem knuth_both {u n1 n0 y : Nat} (hy : 0 < y) :
    (u * 4294967296 + n1) / y * 4294967296 + ((u * 4294967296 + n1) % y * 4294967296 + n0) / y = (u * 18446744073709551616 + (n1 * 4294967296 + n0)) / y
    ∧ ((u * 4294967296 + n1) % y * 4294967296 + n0) % y = (u * 18446744073709551616 + (n1 * 4294967296 + n0)) % y := by
  have e : u * 18446744073709551616 + (n1 * 4294967296 + n0) = y * ((u * 4294967296 + n1) / y * 4294967296) + ((u * 4294967296 + n1) % y * 4294967296 + n0) := by
    have h := Nat.div_add_mod (u * 4294967296 + n1) y
    rw [← Nat.mul_assoc]
    generalize y * ((u * 4294967296 + n1) / y) = z at *
    omega
  rw [e]
  constructor
  · rw [Nat.mul_add_div hy]
  · rw [Nat.mul_add_mod]

/-! how often a number that is gathered bit by bit is in another one -/
theorem mul_bit (a b c k q r bit : Nat) (hc : 0 < c) (hq : q = a * (b / 2 ^ (k + 1)) / c) (hr : r = a * (b / 2 ^ (k + 1)) % c) (hb : bit = b / 2 ^ k % 2) :
    2 * q + bit * (a / c) + (2 * r + bit * (a % c)) / c = a * (b / 2 ^ k) / c ∧ (2 * r + bit * (a % c)) % c = a * (b / 2 ^ k) % c := by
  have h2 : b / 2 ^ k = 2 * (b / 2 ^ (k + 1)) + bit := by
    have : b / 2 ^ (k + 1) = b / 2 ^ k / 2 := by rw [Nat.pow_succ, Nat.div_div_eq_div_mul]
    rw [this, hb]; omega
  generalize b / 2 ^ (k + 1) = m at *
  rw [h2]
  have e : a * (2 * m + bit) = c * (2 * q + bit * (a / c)) + (2 * r + bit * (a % c)) := by
    have h3 := Nat.div_add_mod (a * m) c
    have h4 := Nat.div_add_mod a c
    rw [← hq, ← hr] at h3
    rw [Nat.mul_add, Nat.mul_left_comm, ← h3, Nat.mul_add c, Nat.mul_left_comm c 2 q, Nat.mul_left_comm c bit, Nat.mul_comm a bit]
    have : bit * a = bit * (c * (a / c)) + bit * (a % c) := by rw [← Nat.mul_add, h4]
    omega
  rw [e]
  constructor
  · rw [Nat.mul_add_div hc]
  · rw [Nat.mul_add_mod]
theorem mul_mono (a b c k : Nat) : a * (b / 2 ^ k) / c ≤ a * b / c :=
  Nat.div_le_div_right (Nat.mul_le_mul (Nat.le_refl _) (Nat.div_le_self _ _))

/-! which of two parts is more -/
theorem ratio_less {a b c d : Nat} (hb : 0 < b) (hd : 0 < d) (h : a / b < c / d) : a * d < c * b := by
  have h1 : a < (c / d) * b := by rw [← Nat.div_lt_iff_lt_mul hb]; exact h
  have h2 : (c / d) * d ≤ c := Nat.div_mul_le_self c d
  calc a * d < c / d * b * d := Nat.mul_lt_mul_of_pos_right h1 hd
    _ = c / d * d * b := Nat.mul_right_comm _ _ _
    _ ≤ c * b := Nat.mul_le_mul h2 (Nat.le_refl _)
theorem ratio_same {a b c d : Nat} (h : a / b = c / d) : (a * d : Int) - c * b = ((a % b * d : Nat) : Int) - (c % d * b : Nat) := by
  have h1 := Nat.div_add_mod a b
  have h2 := Nat.div_add_mod c d
  rw [h] at h1
  have e1 : a * d = b * (c / d) * d + a % b * d := by rw [← Nat.add_mul, h1]
  have e2 : c * b = d * (c / d) * b + c % d * b := by rw [← Nat.add_mul, h2]
  have e3 : b * (c / d) * d = d * (c / d) * b := by rw [Nat.mul_right_comm, Nat.mul_comm b d, Nat.mul_right_comm]
  have f1 : (a * d : Int) = ((a * d : Nat) : Int) := by simp
  have f2 : (c * b : Int) = ((c * b : Nat) : Int) := by simp
  rw [f1, f2, e1, e2, e3]
  omega
def sgn (x : Int) : Int := if x < 0 then -1 else if x = 0 then 0 else 1

/-! the root -/
theorem sq_le {m n r : Nat} (h : m * m ≤ n) (hr : n < (r + 1) * (r + 1)) : m ≤ r := by
  apply Nat.le_of_lt_succ
  apply Nat.lt_of_not_le
  intro h1
  have : (r + 1) * (r + 1) ≤ m * m := Nat.mul_le_mul h1 h1
  omega
theorem sq_gt {m n r : Nat} (h : n < m * m) (hr : r * r ≤ n) : r < m := by
  apply Nat.lt_of_not_le
  intro h1
  have := Nat.mul_le_mul h1 h1
  omega
theorem root_is (n : Nat) : ∃ r, r * r ≤ n ∧ n < (r + 1) * (r + 1) := by
  induction n with
  | zero => exact ⟨0, by simp, by simp⟩
  | succ n ih =>
    obtain ⟨r, h1, h2⟩ := ih
    by_cases h : (r + 1) * (r + 1) ≤ n + 1
    · refine ⟨r + 1, h, ?_⟩
      have : (r + 1 + 1) * (r + 1 + 1) = (r + 1) * (r + 1) + 2 * (r + 1) + 1 := by
        rw [Nat.add_mul, Nat.mul_add]; omega
      omega
    · exact ⟨r, by omega, by omega⟩
/-! the product that stays in -/
theorem prod_in {a b M : Nat} (ha : 0 < a) : b ≤ M / a ↔ a * b ≤ M := by
  rw [Nat.le_div_iff_mul_le ha, Nat.mul_comm]
end FixM
end Go.Proofs.YtaihfidbpkbnkaaDoor
