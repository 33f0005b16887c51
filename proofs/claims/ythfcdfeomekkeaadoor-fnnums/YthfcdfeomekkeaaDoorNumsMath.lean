/-
  What is put is got: the digits of a number, read where they stand, are the number; of digits that end too early nothing is got. No condition.
-/
import Derived.Test.YthfcdfeomekkeaaDoorGetMath
import Derived.Test.YthfcdfeomekkeaaDoorNum
namespace Go.Proofs.YthfcdfeomekkeaaDoor
open Go.RowKit
set_option linter.unusedVariables false
namespace NumsR
open GetR NumR
theorem digs_pos (v : Nat) : 1 ≤ (digs v).length := by
  by_cases h : v < 128
  · rw [digs_last h]; simp
  · rw [digs_more (by omega)]; simp
/-- The bytes at a place are some numbers. -/
def At (s : ByteArray) (b : Nat) (l : List Int) : Prop := ∀ k, k < l.length → ∃ h : b + k < s.size, (s[b + k].toNat : Int) = l.getD k 0
theorem At.tail {s : ByteArray} {b : Nat} {x : Int} {l : List Int} (h : At s b (x :: l)) : At s (b + 1) l := by
  intro k hk
  obtain ⟨h1, h2⟩ := h (k + 1) (by simpa using hk)
  have e : b + 1 + k = b + (k + 1) := by omega
  refine ⟨by omega, ?_⟩
  simp only [e]
  rw [h2]
  simp [List.getD]
theorem At.head {s : ByteArray} {b : Nat} {x : Int} {l : List Int} (h : At s b (x :: l)) : ∃ h : b < s.size, (s[b].toNat : Int) = x := by
  obtain ⟨h1, h2⟩ := h 0 (by simp)
  exact ⟨h1, by simpa using h2⟩
theorem pow_bd {v i : Nat} (h : v * 2 ^ (7 * i) < 18446744073709551616) (hi : i = 9) : v < 2 := by
  subst hi
  refine Nat.lt_of_not_le fun h2 => ?_
  have : 2 * 2 ^ (7 * 9) ≤ v * 2 ^ (7 * 9) := Nat.mul_le_mul_right _ h2
  omega
theorem step_sum (u v i : Nat) : u + v % 128 * 2 ^ (7 * i) + v / 128 * 2 ^ (7 * (i + 1)) = u + v * 2 ^ (7 * i) := by
  have e : 2 ^ (7 * (i + 1)) = 128 * 2 ^ (7 * i) := by rw [show 7 * (i + 1) = 7 * i + 7 from by omega, Nat.pow_add, Nat.mul_comm]
  rw [e]
  obtain ⟨q, hq⟩ : ∃ q, q = 2 ^ (7 * i) := ⟨_, rfl⟩
  rw [← hq]
  have h1 : v / 128 * (128 * q) = (128 * (v / 128)) * q := by rw [← Nat.mul_assoc, Nat.mul_comm (v / 128) 128]
  rw [h1, Nat.add_assoc, ← Nat.add_mul]
  congr 2
  omega
theorem step_le (v i : Nat) (h : v * 2 ^ (7 * i) < 18446744073709551616) : v / 128 * 2 ^ (7 * (i + 1)) < 18446744073709551616 := by
  have := step_sum 0 v i
  omega
theorem rd_digs (s : ByteArray) (p : Nat) : ∀ (f v i u : Nat), At s (p + i) (digs v) → (digs v).length ≤ f → i + f = 10 → (0 < i → 0 < v) → v * 2 ^ (7 * i) < 18446744073709551616 → rd s p f i u = (0, u + v * 2 ^ (7 * i), i + (digs v).length)
  | 0, v, i, u, _, hl, _, _, _ => by have := digs_pos v; omega
  | f + 1, v, i, u, hA, hl, hf, hi, hv => by
    by_cases h : v < 128
    · rw [digs_last h] at hA ⊢
      obtain ⟨h1, h2⟩ := hA.head
      have hc : s[p + i].toNat = v := by omega
      rw [rd_last h1 (fun ⟨e, h3⟩ => by have := pow_bd hv e; omega) (by omega) (fun ⟨e, h3⟩ => by have := hi h3; omega), hc, Nat.mod_eq_of_lt h]
      rfl
    · have h128 : 128 ≤ v := by omega
      rw [digs_more h128] at hA hl ⊢
      obtain ⟨h1, h2⟩ := hA.head
      have hc : s[p + i].toNat = v % 128 + 128 := by omega
      have h9 : i ≠ 9 := fun e => by have := pow_bd hv e; omega
      rw [rd_more h1 h9 (by omega), hc]
      have hm : (v % 128 + 128) % 128 = v % 128 := by omega
      rw [hm]
      have ih := rd_digs s p f (v / 128) (i + 1) (u + v % 128 * 2 ^ (7 * i)) hA.tail (by simpa using hl) (by omega) (fun _ => by omega) (step_le v i hv)
      rw [ih, step_sum]
      simp only [List.length_cons, Prod.mk.injEq, true_and]
      omega
/-- All digits but the last one. -/
theorem rd_cut (s : ByteArray) (p : Nat) : ∀ (f v i u : Nat), At s (p + i) ((digs v).take ((digs v).length - 1)) → s.size = p + i + ((digs v).length - 1) → (digs v).length ≤ f → i + f = 10 → v * 2 ^ (7 * i) < 18446744073709551616 → rd s p f i u = (4, 0, 0)
  | 0, v, i, u, _, _, hl, _, _ => by have := digs_pos v; omega
  | f + 1, v, i, u, hA, hs, hl, hf, hv => by
    by_cases h : v < 128
    · rw [digs_last h] at hs
      exact rd_short (by simp at hs; omega)
    · have h128 : 128 ≤ v := by omega
      have hp := digs_pos (v / 128)
      rw [digs_more h128] at hA hl hs
      simp only [List.length_cons, Nat.add_sub_cancel] at hA hl hs
      obtain ⟨n, hn⟩ : ∃ n, (digs (v / 128)).length = n + 1 := ⟨(digs (v / 128)).length - 1, by omega⟩
      rw [hn, List.take_succ_cons] at hA
      obtain ⟨h1, h2⟩ := hA.head
      have hc : s[p + i].toNat = v % 128 + 128 := by omega
      have h9 : i ≠ 9 := fun e => by have := pow_bd hv e; omega
      rw [rd_more h1 h9 (by omega)]
      refine rd_cut s p f (v / 128) (i + 1) _ ?_ (by omega) (by omega) (by omega) (step_le v i hv)
      have e : (digs (v / 128)).length - 1 = n := by omega
      rw [e]
      exact hA.tail
theorem unz_fold {n : Int} (hn : -9223372036854775808 ≤ n ∧ n ≤ 9223372036854775807) : unz (foldN n).toNat = n := by
  by_cases h : n < 0
  · rw [fold_neg h, unz_odd (by omega)]; omega
  · rw [fold_pos (by omega), unz_even (by omega)]; omega
end NumsR
end Go.Proofs.YthfcdfeomekkeaaDoor
