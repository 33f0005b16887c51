/-
  Arithmetic alone: a right date comes back from its day; the next day's date. No condition.
-/
import Derived.Test.YtfnkhohommahoaaDoorMonthMath
namespace Go.Proofs.YtfnkhohommahoaaDoor
namespace DateM
theorem num_parts (y m d : Int) (h : rightB y m d = true) : ∃ k : Nat, k ≤ 2771 ∧ 12 * (y - 1970) + (m - 1) = (k : Int) ∧ num y m d = fd k + (d - 1) ∧ 1 ≤ d ∧ d ≤ md y m ∧ fd (k + 1) = fd k + md y m ∧ 1 ≤ m ∧ m ≤ 12 := by
  obtain ⟨y1, y2, m1, m2, d1, d2⟩ := (right_iff y m d).1 h
  refine ⟨(12 * (y - 1970) + (m - 1)).toNat, by omega, by omega, ?_, d1, d2, ?_, m1, m2⟩
  · have e1 : (12 * (y - 1970) + (m - 1)).toNat / 12 = (y - 1970).toNat := by omega
    have e2 : (12 * (y - 1970) + (m - 1)).toNat % 12 = (m - 1).toNat := by omega
    unfold fd num
    rw [e1, e2, show 1970 + (((y - 1970).toNat : Nat) : Int) = y by omega]
    omega
  · have e1 : (12 * (y - 1970) + (m - 1)).toNat / 12 = (y - 1970).toNat := by omega
    have e2 : (12 * (y - 1970) + (m - 1)).toNat % 12 = (m - 1).toNat := by omega
    rw [fd_succ, e1, e2, show 1970 + (((y - 1970).toNat : Nat) : Int) = y by omega, show (((m - 1).toNat : Nat) : Int) + 1 = m by omega]
theorem num_bd (y m d : Int) (h : rightB y m d = true) : 0 ≤ num y m d ∧ num y m d < ys 231 := by
  obtain ⟨k, hk, _, hn, d1, d2, hs, _, _⟩ := num_parts y m d h
  have a := fd_bd k
  have b := fd_mono (show k + 1 ≤ 2772 by omega)
  have c : fd 2772 = ys 231 := by
    unfold fd
    show ys 231 + ms _ 0 = _
    simp [ms]
  omega
theorem num_inj (y m d y' m' d' : Int) (h : rightB y m d = true) (h' : rightB y' m' d' = true) (he : num y m d = num y' m' d') : y = y' ∧ m = m' ∧ d = d' := by
  obtain ⟨k, _, e, hn, d1, d2, hs, m1, m2⟩ := num_parts y m d h
  obtain ⟨k', _, e', hn', d1', d2', hs', m1', m2'⟩ := num_parts y' m' d' h'
  have a : k ≤ k' := fd_one (d := num y m d) (by omega) (by omega)
  have b : k' ≤ k := fd_one (d := num y m d) (by omega) (by omega)
  obtain rfl : k = k' := by omega
  omega
/-- The next day's date. -/
theorem next_day (y m d y' m' d' : Int) (h : rightB y m d = true) (h' : rightB y' m' d' = true) (he : num y' m' d' = num y m d + 1) : (d' = d + 1 ∧ m' = m) ∨ (d' = 1 ∧ d = mdays y m) := by
  obtain ⟨k, _, e, hn, d1, d2, hs, m1, m2⟩ := num_parts y m d h
  obtain ⟨k', _, e', hn', d1', d2', hs', m1', m2'⟩ := num_parts y' m' d' h'
  obtain ⟨y1, y2, _, _, _, _⟩ := (right_iff y m d).1 h
  have em : mdays y m = md y m := if_pos ⟨y1, y2, m1, m2⟩
  by_cases hl : d < md y m
  · have a : k ≤ k' := fd_one (d := num y' m' d') (by omega) (by omega)
    have b : k' ≤ k := fd_one (d := num y' m' d') (by omega) (by omega)
    obtain rfl : k = k' := by omega
    left
    omega
  · have st := fd_step (k + 1)
    have a : k + 1 ≤ k' := fd_one (d := num y' m' d') (by omega) (by omega)
    have b : k' ≤ k + 1 := fd_one (d := num y' m' d') (by omega) (by omega)
    obtain rfl : k' = k + 1 := by omega
    right
    omega
end DateM
end Go.Proofs.YtfnkhohommahoaaDoor
