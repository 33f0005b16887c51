/-
  More of a meter costs no less, and parts of it together cost what all of it does, in numbers. No condition.
-/
import Derived.Test.YtnhjodlcdfkpnaaDoorRtK
namespace Go.Proofs.YtnhjodlcdfkpnaaDoor
open Go.RowKit
set_option linter.unusedVariables false
namespace CatR
open ClampR (clamp)
theorem part_mono {ts : List Ti} (h : TRight ts) {n n' : Int} (hn : n ≤ n') (i : Nat) (hi : i < ts.length) : part ts n i ≤ part ts n' i := by
  have h2 := (h.2.2.1 i hi).1
  unfold part clamp
  split <;> split <;> (try split) <;> (try split) <;> omega
theorem ps_more {ts : List Ti} (h : TRight ts) {n n' : Int} (hn : n ≤ n') : ∀ k, k ≤ ts.length → ps ts n k ≤ ps ts n' k
  | 0, _ => Int.le_refl _
  | k + 1, hk => by
    have h1 := ps_more h hn k (by omega)
    have h2 := part_mono h hn k (by omega)
    have h3 := Int.mul_le_mul_of_nonneg_right h2 (pr_bd h k (by omega)).1
    simp only [ps]
    omega
theorem part_nil {ts : List Ti} (h : TRight ts) (i : Nat) (hi : i < ts.length) : part ts 0 i = 0 := by
  have h2 := (h.2.2.1 i hi).1
  have h3 := (h.2.2.1.rise i (by omega)).1
  unfold part clamp
  split <;> (try split) <;> omega
theorem ps_nil {ts : List Ti} (h : TRight ts) : ∀ k, k ≤ ts.length → ps ts 0 k = 0
  | 0, _ => rfl
  | k + 1, hk => by
    simp only [ps]
    rw [ps_nil h k (by omega), part_nil h k (by omega), Int.zero_mul, Int.add_zero]
theorem rt_nil {m : Me} (h : MRight m) : rt m 0 = 0 := by
  have hf := h.2.2.1
  have ha : amt m 0 = 0 := by unfold amt mx; split <;> omega
  unfold rt
  rw [if_neg (by omega)]
  unfold bs
  rw [ha]
  cases m.wh
  · exact ps_nil h.2.2.2.2 _ (Nat.le_refl _)
  · obtain ⟨k, hk⟩ := at_ex h.2.2.2.2 (n := 0) (by omega)
    simp only [cond_true]
    rw [wc_at hk, Int.zero_mul]
theorem rate_nil {m : Me} (h : mB m = true) : rateO m 0 = (0, 0) := by
  have hr := rt_nil (mB_iff.1 h)
  unfold rateO
  rw [h, decide_eq_true (by omega), Bool.and_self, cond_true]
  unfold rO
  rw [hr, if_pos (by omega)]
theorem rt_more {m : Me} (h : MRight m) (hw : m.wh = false) {u : Int} (hu : 0 ≤ u) : rt m u ≤ rt m (u + 1) := by
  have ha : amt m u ≤ amt m (u + 1) := by unfold amt mx; split <;> split <;> omega
  have hb : bs m u ≤ bs m (u + 1) := by
    unfold bs
    rw [hw]
    exact ps_more h.2.2.2.2 ha _ (Nat.le_refl _)
  unfold rt mx
  rw [if_pos (show 0 < u + 1 by omega)]
  split <;> (try split) <;> (try split) <;> omega
theorem rate_ok {m : Me} {u : Int} (h : (rateO m u).2 = 0) : MRight m ∧ (0 ≤ u ∧ u ≤ 1000000000000) ∧ rt m u ≤ 1000000000000000 ∧ (rateO m u).1 = rt m u := by
  unfold rateO at h ⊢
  cases hm : mB m
  · rw [hm] at h; simp at h
  · cases hd : decide (0 ≤ u ∧ u ≤ 1000000000000)
    · rw [hm, hd] at h; simp at h
    · rw [hm, hd] at h
      simp only [Bool.and_self, cond_true] at h ⊢
      unfold rO at h ⊢
      by_cases hq : rt m u ≤ 1000000000000000
      · rw [if_pos hq]
        exact ⟨mB_iff.1 hm, by simpa using hd, hq, rfl⟩
      · rw [if_neg hq] at h; simp at h
theorem more_no_less {m : Me} {u : Int} (h : (rateO m u).2 = 0) (hw : m.wh = false) (h2 : (rateO m (u + 1)).2 = 0) : ¬ (rateO m (u + 1)).1 < (rateO m u).1 := by
  obtain ⟨a, b, _, e⟩ := rate_ok h
  obtain ⟨_, _, _, e2⟩ := rate_ok h2
  rw [e, e2]
  have := rt_more a hw b.1
  omega
theorem betw_ok {m : Me} {lo hi : Int} (h : (rbO m lo hi).2 = 0) : MRight m ∧ (0 ≤ lo ∧ lo ≤ hi ∧ hi ≤ 1000000000000) ∧ rt m hi ≤ 1000000000000000 ∧ rt m lo ≤ 1000000000000000 ∧ (rbO m lo hi).1 = rt m hi - rt m lo := by
  unfold rbO at h ⊢
  cases hm : mB m
  · rw [hm] at h; simp at h
  · cases h1 : uB lo
    · rw [hm, h1] at h; simp at h
    · cases h2 : uB hi
      · rw [hm, h1, h2] at h; simp at h
      · cases hd : decide (lo ≤ hi)
        · rw [hm, h1, h2, hd] at h; simp at h
        · rw [hm, h1, h2, hd] at h
          simp only [Bool.and_self, cond_true] at h ⊢
          by_cases q1 : rt m hi ≤ 1000000000000000
          · by_cases q2 : rt m lo ≤ 1000000000000000
            · rw [if_pos q1, if_pos q2]
              have a1 := uB_iff.1 h1
              have a2 := uB_iff.1 h2
              exact ⟨mB_iff.1 hm, ⟨a1.1, by simpa using hd, a2.2⟩, q1, q2, rfl⟩
            · rw [if_pos q1, if_neg q2] at h; simp at h
          · rw [if_neg q1] at h; simp at h
/-- The number in the middle. -/
def midU (lo hi : Int) : Int := lo + (hi - lo).tdiv 2
theorem parts_all {m : Me} {lo hi : Int} (h : (rbO m lo hi).2 = 0) (h1 : (rbO m lo (midU lo hi)).2 = 0) (h2 : (rbO m (midU lo hi) hi).2 = 0) : wrap64 ((rbO m lo (midU lo hi)).1 + (rbO m (midU lo hi) hi).1) = (rbO m lo hi).1 := by
  obtain ⟨a, b, c, d, e⟩ := betw_ok h
  obtain ⟨_, _, _, _, e1⟩ := betw_ok h1
  obtain ⟨_, _, _, _, e2⟩ := betw_ok h2
  have r1 := (rt_bd a (u := lo) ⟨b.1, by omega⟩).1
  have r2 := (rt_bd a (u := hi) ⟨by omega, b.2.2⟩).1
  rw [e, e1, e2]
  generalize rt m (midU lo hi) = X
  unfold wrap64
  omega
theorem mid_w {m : Me} {lo hi : Int} (h : (rbO m lo hi).2 = 0) : wrap64 (hi - lo) = hi - lo ∧ wrap64 ((hi - lo).tdiv 2) = (hi - lo).tdiv 2 ∧ wrap64 (lo + (hi - lo).tdiv 2) = midU lo hi := by
  obtain ⟨a, b, _⟩ := betw_ok h
  unfold midU
  rw [Int.tdiv_eq_ediv_of_nonneg (by omega)]
  unfold wrap64
  omega
end CatR
end Go.Proofs.YtnhjodlcdfkpnaaDoor
