/-
  Within 91 days there is a day of the week that is not among at most 60 days that rise. No condition.
-/
import Derived.Test.YtaihfidbpkbnkaaNextOpen
namespace Go.Proofs.Ytaihfidbpkbnkaa
namespace DateR
/-- How many working days lie among the m days from d on. -/
def work (d : Int) : Nat → Nat
  | 0 => 0
  | m + 1 => work d m + if (d + (m : Int) + 3) % 7 < 5 then 1 else 0
theorem work_week (d : Int) (m : Nat) : work d (m + 7) = work d m + 5 := by
  simp only [work]
  have e : ∀ j : Nat, ((m + j : Nat) : Int) = (m : Int) + j := fun j => by omega
  obtain ⟨r, hr⟩ : ∃ r, r = (d + (m : Int) + 3) % 7 := ⟨_, rfl⟩
  have h0 : 0 ≤ r ∧ r < 7 := by omega
  rcases (show r = 0 ∨ r = 1 ∨ r = 2 ∨ r = 3 ∨ r = 4 ∨ r = 5 ∨ r = 6 by omega) with h | h | h | h | h | h | h
  all_goals
    have hs : ∀ j : Nat, j < 7 → (((d + ((m + j : Nat) : Int) + 3) % 7 < 5) ↔ ((r + j) % 7 < 5)) := fun j hj => by omega
    have s0 := hs 0 (by omega)
    have s1 := hs 1 (by omega)
    have s2 := hs 2 (by omega)
    have s3 := hs 3 (by omega)
    have s4 := hs 4 (by omega)
    have s5 := hs 5 (by omega)
    have s6 := hs 6 (by omega)
    simp only [Nat.add_zero] at s0
    simp only [s0, s1, s2, s3, s4, s5, s6, h]
    rfl
theorem work_weeks (d : Int) (t : Nat) : work d (7 * t) = 5 * t := by
  induction t with
  | zero => rfl
  | succ t ih => rw [Nat.mul_succ, work_week, ih]; omega
theorem okB_at (zs : List Int) (n i : Nat) (h : okB zs n = true) (hi : i < n) : stepB zs i = true := by
  unfold okB at h
  rw [List.all_eq_true] at h
  exact h i (List.mem_range.2 hi)
theorem rises (zs : List Int) (n : Nat) (h : okB zs n = true) (i : Nat) (hi : i + 1 < n) : zs.getD i 0 < zs.getD (i + 1) 0 := by
  have := okB_at zs n (i + 1) h hi
  unfold stepB at this
  simp only [Bool.and_eq_true, Bool.or_eq_true, decide_eq_true_eq] at this
  rcases this.2 with h | h
  · omega
  · simpa using h
theorem rises_far (zs : List Int) (n : Nat) (h : okB zs n = true) (i j : Nat) (hij : i ≤ j) (hj : j < n) : zs.getD i 0 ≤ zs.getD j 0 := by
  induction j with
  | zero => obtain rfl : i = 0 := by omega
            exact Int.le_refl _
  | succ j ih =>
    by_cases e : i = j + 1
    · subst e; exact Int.le_refl _
    · have h1 := ih (by omega) (by omega)
      have h2 := rises zs n h j hj
      omega
theorem work_in (zs : List Int) (d : Int) (h : okB zs zs.length = true) (m : Nat) (hall : ∀ j : Nat, j < m → (d + (j : Int) + 3) % 7 < 5 → d + (j : Int) ∈ zs) :
    work d m ≤ zs.length ∧ (0 < work d m → zs.getD (work d m - 1) 0 < d + (m : Int)) := by
  induction m with
  | zero => exact ⟨by simp [work], fun h => by simp [work] at h⟩
  | succ m ih =>
    obtain ⟨h1, h2⟩ := ih (fun j hj => hall j (by omega))
    simp only [work]
    by_cases hw : (d + (m : Int) + 3) % 7 < 5
    · rw [if_pos hw]
      obtain ⟨i, hi, e⟩ := List.getElem_of_mem (hall m (by omega) hw)
      have e2 : zs.getD i 0 = d + (m : Int) := by rw [getD_at zs i hi]; exact e
      have hge : work d m ≤ i := by
        apply Nat.le_of_not_lt
        intro hlt
        have := h2 (by omega)
        have := rises_far zs zs.length h i (work d m - 1) (by omega) (by omega)
        omega
      refine ⟨by omega, fun _ => ?_⟩
      rw [Nat.add_sub_cancel]
      have := rises_far zs zs.length h (work d m) i hge hi
      omega
    · rw [if_neg hw, Nat.add_zero]
      refine ⟨h1, fun h0 => ?_⟩
      have := h2 h0
      omega
theorem free_week (a : Int) (zs : List Int) (ha : 0 ≤ a ∧ a ≤ 100000) (h : isFreeB a zs = true) (hw : (a + 3) % 7 < 5) : a ∈ zs := by
  unfold isFreeB at h
  have : wd a = (a + 3) % 7 := if_pos ha
  rw [this] at h
  simp only [Bool.or_eq_true, decide_eq_true_eq] at h
  rcases h with h | h
  · exact h
  · omega
/-- The next open day is near. -/
theorem near (zs : List Int) (d N : Int) (hd : 0 ≤ d) (hf : freeB zs = true) (hN : First (fun a => isFreeB a zs) d N) (hN2 : N ≤ 100000) : N - d ≤ 91 := by
  unfold freeB at hf
  simp only [Bool.and_eq_true, decide_eq_true_eq] at hf
  obtain ⟨h1, h2, h3, _⟩ := hN
  apply Int.le_of_not_gt
  intro h
  have key := work_in zs d hf.2 91 (fun j hj hw => free_week _ zs ⟨by omega, by omega⟩ (h3 (d + (j : Int)) (by omega) (by omega)) hw)
  have := work_weeks d 13
  have : work d 91 = 65 := this
  omega
end DateR
end Go.Proofs.Ytaihfidbpkbnkaa
