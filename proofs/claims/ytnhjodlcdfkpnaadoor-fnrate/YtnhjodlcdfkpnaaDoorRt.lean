/-
  What a right meter costs, in numbers. No condition.
-/
import Derived.Test.YtnhjodlcdfkpnaaDoorCatM
import Derived.Test.YtnhjodlcdfkpnaaDoorClamp
namespace Go.Proofs.YtnhjodlcdfkpnaaDoor
open Go.RowKit
set_option linter.unusedVariables false
namespace CatR
open ClampR (clamp)
/-- The less of two, the greater of two. -/
def mn (a b : Int) : Int := if a < b then a else b
def mx (a b : Int) : Int := if a < b then b else a
/-- What costs. -/
def amt (m : Me) (u : Int) : Int := mx (u - m.f) 0
/-- The part of a tier, what the first tiers' parts cost. -/
def part (ts : List Ti) (n : Int) (i : Nat) : Int := clamp n (tA ts i) (tU ts i) - tA ts i
def ps (ts : List Ti) (n : Int) : Nat → Int
  | 0 => 0
  | k + 1 => ps ts n k + part ts n k * tP ts k
/-- All of it in one tier. -/
def wc (ts : List Ti) (n : Int) : Int := match ts.find? (fun t => decide (n ≤ t.u)) with
  | some t => n * t.p
  | none => 0
def bs (m : Me) (u : Int) : Int := bif m.wh then wc m.ts (amt m u) else ps m.ts (amt m u) m.ts.length
def rt (m : Me) (u : Int) : Int := if 0 < u then mx (bs m u) m.l else bs m u
def ltB : Int := 1000000000000
theorem part_bd {ts : List Ti} (h : TRight ts) {n : Int} (hn : 0 ≤ n) (i : Nat) (hi : i < ts.length) : 0 ≤ part ts n i ∧ part ts n i ≤ 1000000000000 ∧ part ts n i = mn n (tU ts i) - mn n (tA ts i) := by
  have h1 := h.upto i hi
  have h2 := (h.2.2.1 i hi).1
  have h3 := (h.2.2.1.rise i (by omega)).1
  unfold part clamp mn
  split <;> (try split) <;> (try split) <;> (try split) <;> omega
theorem pr_bd {ts : List Ti} (h : TRight ts) (i : Nat) (hi : i < ts.length) : 0 ≤ tP ts i ∧ tP ts i ≤ 1000000 := (h.2.2.1 i hi).2
theorem mul_bd {a p : Int} (ha : 0 ≤ a) (hp : 0 ≤ p ∧ p ≤ 1000000) : 0 ≤ a * p ∧ a * p ≤ 1000000 * a := by
  refine ⟨Int.mul_nonneg ha hp.1, ?_⟩
  have := Int.mul_le_mul_of_nonneg_left hp.2 ha
  omega
theorem ps_bd {ts : List Ti} (h : TRight ts) {n : Int} (hn : 0 ≤ n) : ∀ k, k ≤ ts.length → 0 ≤ ps ts n k ∧ ps ts n k ≤ 1000000 * mn n (tA ts k)
  | 0, _ => by simp only [ps, tA]; unfold mn; split <;> omega
  | k + 1, hk => by
    have h1 := ps_bd h hn k (by omega)
    have h2 := part_bd h hn k (by omega)
    have h3 := mul_bd h2.1 (pr_bd h k (by omega))
    have e : tA ts (k + 1) = tU ts k := rfl
    simp only [ps]
    rw [e]
    omega
theorem ps_mono {ts : List Ti} (h : TRight ts) {n : Int} (hn : 0 ≤ n) : ∀ k j, k ≤ ts.length → j ≤ k → ps ts n j ≤ ps ts n k
  | 0, j, _, hj => by obtain rfl : j = 0 := by omega
                      exact Int.le_refl _
  | k + 1, j, hk, hj => by
    by_cases e : j = k + 1
    · subst e; exact Int.le_refl _
    · have h1 := ps_mono h hn k j (by omega) (by omega)
      have h2 := part_bd h hn k (by omega)
      have h3 := mul_bd h2.1 (pr_bd h k (by omega))
      simp only [ps]
      omega
theorem ps_all {ts : List Ti} (h : TRight ts) {n : Int} (hn : 0 ≤ n ∧ n ≤ 1000000000000) (k : Nat) (hk : k ≤ ts.length) : 0 ≤ ps ts n k ∧ ps ts n k ≤ 1000000000000000000 := by
  have := ps_bd h hn.1 k hk
  have e : mn n (tA ts k) ≤ 1000000000000 := by unfold mn; split <;> omega
  omega
/-- The first tier that holds so much. -/
def At (ts : List Ti) (n : Int) (k : Nat) : Prop := k < ts.length ∧ (∀ i, i < k → tU ts i < n) ∧ n ≤ tU ts k
theorem wc_at {ts : List Ti} {n : Int} : ∀ {k : Nat}, At ts n k → wc ts n = n * tP ts k := by
  induction ts with
  | nil => intro k h; exact absurd h.1 (by simp)
  | cons t ts ih =>
    intro k h
    obtain ⟨h1, h2, h3⟩ := h
    cases k with
    | zero =>
      have e : n ≤ t.u := h3
      unfold wc
      rw [List.find?_cons_of_pos (by simpa using e)]
      rfl
    | succ k =>
      have e : t.u < n := h2 0 (by omega)
      have := ih (k := k) ⟨by simpa using h1, fun i hi => h2 (i + 1) (by omega), h3⟩
      unfold wc at this ⊢
      rw [List.find?_cons_of_neg (by simp; omega), this]
      rfl
theorem wc_bd {ts : List Ti} (h : TRight ts) {n : Int} (hn : 0 ≤ n ∧ n ≤ 1000000000000) {k : Nat} (hk : k < ts.length) : 0 ≤ n * tP ts k ∧ n * tP ts k ≤ 1000000000000000000 := by
  have := mul_bd hn.1 (pr_bd h k hk)
  omega
/-- Not all tiers are below. -/
theorem not_all {ts : List Ti} (h : TRight ts) {n : Int} (hn : n ≤ 1000000000000) {k : Nat} (hk : k ≤ ts.length) (ha : ∀ i, i < k → tU ts i < n) : k < ts.length := by
  by_cases e : k < ts.length
  · exact e
  · obtain rfl : k = ts.length := by omega
    obtain ⟨j, hj⟩ : ∃ j, ts.length = j + 1 := ⟨ts.length - 1, by have := h.1; omega⟩
    have h1 := ha j (by omega)
    have h2 := h.2.2.2
    rw [hj] at h2
    have e : tA ts (j + 1) = tU ts j := rfl
    omega
theorem at_ex {ts : List Ti} (h : TRight ts) {n : Int} (hn : n ≤ 1000000000000) : ∃ k, At ts n k := by
  have key : ∀ j, j ≤ ts.length → (∃ k, At ts n k) ∨ ∀ i, i < j → tU ts i < n := by
    intro j
    induction j with
    | zero => intro _; exact .inr (fun i hi => absurd hi (by omega))
    | succ j ih =>
      intro hj
      rcases ih (by omega) with h1 | h1
      · exact .inl h1
      · by_cases e : tU ts j < n
        · refine .inr (fun i hi => ?_)
          by_cases q : i = j
          · subst q; exact e
          · exact h1 i (by omega)
        · exact .inl ⟨j, by omega, h1, by omega⟩
  rcases key ts.length (Nat.le_refl _) with h1 | h1
  · exact h1
  · exact absurd (not_all h hn (Nat.le_refl _) h1) (by omega)
theorem amt_bd {m : Me} (hf : 0 ≤ m.f ∧ m.f ≤ 1000000000) {u : Int} (hu : 0 ≤ u ∧ u ≤ 1000000000000) : 0 ≤ amt m u ∧ amt m u ≤ 1000000000000 := by
  unfold amt mx
  split <;> omega
theorem bs_bd {m : Me} (h : MRight m) {u : Int} (hu : 0 ≤ u ∧ u ≤ 1000000000000) : 0 ≤ bs m u ∧ bs m u ≤ 1000000000000000000 := by
  obtain ⟨_, _, hf, _, ht⟩ := h
  have ha := amt_bd hf hu
  unfold bs
  cases m.wh
  · exact ps_all ht ha _ (Nat.le_refl _)
  · obtain ⟨k, hk⟩ := at_ex ht ha.2
    simp only [cond_true]
    rw [wc_at hk]
    exact wc_bd ht ha hk.1
theorem rt_bd {m : Me} (h : MRight m) {u : Int} (hu : 0 ≤ u ∧ u ≤ 1000000000000) : 0 ≤ rt m u ∧ rt m u ≤ 1000000000000000000 ∧ bs m u ≤ rt m u := by
  have h1 := bs_bd h hu
  have h2 := h.2.2.2.1
  unfold rt mx
  split <;> (try split) <;> omega
/-- What is handed back: a number and a code. -/
def rO (m : Me) (u : Int) : Int × Int := if rt m u ≤ 1000000000000000 then (rt m u, 0) else (0, 12)
def rateO (m : Me) (u : Int) : Int × Int := bif mB m && decide (0 ≤ u ∧ u ≤ 1000000000000) then rO m u else (0, 1)
theorem mB_iff {m : Me} : mB m = true ↔ MRight m := by unfold mB; exact @decide_eq_true_iff _ (MRightDec m)
end CatR
end Go.Proofs.YtnhjodlcdfkpnaaDoor
