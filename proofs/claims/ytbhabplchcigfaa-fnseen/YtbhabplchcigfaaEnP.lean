/-
  Where an Id stands among right entries. No condition.
-/
import Derived.Test.YtbhabplchcigfaaEnR
namespace Go.Proofs.Ytbhabplchcigfaa
open Go.RowKit
set_option linter.unusedVariables false
namespace SeenR
open RowG LtR
/-- How many entries are ahead of that Id. -/
def pos (es : List N) (id : ByteArray) : Nat := (es.takeWhile (fun e => lt e.i id)).length
/-- So many entries are ahead of that Id. -/
def Ahead (es : List N) (id : ByteArray) (k : Nat) : Prop := ∀ i, i < k → lt (es.getD i N.zero).i id = true
theorem Ahead.zero (es : List N) (id : ByteArray) : Ahead es id 0 := fun i h => absurd h (by omega)
theorem Ahead.more {es : List N} {id : ByteArray} {k : Nat} (h : Ahead es id k) (h1 : lt (es.getD k N.zero).i id = true) : Ahead es id (k + 1) := by
  intro i hi
  by_cases e : i = k
  · subst e; exact h1
  · exact h i (by omega)
theorem pos_eq {es : List N} {id : ByteArray} : ∀ {k : Nat}, Ahead es id k → k ≤ es.length → (k < es.length → lt (es.getD k N.zero).i id = false) → pos es id = k := by
  unfold pos
  induction es with
  | nil => intro k _ hk _; simp at hk; simp [hk]
  | cons e es ih =>
    intro k h hk hl
    cases k with
    | zero =>
      have := hl (by simp)
      simp only [List.getD_cons_zero] at this
      simp [this]
    | succ k =>
      have h0 := h 0 (by omega)
      simp only [List.getD_cons_zero] at h0
      rw [List.takeWhile_cons, if_pos h0, List.length_cons]
      rw [ih (k := k) (fun i hi => by have := h (i + 1) (by omega); simpa using this) (by simpa using hk) (fun hlt => by have := hl (by simpa using hlt); simpa using this)]
theorem pos_le (es : List N) (id : ByteArray) : pos es id ≤ es.length := by
  unfold pos
  induction es with
  | nil => simp
  | cons e es ih =>
    rw [List.takeWhile_cons]
    split
    · simpa using ih
    · simp
/-- Is there one of that Id? -/
def hasB (es : List N) (id : ByteArray) : Bool := es.any (fun e => e.i.toList == id.toList)
theorem has_iff {es : List N} {id : ByteArray} : hasB es id = true ↔ ∃ i, i < es.length ∧ (es.getD i N.zero).i = id := by
  unfold hasB
  rw [List.any_eq_true]
  constructor
  · rintro ⟨e, he, h⟩
    obtain ⟨i, hi, rfl⟩ := List.getElem_of_mem he
    have e : es.getD i N.zero = es[i] := by simp [List.getD, hi]
    exact ⟨i, hi, by rw [e]; exact toList_inj (by simpa using h)⟩
  · rintro ⟨i, hi, h⟩
    exact ⟨_, getD_mem (z := N.zero) es i hi, by rw [h]; simp⟩
theorem rise {es : List N} (h : SRight es) : ∀ i, i < es.length → ∀ j, j < i → lt (es.getD j N.zero).i (es.getD i N.zero).i = true
  | 0, _ => fun j hj => absurd hj (by omega)
  | i + 1, hi => fun j hj => by
    have h1 := (h.2 (i + 1) hi).1
    have e : ahd es (i + 1) = (es.getD i N.zero).i := rfl
    rw [e] at h1
    by_cases q : j = i
    · subst q; exact h1
    · exact lt_trans (rise h i (by omega) j (by omega)) h1
theorem pos_at {es : List N} (h : SRight es) {i : Nat} (hi : i < es.length) {id : ByteArray} (he : (es.getD i N.zero).i = id) : pos es id = i :=
  pos_eq (fun j hj => by rw [← he]; exact rise h i hi j hj) (by omega) (fun _ => by rw [he]; exact lt_irrefl _)
theorem has_pos {es : List N} (h : SRight es) (id : ByteArray) : hasB es id = true ↔ pos es id < es.length ∧ (es.getD (pos es id) N.zero).i = id := by
  rw [has_iff]
  constructor
  · rintro ⟨i, hi, he⟩
    rw [pos_at h hi he]
    exact ⟨hi, he⟩
  · rintro ⟨h1, h2⟩
    exact ⟨_, h1, h2⟩
end SeenR
end Go.Proofs.Ytbhabplchcigfaa
