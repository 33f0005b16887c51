/-
  Two lists that rise, laid into one: two at a time, or one by one; the same list. The conditions are named: what is smaller is so of what comes behind, too.
-/
import Derived.Test.YtmeemmbpkjfleaaDoorWdM
namespace Go.Proofs.YtmeemmbpkjfleaaDoor
open Go.ChangeShapes Go.WideShapes Go.ChangeAt Go.RowKit
set_option linter.unusedVariables false
namespace WinR
section
variable {α : Type} (lt : α → α → Bool) (f : α → α → α)
/-- Two at a time. -/
def mrg : List α → List α → List α
  | [], ys => ys
  | x :: xs, [] => x :: xs
  | x :: xs, y :: ys => if lt x y then x :: mrg xs (y :: ys) else if lt y x then y :: mrg (x :: xs) ys else f x y :: mrg xs ys
termination_by a b => a.length + b.length
/-- One put in its place. -/
def ins : List α → α → List α
  | [], y => [y]
  | x :: xs, y => if lt x y then x :: ins xs y else if lt y x then y :: x :: xs else f x y :: xs
/-- Each is smaller than the next. -/
def Rs : List α → Prop
  | [] => True
  | [_] => True
  | x :: y :: l => lt x y = true ∧ Rs (y :: l)
theorem mrg_nil (a : List α) : mrg lt f a [] = a := by cases a <;> simp [mrg]
theorem mrg_head (x : α) (xs ys : List α) (h : ∀ y ∈ ys.head?, lt x y = true) : mrg lt f (x :: xs) ys = x :: mrg lt f xs ys := by
  cases ys with
  | nil => simp [mrg_nil]
  | cons y l =>
    have := h y (by simp)
    rw [mrg, if_pos this]
variable (tr : ∀ x y z, lt x y = true → lt y z = true → lt x z = true) (te : ∀ x y z, lt x y = false → lt y x = false → lt y z = true → lt (f x y) z = true)
include tr te
theorem mrg_ins (a : List α) (y : α) (ys : List α) (h : ∀ z ∈ ys.head?, lt y z = true) : mrg lt f a (y :: ys) = mrg lt f (ins lt f a y) ys := by
  induction a with
  | nil => rw [mrg, ins, mrg_head lt f y [] ys h, mrg]
  | cons x xs ih =>
    rw [mrg, ins]
    by_cases h1 : lt x y = true
    · rw [if_pos h1, if_pos h1, ih, mrg_head lt f x _ ys (fun z hz => tr _ _ _ h1 (h z hz))]
    · rw [if_neg h1, if_neg h1]
      by_cases h2 : lt y x = true
      · rw [if_pos h2, if_pos h2, mrg_head lt f y _ ys h]
      · rw [if_neg h2, if_neg h2, mrg_head lt f (f x y) xs ys (fun z hz => te _ _ _ (by simpa using h1) (by simpa using h2) (h z hz))]
theorem mrg_fold (a b : List α) (h : Rs lt b) : mrg lt f a b = b.foldl (ins lt f) a := by
  induction b generalizing a with
  | nil => rw [mrg_nil]; rfl
  | cons y ys ih =>
    have hy : ∀ z ∈ ys.head?, lt y z = true := by
      intro z hz
      cases ys with
      | nil => simp at hz
      | cons z' l => simp at hz; subst hz; exact h.1
    have hr : Rs lt ys := by
      cases ys with
      | nil => trivial
      | cons z' l => exact h.2
    rw [mrg_ins lt f tr te a y ys hy, ih _ hr]
    rfl
end
end WinR
end Go.Proofs.YtmeemmbpkjfleaaDoor
