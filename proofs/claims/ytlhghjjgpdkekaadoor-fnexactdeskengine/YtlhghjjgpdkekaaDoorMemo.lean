/-
  What is shown once is used on every way to it. No condition.
-/
import Derived.Test.YtlhghjjgpdkekaaDoorKit
namespace Go.Proofs.YtlhghjjgpdkekaaDoor
open Go.ChangeShapes Go.WideShapes Go.ChangeAt Go.RowKit
set_option linter.unusedVariables false
namespace MemoR
theorem memo0 {goal : Prop} (F : World → Prop) {G : World → Prop} (h1 : Hid (∀ W, F W → G W) → goal) (h2 : ∀ W, F W → G W) : goal := h1 h2
theorem memo1 {goal : Prop} (F : Nat → World → Prop) {G : Nat → World → Prop} (h1 : Hid (∀ x0 W, F x0 W → G x0 W) → goal) (h2 : ∀ x0 W, F x0 W → G x0 W) : goal := h1 h2
theorem memo2 {goal : Prop} (F : Nat → Nat → World → Prop) {G : Nat → Nat → World → Prop} (h1 : Hid (∀ x0 x1 W, F x0 x1 W → G x0 x1 W) → goal) (h2 : ∀ x0 x1 W, F x0 x1 W → G x0 x1 W) : goal := h1 h2
theorem memo3 {goal : Prop} (F : Nat → Nat → Nat → World → Prop) {G : Nat → Nat → Nat → World → Prop} (h1 : Hid (∀ x0 x1 x2 W, F x0 x1 x2 W → G x0 x1 x2 W) → goal) (h2 : ∀ x0 x1 x2 W, F x0 x1 x2 W → G x0 x1 x2 W) : goal := h1 h2
theorem memo4 {goal : Prop} (F : Nat → Nat → Nat → Nat → World → Prop) {G : Nat → Nat → Nat → Nat → World → Prop} (h1 : Hid (∀ x0 x1 x2 x3 W, F x0 x1 x2 x3 W → G x0 x1 x2 x3 W) → goal) (h2 : ∀ x0 x1 x2 x3 W, F x0 x1 x2 x3 W → G x0 x1 x2 x3 W) : goal := h1 h2
theorem memo5 {goal : Prop} (F : Nat → Nat → Nat → Nat → Nat → World → Prop) {G : Nat → Nat → Nat → Nat → Nat → World → Prop} (h1 : Hid (∀ x0 x1 x2 x3 x4 W, F x0 x1 x2 x3 x4 W → G x0 x1 x2 x3 x4 W) → goal) (h2 : ∀ x0 x1 x2 x3 x4 W, F x0 x1 x2 x3 x4 W → G x0 x1 x2 x3 x4 W) : goal := h1 h2
theorem memo6 {goal : Prop} (F : Nat → Nat → Nat → Nat → Nat → Nat → World → Prop) {G : Nat → Nat → Nat → Nat → Nat → Nat → World → Prop} (h1 : Hid (∀ x0 x1 x2 x3 x4 x5 W, F x0 x1 x2 x3 x4 x5 W → G x0 x1 x2 x3 x4 x5 W) → goal) (h2 : ∀ x0 x1 x2 x3 x4 x5 W, F x0 x1 x2 x3 x4 x5 W → G x0 x1 x2 x3 x4 x5 W) : goal := h1 h2
theorem memo7 {goal : Prop} (F : Nat → Nat → Nat → Nat → Nat → Nat → Nat → World → Prop) {G : Nat → Nat → Nat → Nat → Nat → Nat → Nat → World → Prop} (h1 : Hid (∀ x0 x1 x2 x3 x4 x5 x6 W, F x0 x1 x2 x3 x4 x5 x6 W → G x0 x1 x2 x3 x4 x5 x6 W) → goal) (h2 : ∀ x0 x1 x2 x3 x4 x5 x6 W, F x0 x1 x2 x3 x4 x5 x6 W → G x0 x1 x2 x3 x4 x5 x6 W) : goal := h1 h2
theorem memo8 {goal : Prop} (F : Nat → Nat → Nat → Nat → Nat → Nat → Nat → Nat → World → Prop) {G : Nat → Nat → Nat → Nat → Nat → Nat → Nat → Nat → World → Prop} (h1 : Hid (∀ x0 x1 x2 x3 x4 x5 x6 x7 W, F x0 x1 x2 x3 x4 x5 x6 x7 W → G x0 x1 x2 x3 x4 x5 x6 x7 W) → goal) (h2 : ∀ x0 x1 x2 x3 x4 x5 x6 x7 W, F x0 x1 x2 x3 x4 x5 x6 x7 W → G x0 x1 x2 x3 x4 x5 x6 x7 W) : goal := h1 h2
theorem memo9 {goal : Prop} (F : Nat → Nat → Nat → Nat → Nat → Nat → Nat → Nat → Nat → World → Prop) {G : Nat → Nat → Nat → Nat → Nat → Nat → Nat → Nat → Nat → World → Prop} (h1 : Hid (∀ x0 x1 x2 x3 x4 x5 x6 x7 x8 W, F x0 x1 x2 x3 x4 x5 x6 x7 x8 W → G x0 x1 x2 x3 x4 x5 x6 x7 x8 W) → goal) (h2 : ∀ x0 x1 x2 x3 x4 x5 x6 x7 x8 W, F x0 x1 x2 x3 x4 x5 x6 x7 x8 W → G x0 x1 x2 x3 x4 x5 x6 x7 x8 W) : goal := h1 h2
end MemoR
end Go.Proofs.YtlhghjjgpdkekaaDoor
