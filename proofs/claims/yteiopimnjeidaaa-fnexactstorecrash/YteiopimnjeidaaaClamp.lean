/-
  FnExactClamp: for every number and bounds the law's call returns true (the program's Clamp hands back what the model's does), and the input reads as it did. No condition.
-/
import Derived.Test.YteiopimnjeidaaaKit
namespace Go.Proofs.Yteiopimnjeidaaa
open Go.ChangeShapes Go.WideShapes Go.ChangeAt Go.RowKit
set_option linter.unusedVariables false
namespace ClampR
/-- Either answer. -/
def clamp (n low high : Int) : Int := if n < low then low else if high < n then high else n
theorem impl_any (n low high : Int) (w : World) :
    Calls Try.prog 13 #[.int .i64 n, .int .i64 low, .int .i64 high] w fun e w' => e = .returned (.int .i64 (clamp n low high)) ∧ w' = w := by
  unfold clamp
  by_cases h1 : n < low
  · rw [if_pos h1]
    go_enter Try.func13, Try.ntmps13
    go_wp2
    go_ret
    exact ⟨rfl, rfl⟩
  · rw [if_neg h1]
    by_cases h2 : high < n
    all_goals
      simp only [h2, if_true, if_false]
      go_enter Try.func13, Try.ntmps13
      go_wp2
      go_ret
      exact ⟨rfl, rfl⟩
end ClampR
end Go.Proofs.Yteiopimnjeidaaa
