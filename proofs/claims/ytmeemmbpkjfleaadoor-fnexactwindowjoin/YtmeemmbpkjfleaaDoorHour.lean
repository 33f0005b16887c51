/-
  A minute's hour: both sides hand back the same number. No condition.
-/
import Derived.Test.YtmeemmbpkjfleaaDoorKit
namespace Go.Proofs.YtmeemmbpkjfleaaDoor
open Go.ChangeShapes Go.WideShapes Go.ChangeAt Go.RowKit
set_option linter.unusedVariables false
namespace HourR
/-- Either answer. -/
def hourV (n : Int) : Int := if 0 ≤ n ∧ n ≤ 121000000 then n.tdiv 60 else -1
theorem hour_key (n : Int) : (0 ≤ n ∧ n ≤ 121000000) ∨ (¬ 0 ≤ n) ∨ (0 ≤ n ∧ ¬ n ≤ 121000000) := by omega
theorem hour_bd (n : Int) (h1 : 0 ≤ n) (h2 : n ≤ 121000000) : 0 ≤ n.tdiv 60 ∧ n.tdiv 60 ≤ 121000000 := by
  rw [Int.tdiv_eq_ediv_of_nonneg h1]; omega
theorem impl_hour (n : Int) (w : World) : Calls Tryd.prog 88 #[.int .i64 n] w fun e w' => e = .returned (.int .i64 (hourV n)) ∧ w' = w := by
  unfold hourV
  rcases hour_key n with ⟨h1, h2⟩ | h1 | ⟨h1, h2⟩
  · obtain ⟨b1, b2⟩ := hour_bd n h1 h2
    rw [if_pos ⟨h1, h2⟩]
    generalize hq : n.tdiv 60 = q at *
    go_enter Tryd.func88, Tryd.ntmps88
    go_wp2
    go_ret
    first | exact ⟨rfl, rfl⟩ | exact ⟨by rw [← hq], rfl⟩
  all_goals
    rw [if_neg (by omega)]
    go_enter Tryd.func88, Tryd.ntmps88
    go_wp2
    go_ret
    exact ⟨rfl, rfl⟩
end HourR
end Go.Proofs.YtmeemmbpkjfleaaDoor
