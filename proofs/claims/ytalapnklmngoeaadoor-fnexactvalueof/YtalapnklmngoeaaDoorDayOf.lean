/-
  A date's day: either side tells the same. The condition: the program's table stands in its variable.
-/
import Derived.Test.YtalapnklmngoeaaDoorRight
namespace Go.Proofs.YtalapnklmngoeaaDoor
open Go.ChangeShapes Go.WideShapes Go.ChangeAt Go.RowKit
set_option linter.unusedVariables false
namespace DateR
open DateM
theorem impl_yd (y : Int) (w : World) : Calls Tryd.prog 65 #[.int .i64 y] w fun e w' => e = .returned (.int .i64 (yd y)) ∧ w' = w := by
  have hi := fun w => impl_leap y w
  unfold yd
  cases hl : leapB y
  all_goals
    rw [hl] at hi
    clear hl
    go_enter Tryd.func65, Tryd.ntmps65
    go_wp2_with (go_at_call 67; refine (hi _).mono ?_; rintro e w' ⟨rfl, rfl⟩)
    go_ret
    exact ⟨rfl, rfl⟩
theorem spec_yd (y : Int) (w : World) : Calls Tryd.prog 55 #[.int .i64 y] w fun e w' => e = .returned (.int .i64 (yd y)) ∧ w' = w := by
  have hi := fun w => spec_leap y w
  unfold yd
  cases hl : leapB y
  all_goals
    rw [hl] at hi
    clear hl
    go_enter Tryd.func55, Tryd.ntmps55
    go_wp2_with (go_at_call 60; refine (hi _).mono ?_; rintro e w' ⟨rfl, rfl⟩)
    go_ret
    exact ⟨rfl, rfl⟩
theorem add_year (D : Int) (k : Nat) (h1 : 0 ≤ D) (h2 : D ≤ 30) (hk : k ≤ 230) : wrap64 (D + ys k + yd (1970 + (k : Int))) = D + ys (k + 1) := by
  have a := ys_bd k
  have b := yd_bd (1970 + (k : Int))
  rw [ys_succ]
  unfold wrap64
  omega
theorem add_month (E y : Int) (k : Nat) (h1 : 0 ≤ E) (h2 : E ≤ 90000) (hk : k < 12) (y1 : 1970 ≤ y) (y2 : y ≤ 2200) : wrap64 (E + ms y k + mdays y ((k : Int) + 1)) = E + ms y (k + 1) := by
  have a := ms_bd y k
  have b := md_bd y ((k : Int) + 1)
  have c : mdays y ((k : Int) + 1) = md y ((k : Int) + 1) := if_pos (by omega)
  rw [c, ms_succ]
  unfold wrap64
  omega
theorem day_parts (y m d : Int) (h : rightB y m d = true) : ∃ K M : Nat, K ≤ 230 ∧ M ≤ 11 ∧ y - 1970 = (K : Int) ∧ m - 1 = (M : Int) ∧ 1 ≤ d ∧ d ≤ 31 ∧ Hid (num y m d = d - 1 + ys K + ms y M) ∧ 1970 ≤ y ∧ y ≤ 2200 ∧ 1 ≤ m ∧ m ≤ 12 := by
  obtain ⟨y1, y2, m1, m2, d1, d2⟩ := (right_iff y m d).1 h
  have b := md_bd y m
  refine ⟨(y - 1970).toNat, (m - 1).toNat, by omega, by omega, by omega, by omega, d1, by omega, rfl, y1, y2, m1, m2⟩
end DateR
end Go.Proofs.YtalapnklmngoeaaDoor
