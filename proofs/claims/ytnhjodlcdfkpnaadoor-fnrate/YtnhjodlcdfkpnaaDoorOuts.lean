/-
  The model's small hands: a code alone, and a number that is none beyond. No condition.
-/
import Derived.Test.YtnhjodlcdfkpnaaDoorReckon
namespace Go.Proofs.YtnhjodlcdfkpnaaDoor
open Go.ChangeShapes Go.WideShapes Go.ChangeAt Go.RowKit
set_option linter.unusedVariables false
namespace FixR
theorem ill_any (code : Int) (w : World) : Calls Tryd.prog 19 #[.int .i64 code] w fun e w' => e = .returned (out 0 code) ∧ Below w.heap.size w w' := by
  go_enter Tryd.func19, Tryd.ntmps19
  go_wp2
  refine bodyPost_ret (v := out 0 code) (by simp [out, results, Tryd.results19, go_sem]) rfl ⟨rfl, ?_⟩
  repeat' first | exact Below.refl _ _ | apply Below.setCell | apply Below.alloc
  all_goals first | omega | (simp; done) | (simp; omega)
theorem outS_in (v : Int) (hv : In v) (w : World) : Calls Tryd.prog 37 #[.int .i64 v] w fun e w' => e = .returned (out v 0) ∧ Below w.heap.size w w' := by
  obtain ⟨h1, h2⟩ := hv
  go_enter Tryd.func37, Tryd.ntmps37
  go_wp2
  refine bodyPost_ret (v := out v 0) (by simp [out, results, Tryd.results37, go_sem]) rfl ⟨rfl, ?_⟩
  repeat' first | exact Below.refl _ _ | apply Below.setCell | apply Below.alloc
  all_goals first | omega | (simp; done) | (simp; omega)
theorem outS_over (v : Int) (hv : ¬ In v) (w : World) : Calls Tryd.prog 37 #[.int .i64 v] w fun e w' => e = .returned (out 0 12) ∧ Below w.heap.size w w' := by
  have key : (¬ -1000000000000000 ≤ v) ∨ (-1000000000000000 ≤ v ∧ ¬ v ≤ 1000000000000000) := by unfold In at hv; omega
  clear hv
  rcases key with h1 | ⟨h1, h2⟩
  all_goals
    go_enter Tryd.func37, Tryd.ntmps37
    go_wp2_with (first | (go_at_call 33; go_in) | (go_at_call 49; go_in) | (go_at_call 19; refine (ill_any _ _).mono ?_; rintro e w2 ⟨rfl, hb⟩; unfold out; obtain ⟨hc, hz⟩ := bcell hb))
    refine bodyPost_ret (v := out 0 12) (by simp [out, results, Tryd.results37, go_sem, hc]) rfl ⟨rfl, ?_⟩
    exact (((bel_alloc hb).setCell (by simp) _).setCell (by simp) _).setCell (by simp) _
end FixR
end Go.Proofs.YtnhjodlcdfkpnaaDoor
