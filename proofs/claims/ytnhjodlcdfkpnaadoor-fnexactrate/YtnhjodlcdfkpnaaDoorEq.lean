/-
  Held against itself what is handed back is the same. No condition.
-/
import Derived.Test.YtnhjodlcdfkpnaaDoorReckon
namespace Go.Proofs.YtnhjodlcdfkpnaaDoor
open Go.ChangeShapes Go.WideShapes Go.ChangeAt Go.RowKit
set_option linter.unusedVariables false
namespace FixR
theorem eq_any (n c : Int) (w : World) : Calls Tryd.prog 10 #[out n c, out n c] w fun e w' => e = .returned (.bool true) ∧ Below w.heap.size w w' := by
  unfold out
  go_enter Tryd.func10, Tryd.ntmps10
  go_wp2
  go_ret
  refine ⟨rfl, ?_⟩
  repeat' first | exact Below.refl _ _ | apply Below.alloc
  all_goals first | omega | (simp; done) | (simp; omega)
end FixR
end Go.Proofs.YtnhjodlcdfkpnaaDoor
