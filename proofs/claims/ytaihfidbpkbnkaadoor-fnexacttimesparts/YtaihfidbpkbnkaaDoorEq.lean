/-
  Held against itself what is handed back is the same. No condition.
-/
import Derived.Test.YtaihfidbpkbnkaaDoorReckon
namespace Go.Proofs.YtaihfidbpkbnkaaDoor
open Go.ChangeShapes Go.WideShapes Go.ChangeAt Go.RowKit
set_option linter.unusedVariables false
namespace FixR
theorem eq_any (n c : Int) (w : World) : Calls Tryd.prog 49 #[out n c, out n c] w fun e w' => e = .returned (.bool true) ∧ Below w.heap.size w w' := by
  unfold out
  go_enter Tryd.func49, Tryd.ntmps49
  go_wp2
  go_ret
  refine ⟨rfl, ?_⟩
  repeat' first | exact Below.refl _ _ | apply Below.alloc
  all_goals first | omega | (simp; done) | (simp; omega)
end FixR
end Go.Proofs.YtaihfidbpkbnkaaDoor
