/-
  A date is handed over as it is. No condition.
-/
import Derived.Test.YtaihfidbpkbnkacDoorMDays
namespace Go.Proofs.YtaihfidbpkbnkacDoor
open Go.ChangeShapes Go.WideShapes Go.ChangeAt Go.RowKit
set_option linter.unusedVariables false
namespace DateR
set_option maxHeartbeats 4000000 in
theorem toDate_any (y m d : Int) (w : World) : Calls Tryd.prog 6 #[date y m d] w fun e w' => e = .returned (date y m d) ∧ Below w.heap.size w w' := by
  unfold date
  go_enter Tryd.func6, Tryd.ntmps6
  go_wp2
  refine bodyPost_ret (v := date y m d) (by simp [date, results, Tryd.results6, go_sem]) rfl ⟨rfl, ?_⟩
  repeat' first | exact Below.refl _ _ | apply Below.setCell | apply Below.alloc
  all_goals first | omega | (simp; done) | (simp; omega)
end DateR
end Go.Proofs.YtaihfidbpkbnkacDoor
