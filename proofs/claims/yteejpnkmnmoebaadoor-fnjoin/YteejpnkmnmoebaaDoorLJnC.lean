/-
  What the row of FnJoin tells of the program's text, in one closed fact. No condition.
-/
import Derived.Test.YteejpnkmnmoebaaDoorRows
import Derived.JoinedOf
namespace Go.Proofs.YteejpnkmnmoebaaDoor
namespace JoinLaw
theorem closed : joinedFacts Tryd.pinned.checked.prog 3 Tryd.f3 Rows.fnJoinSpec Rows.fnJoinRow = true := by kernel_rfl
end JoinLaw
end Go.Proofs.YteejpnkmnmoebaaDoor
