/-
  What the row of FnExactTick tells of the program's text, in one closed fact. No condition.
-/
import Derived.Test.YtnceeaccbcfopaaGreatDoorRows
import Derived.JoinedOf
namespace Go.Proofs.YtnceeaccbcfopaaGreatDoor
namespace TickL
theorem closed : joinedFacts Tryz.pinned.checked.prog 3 Tryz.f3 Rows.fnExactTickSpec Rows.fnExactTickRow = true := by kernel_rfl
end TickL
end Go.Proofs.YtnceeaccbcfopaaGreatDoor
