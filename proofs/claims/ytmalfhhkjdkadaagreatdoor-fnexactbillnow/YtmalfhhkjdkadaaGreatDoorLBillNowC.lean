/-
  What the row of FnExactBillNow tells of the program's text, in one closed fact. No condition.
-/
import Derived.Test.YtmalfhhkjdkadaaGreatDoorRows
import Derived.JoinedOf
namespace Go.Proofs.YtmalfhhkjdkadaaGreatDoor
namespace BillNowL
theorem closed : joinedFacts Tryz.pinned.checked.prog 3 Tryz.f3 Rows.fnExactBillNowSpec Rows.fnExactBillNowRow = true := by kernel_rfl
end BillNowL
end Go.Proofs.YtmalfhhkjdkadaaGreatDoor
