/-
  What the row of FnBill tells of the program's text, in one closed fact. No condition.
-/
import Derived.Test.YtcilbmhkhllmjaaGreatDoorRows
import Derived.JoinedOf
namespace Go.Proofs.YtcilbmhkhllmjaaGreatDoor
namespace BillLaw
theorem closed : joinedFacts Tryz.pinned.checked.prog 4 Tryz.f4 Rows.fnBillSpec Rows.fnBillRow = true := by kernel_rfl
end BillLaw
end Go.Proofs.YtcilbmhkhllmjaaGreatDoor
