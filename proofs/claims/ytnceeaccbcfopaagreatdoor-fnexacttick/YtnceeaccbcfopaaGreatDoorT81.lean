/-
  'copy' between rows of things of k cells each, and such a copy as one step of a walk. No condition.
-/
import Derived.Laws.CopyOwn
import Derived.Lib.AppendZerosOnto
import Derived.Lib.Overlaps
import Derived.Laws.NewBlocks
import Derived.Deep.RegionLaw
import Derived.Test.YtnceeaccbcfopaaGreatDoorT80
namespace Go.Proofs.YtnceeaccbcfopaaGreatDoor
open Go.ChangeShapes Go.WideShapes Go.ChangeAt Go.RowKit
set_option linter.unusedVariables false
namespace RowG
section
variable {P:Program}
end
end RowG
end Go.Proofs.YtnceeaccbcfopaaGreatDoor
