/-
  The law's own helpers over an event: its size, and its copy. No condition.
-/
import Derived.Test.YtmilejcpdfhmmaaEvt
namespace Go.Proofs.Ytmilejcpdfhmmaa
open Go.ChangeShapes Go.WideShapes Go.ChangeAt Go.RowKit
set_option linter.unusedVariables false
namespace EvtR
/-- How many letters an event holds. -/
def szE (i a m t : ByteArray) : Int := i.size + a.size + m.size + t.size
end EvtR
end Go.Proofs.Ytmilejcpdfhmmaa
