/-
  What a list of lines that the law does not pass by is like. No condition.
-/
import Derived.Test.YtnceeaccbcfopaaGreatDoorT48
namespace Go.Proofs.YtnceeaccbcfopaaGreatDoor
open Go.RowKit
namespace LinR
open RowG
end LinR
end Go.Proofs.YtnceeaccbcfopaaGreatDoor
