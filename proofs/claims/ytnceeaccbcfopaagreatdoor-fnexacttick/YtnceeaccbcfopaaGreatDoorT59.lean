/-
  What a list of entries that the law does not pass by is like. No condition.
-/
import Derived.Test.YtnceeaccbcfopaaGreatDoorT58
namespace Go.Proofs.YtnceeaccbcfopaaGreatDoor
open Go.RowKit
namespace SeenR
open RowG
end SeenR
end Go.Proofs.YtnceeaccbcfopaaGreatDoor
