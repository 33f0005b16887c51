/-
  What the library's FormatInt hands back at base 10, by the shelf's contract. The condition: its table stands in its variable.
-/
import Derived.Test.YtpmimpenmphloaaDoorDec2
import Derived.Test.YtpmimpenmphloaaDoorShelfF
namespace Go.Proofs.YtpmimpenmphloaaDoor
open Go.RowKit
namespace Dec2
theorem fmtOk : FmtOk := fun n h0 h1 w hP => by
  refine (Tryd.strconv_FormatInt_10 n (by omega) h1 w hP).mono ?_
  rintro e w' ⟨rfl, k, os, rfl⟩
  exact ⟨rfl, below_grow w k os⟩
end Dec2
end Go.Proofs.YtpmimpenmphloaaDoor
