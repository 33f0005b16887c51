/-
  From the row's premise on the tables to the walk's: the library's variable holds the powers of ten; and a world that meets the premise. No condition.
-/
import Derived.Test.YtpmimpenmphloaaDoorDec2
import Derived.Stop.LaidErr
import Derived.Test.YtpmimpenmphloaaDoorTie
import Derived.ChangeSame
import Derived.ChangeVars
import Derived.JoinedOf
import Derived.ProofKit
import Derived.LaidLaws
import Derived.LaidMore
import Derived.LaidHandle
import Derived.MakeChecks
import Derived.Lib.LaidTab
import Derived.Stop.Joined
namespace Go.Proofs.YtpmimpenmphloaaDoor
open Go.ChangeShapes Go.WideShapes Go.RowKit
namespace LayQ
theorem own : ownKnob Tryd.prog.godebug = none := by kernel_rfl
theorem laidOut : laidOutB Tryd.prog = true := by kernel_rfl
def laid {H : Type} : List (String × DataW H) := [("math/bits.deBruijn32tab", Rows.laid_math_bits_deBruijn32tab), ("math/bits.deBruijn64tab", Rows.laid_math_bits_deBruijn64tab), ("internal/strconv.uint64pow10", Rows.laid_internal_strconv_uint64pow10)]
theorem pv : Tryd.prog.globalNamed "internal/strconv.uint64pow10" = some 0 := by kernel_rfl
theorem pt : (Tryd.prog.globals[0]?).map (·.type) = some 65 := by kernel_rfl
theorem cellsU : Tryd.prog.cellsOf 58 = 1 := by kernel_rfl
theorem cellsP : Tryd.prog.cellsOf 65 = 20 := by kernel_rfl
abbrev Laid (W : World) : Prop := Dec2.PowT W
theorem of_laid {W : World} (h : laidMetH Tryd.prog laid W) : Laid W := by
  rw [MakeChecks.laidMetH_plain _ _ _ (by kernel_rfl)] at h
  exact (Lib.tabIs_of_head pv pt Tryd.underlying65 Tryd.underlying58 cellsU cellsP (zs := Lib.pow10Tab) (k := .u64) h.tail.tail)
theorem door_met (os : Os) (args : Array Value) : laidMetH Tryd.prog laid ((World.doorLaid Tryd.prog 400 os).forCall (fun _ _ => 0) ⟨#[], args, []⟩).memory :=
  laidMetH_of_parts3 (fuel := 8) (laidMet_of_run' 8 (by kernel_rfl) (by kernel_rfl)) (by kernel_rfl) (by kernel_rfl)
end LayQ
end Go.Proofs.YtpmimpenmphloaaDoor
