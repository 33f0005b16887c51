/-
  From the row's premise on the tables to the walk's: the library's variable holds the powers of ten; and a world that meets the premise. No condition.
-/
import Derived.Test.YtfnkhohommahoabDoorFmt
import Derived.Stop.LaidErr
import Derived.Test.YtfnkhohommahoabDoorTie
import Derived.ChangeSame
import Derived.ChangeVars
import Derived.JoinedOf
import Derived.ProofKit
import Derived.LaidLaws
import Derived.LaidMore
import Derived.LaidHandle
import Derived.MakeChecks
import Derived.Lib.LaidTab
import Derived.Stop.Joined
namespace Go.Proofs.YtfnkhohommahoabDoor
open Go.ChangeShapes Go.WideShapes Go.RowKit
namespace LayP
theorem own : ownKnob Tryd.prog.godebug = none := by kernel_rfl
theorem laidOut : laidOutB Tryd.prog = true := by kernel_rfl
def laid {H : Type} : List (String × DataW H) := [("math/bits.deBruijn32tab", Rows.laid_math_bits_deBruijn32tab), ("math/bits.deBruijn64tab", Rows.laid_math_bits_deBruijn64tab), ("internal/strconv.uint64pow10", Rows.laid_internal_strconv_uint64pow10)]
theorem pv : Tryd.prog.globalNamed "internal/strconv.uint64pow10" = some 1 := by kernel_rfl
theorem pt : (Tryd.prog.globals[1]?).map (·.type) = some 48 := by kernel_rfl
theorem cellsU : Tryd.prog.cellsOf 40 = 1 := by kernel_rfl
theorem cellsP : Tryd.prog.cellsOf 48 = 20 := by kernel_rfl
def pow10 : List Int := [1, 10, 100, 1000, 10000, 100000, 1000000, 10000000, 100000000, 1000000000, 10000000000, 100000000000, 1000000000000, 10000000000000, 100000000000000, 1000000000000000, 10000000000000000, 100000000000000000, 1000000000000000000, 10000000000000000000]
theorem of_pow {W : World} (hT : Lib.TabIs Tryd.prog W "internal/strconv.uint64pow10" .u64 pow10) : DecR.Pows W := by
  have hc : W.cell? ⟨1, 3, none⟩ = some (.int .u64 1000) := hT.cell pv 3 (by decide)
  refine ⟨?_, hc⟩
  rcases Nat.lt_or_ge 1 W.heap.size with h | h
  · exact h
  · have h0 : W.heap[1]? = none := Array.getElem?_eq_none h
    simp [World.cell?, h0] at hc
abbrev Laid (W : World) : Prop := DecR.Pows W
theorem of_laid {W : World} (h : laidMetH Tryd.prog laid W) : Laid W := by
  rw [MakeChecks.laidMetH_plain _ _ _ (by kernel_rfl)] at h
  exact of_pow (Lib.tabIs_of_head pv pt Tryd.underlying48 Tryd.underlying40 cellsU cellsP (zs := pow10) (k := .u64) h.tail.tail)
theorem door_met (os : Os) (args : Array Value) : laidMetH Tryd.prog laid ((World.doorLaid Tryd.prog 400 os).forCall (fun _ _ => 0) ⟨#[], args, []⟩).memory :=
  laidMetH_of_parts3 (fuel := 8) (laidMet_of_run' 8 (by kernel_rfl) (by kernel_rfl)) (by kernel_rfl) (by kernel_rfl)
end LayP
end Go.Proofs.YtfnkhohommahoabDoor
