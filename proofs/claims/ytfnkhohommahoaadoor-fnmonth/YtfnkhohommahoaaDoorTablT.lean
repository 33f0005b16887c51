/-
  From the row's premise on the tables to the walk's: the program's variable holds the months' days, the library's the powers of ten; and a world that meets the premise. No condition.
-/
import Derived.Test.YtfnkhohommahoaaDoorMDays
import Derived.Test.YtfnkhohommahoaaDoorFmt
import Derived.Stop.LaidErr
import Derived.Test.YtfnkhohommahoaaDoorTie
import Derived.ChangeSame
import Derived.ChangeVars
import Derived.JoinedOf
import Derived.ProofKit
import Derived.LaidLaws
import Derived.LaidMore
import Derived.LaidHandle
import Derived.MakeChecks
import Derived.Lib.LaidTab
import Derived.Stop.Joined
namespace Go.Proofs.YtfnkhohommahoaaDoor
open Go.ChangeShapes Go.WideShapes Go.RowKit
namespace LayT
theorem own : ownKnob Tryd.prog.godebug = none := by kernel_rfl
theorem laidOut : laidOutB Tryd.prog = true := by kernel_rfl
theorem gv : Tryd.prog.globalNamed "loop.example/g00562/impl.monthLengths" = some 0 := by kernel_rfl
theorem gt : (Tryd.prog.globals[0]?).map (·.type) = some 57 := by kernel_rfl
theorem cellsE : Tryd.prog.cellsOf 2 = 1 := by kernel_rfl
theorem cellsT : Tryd.prog.cellsOf 57 = 12 := by kernel_rfl
def laid {H : Type} : List (String × DataW H) := [("math/bits.deBruijn32tab", Rows.laid_math_bits_deBruijn32tab), ("math/bits.deBruijn64tab", Rows.laid_math_bits_deBruijn64tab), ("internal/strconv.uint64pow10", Rows.laid_internal_strconv_uint64pow10), ("loop.example/g00562/impl.monthLengths", Rows.laid_loop_example_g00562_impl_monthLengths)]
theorem of_tab {W : World} (hT : Lib.TabIs Tryd.prog W "loop.example/g00562/impl.monthLengths" .i64 DateR.tab) : DateR.Laid W := by
  have hc : ∀ k : Nat, k < 12 → W.cell? ⟨0, k, none⟩ = some (.int .i64 (DateR.tab.getD k 0)) := fun k hk => hT.cell gv k hk
  refine ⟨?_, hc⟩
  rcases Nat.lt_or_ge 0 W.heap.size with h | h
  · exact h
  · have h0 : W.heap[0]? = none := Array.getElem?_eq_none h
    have := hc 0 (by omega)
    simp [World.cell?, h0] at this
theorem pv : Tryd.prog.globalNamed "internal/strconv.uint64pow10" = some 1 := by kernel_rfl
theorem pt : (Tryd.prog.globals[1]?).map (·.type) = some 76 := by kernel_rfl
theorem cellsU : Tryd.prog.cellsOf 59 = 1 := by kernel_rfl
theorem cellsP : Tryd.prog.cellsOf 76 = 20 := by kernel_rfl
def pow10 : List Int := [1, 10, 100, 1000, 10000, 100000, 1000000, 10000000, 100000000, 1000000000, 10000000000, 100000000000, 1000000000000, 10000000000000, 100000000000000, 1000000000000000, 10000000000000000, 100000000000000000, 1000000000000000000, 10000000000000000000]
theorem of_pow {W : World} (hT : Lib.TabIs Tryd.prog W "internal/strconv.uint64pow10" .u64 pow10) : DecR.Pows W := by
  have hc : W.cell? ⟨1, 3, none⟩ = some (.int .u64 1000) := hT.cell pv 3 (by decide)
  refine ⟨?_, hc⟩
  rcases Nat.lt_or_ge 1 W.heap.size with h | h
  · exact h
  · have h0 : W.heap[1]? = none := Array.getElem?_eq_none h
    simp [World.cell?, h0] at hc
/-- Both tables stand. -/
def Laid (W : World) : Prop := DateR.Laid W ∧ DecR.Pows W
theorem Laid.below {w w' : World} (h : Laid w) (hb : Below w.heap.size w w') : Laid w' := ⟨h.1.below hb, h.2.below hb⟩
theorem of_laid {W : World} (h : laidMetH Tryd.prog laid W) : Laid W := by
  rw [MakeChecks.laidMetH_plain _ _ _ (by kernel_rfl)] at h
  exact ⟨of_tab (Lib.tabIs_of_head gv gt Tryd.underlying57 Tryd.underlying2 cellsE cellsT (zs := DateR.tab) (k := .i64) h.tail.tail.tail), of_pow (Lib.tabIs_of_head pv pt Tryd.underlying76 Tryd.underlying59 cellsU cellsP (zs := pow10) (k := .u64) h.tail.tail)⟩
theorem door_met (os : Os) (args : Array Value) : laidMetH Tryd.prog laid ((World.doorLaid Tryd.prog 400 os).forCall (fun _ _ => 0) ⟨#[], args, []⟩).memory :=
  laidMetH_of_parts3 (fuel := 8) (laidMet_of_run' 8 (by kernel_rfl) (by kernel_rfl)) (by kernel_rfl) (by kernel_rfl)
end LayT
end Go.Proofs.YtfnkhohommahoaaDoor
