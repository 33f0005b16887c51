/-
  From the row's premise on the tables to the walk's: the program's variable holds the months' days, the library's the powers of ten and its two errors; and a world that meets the premise. No condition.
-/
import Derived.Test.YtfnkhohommahoaaDoorReadB
import Derived.Stop.LaidErr
import Derived.Test.YtfnkhohommahoaaDoorTie
import Derived.ChangeSame
import Derived.ChangeVars
import Derived.JoinedOf
import Derived.ProofKit
import Derived.LaidLaws
import Derived.LaidMore
import Derived.LaidHandle
import Derived.MakeChecks
import Derived.Lib.LaidTab
import Derived.Stop.Joined
namespace Go.Proofs.YtfnkhohommahoaaDoor
open Go.ChangeShapes Go.WideShapes Go.RowKit
namespace LayR
theorem own : ownKnob Tryd.prog.godebug = none := by kernel_rfl
theorem laidOut : laidOutB Tryd.prog = true := by kernel_rfl
theorem gv : Tryd.prog.globalNamed "loop.example/g00562/impl.monthLengths" = some 0 := by kernel_rfl
theorem gt : (Tryd.prog.globals[0]?).map (·.type) = some 57 := by kernel_rfl
theorem cellsE : Tryd.prog.cellsOf 2 = 1 := by kernel_rfl
theorem cellsT : Tryd.prog.cellsOf 57 = 12 := by kernel_rfl
def laid {H : Type} : List (String × DataW H) := [("math/bits.deBruijn32tab", Rows.laid_math_bits_deBruijn32tab), ("math/bits.deBruijn64tab", Rows.laid_math_bits_deBruijn64tab), ("internal/strconv.uint64pow10", Rows.laid_internal_strconv_uint64pow10), ("strconv.ErrRange", Rows.laid_strconv_ErrRange), ("strconv.ErrSyntax", Rows.laid_strconv_ErrSyntax), ("loop.example/g00562/impl.monthLengths", Rows.laid_loop_example_g00562_impl_monthLengths)]
theorem of_tab {W : World} (hT : Lib.TabIs Tryd.prog W "loop.example/g00562/impl.monthLengths" .i64 DateR.tab) : DateR.Laid W := by
  have hc : ∀ k : Nat, k < 12 → W.cell? ⟨0, k, none⟩ = some (.int .i64 (DateR.tab.getD k 0)) := fun k hk => hT.cell gv k hk
  refine ⟨?_, hc⟩
  rcases Nat.lt_or_ge 0 W.heap.size with h | h
  · exact h
  · have h0 : W.heap[0]? = none := Array.getElem?_eq_none h
    have := hc 0 (by omega)
    simp [World.cell?, h0] at this
theorem pv : Tryd.prog.globalNamed "internal/strconv.uint64pow10" = some 1 := by kernel_rfl
theorem pt : (Tryd.prog.globals[1]?).map (·.type) = some 76 := by kernel_rfl
theorem cellsU : Tryd.prog.cellsOf 59 = 1 := by kernel_rfl
theorem cellsP : Tryd.prog.cellsOf 76 = 20 := by kernel_rfl
def pow10 : List Int := [1, 10, 100, 1000, 10000, 100000, 1000000, 10000000, 100000000, 1000000000, 10000000000, 100000000000, 1000000000000, 10000000000000, 100000000000000, 1000000000000000, 10000000000000000, 100000000000000000, 1000000000000000000, 10000000000000000000]
theorem of_pow {W : World} (hT : Lib.TabIs Tryd.prog W "internal/strconv.uint64pow10" .u64 pow10) : DecR.Pows W := by
  have hc : W.cell? ⟨1, 3, none⟩ = some (.int .u64 1000) := hT.cell pv 3 (by decide)
  refine ⟨?_, hc⟩
  rcases Nat.lt_or_ge 1 W.heap.size with h | h
  · exact h
  · have h0 : W.heap[1]? = none := Array.getElem?_eq_none h
    simp [World.cell?, h0] at hc
theorem star : "*" ++ "errors.errorString" = "*errors.errorString" := by decide
theorem row (u : TypeId) (h : Tryd.prog.typeName? 3 u = some "*errors.errorString") : u = 95 :=
  typeName_ptr_named (nm := "errors.errorString") (by rw [star]; kernel_rfl) (by kernel_rfl) (by decide) u (by rw [star]; exact h)
theorem cellsR : Tryd.prog.cellsOf 97 = 1 := by kernel_rfl
theorem cellsS : Tryd.prog.cellsOf 9 = 1 := by kernel_rfl
theorem sv : Tryd.prog.globalNamed "strconv.ErrSyntax" = some 2 := by kernel_rfl
theorem st : (Tryd.prog.globals[2]?).map (·.type) = some 64 := by kernel_rfl
theorem rv : Tryd.prog.globalNamed "strconv.ErrRange" = some 3 := by kernel_rfl
theorem rt : (Tryd.prog.globals[3]?).map (·.type) = some 64 := by kernel_rfl
theorem holds_of {W : World} {n : String} {g : Nat} {x : Value} {u : TypeId} (gv : Tryd.prog.globalNamed n = some g) (h : W.var? Tryd.prog n = some #[.iface u x]) : g < W.heap.size ∧ DecR.HoldsErr W g := by
  have hg : W.cell? ⟨g, 0, none⟩ = some (.iface u x) := by simpa using World.var?_cell gv h 0
  refine ⟨?_, _, hg, .inr ⟨u, x, rfl⟩⟩
  rcases Nat.lt_or_ge g W.heap.size with h | h
  · exact h
  · have h0 : W.heap[g]? = none := Array.getElem?_eq_none h
    simp [World.cell?, h0] at hg
abbrev Laid (W : World) : Prop := DateR.All W
theorem of_laid {W : World} (h : laidMetH Tryd.prog laid W) : Laid W := by
  rw [MakeChecks.laidMetH_plain _ _ _ (by kernel_rfl)] at h
  obtain ⟨_, _, hR, _⟩ := laid_sentinel h.tail.tail.tail rv rt Tryd.underlying64 row Tryd.underlying95 Tryd.underlying97 rfl rfl Tryd.underlying9 cellsR cellsS
  obtain ⟨_, _, hS, _⟩ := laid_sentinel h.tail.tail.tail.tail sv st Tryd.underlying64 row Tryd.underlying95 Tryd.underlying97 rfl rfl Tryd.underlying9 cellsR cellsS
  exact ⟨of_tab (Lib.tabIs_of_head gv gt Tryd.underlying57 Tryd.underlying2 cellsE cellsT (zs := DateR.tab) (k := .i64) h.tail.tail.tail.tail.tail), of_pow (Lib.tabIs_of_head pv pt Tryd.underlying76 Tryd.underlying59 cellsU cellsP (zs := pow10) (k := .u64) h.tail.tail), holds_of sv hS, holds_of rv hR⟩
theorem door_met (os : Os) (args : Array Value) : laidMetH Tryd.prog laid ((World.doorLaid Tryd.prog 400 os).forCall (fun _ _ => 0) ⟨#[], args, []⟩).memory :=
  laidMetH_of_parts3 (fuel := 8) (laidMet_of_run' 8 (by kernel_rfl) (by kernel_rfl)) (by kernel_rfl) (by kernel_rfl)
end LayR
end Go.Proofs.YtfnkhohommahoaaDoor
