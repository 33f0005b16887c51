/-
  From the row's premise on the program's own error to the walk's: its variable holds an error; and a world that meets the premise. No condition.
-/
import Derived.Test.YtlhghjjgpdkekaaDoorMapR
import Derived.Test.YtlhghjjgpdkekaaDoorTie
import Derived.ChangeSame
import Derived.ChangeVars
import Derived.JoinedOf
import Derived.ProofKit
import Derived.LaidLaws
import Derived.LaidMore
import Derived.LaidHandle
import Derived.MakeChecks
import Derived.Stop.Joined
import Derived.Stop.LaidErr
namespace Go.Proofs.YtlhghjjgpdkekaaDoor
open Go.ChangeShapes Go.WideShapes Go.RowKit
namespace Snm
theorem laidOut : laidOutB Tryd.prog = true := by kernel_rfl
theorem own : ownKnob Tryd.prog.godebug = none := by kernel_rfl
theorem gv : Tryd.prog.globalNamed "loop.example/g00562/impl.errNoMeter" = some 0 := by kernel_rfl
theorem gt : (Tryd.prog.globals[0]?).map (·.type) = some 111 := by kernel_rfl
theorem star : "*" ++ "errors.errorString" = "*errors.errorString" := by decide
theorem row (u : TypeId) (h : Tryd.prog.typeName? 3 u = some "*errors.errorString") : u = 137 :=
  typeName_ptr_named (nm := "errors.errorString") (by rw [star]; kernel_rfl) (by kernel_rfl) (by decide) u (by rw [star]; exact h)
theorem cellsE : Tryd.prog.cellsOf 162 = 1 := by kernel_rfl
theorem cellsS : Tryd.prog.cellsOf 9 = 1 := by kernel_rfl
def laid {H : Type} : List (String × DataW H) := [("loop.example/g00562/impl.errNoMeter", Rows.laid_loop_example_g00562_impl_errNoMeter)]
theorem of_laid {W : World} (h : laidMetH Tryd.prog laid W) : ∃ a : Addr, W.var? Tryd.prog "loop.example/g00562/impl.errNoMeter" = some #[.iface 137 (.pointer (some a))] := by
  rw [MakeChecks.laidMetH_plain _ _ _ (by kernel_rfl)] at h
  obtain ⟨a, s, hv, _⟩ := laid_sentinel h gv gt Tryd.underlying111 row Tryd.underlying137 Tryd.underlying162 rfl rfl Tryd.underlying9 cellsE cellsS
  exact ⟨a, hv⟩
theorem laid_of {W : World} {a : Addr} (h : W.var? Tryd.prog "loop.example/g00562/impl.errNoMeter" = some #[.iface 137 (.pointer (some a))]) : CatR.Laid W := by
  have hg : W.cell? ⟨0, 0, none⟩ = some (.iface 137 (.pointer (some a))) := by simpa using World.var?_cell gv h 0
  refine ⟨?_, a, hg⟩
  rcases Nat.lt_or_ge 0 W.heap.size with h | h
  · exact h
  · have h0 : W.heap[0]? = none := Array.getElem?_eq_none h
    simp [World.cell?, h0] at hg
theorem var_below {W W' : World} {cs : Array Value} (hL : CatR.Laid W) (h : W.var? Tryd.prog "loop.example/g00562/impl.errNoMeter" = some cs) (hb : Below W.heap.size W W') : W'.var? Tryd.prog "loop.example/g00562/impl.errNoMeter" = some cs := by
  unfold World.var? at h ⊢
  rw [gv] at h ⊢
  simp only [Option.bind_some] at h ⊢
  rw [hb.block 0 hL.1]
  exact h
theorem door_met (os : Os) (args : Array Value) : laidMetH Tryd.prog laid ((World.doorLaid Tryd.prog 400 os).forCall (fun _ _ => 0) ⟨#[], args, []⟩).memory :=
  laidMetH_of_parts3 (fuel := 8) (laidMet_of_run' 8 (by kernel_rfl) (by kernel_rfl)) (by kernel_rfl) (by kernel_rfl)
end Snm
end Go.Proofs.YtlhghjjgpdkekaaDoor
