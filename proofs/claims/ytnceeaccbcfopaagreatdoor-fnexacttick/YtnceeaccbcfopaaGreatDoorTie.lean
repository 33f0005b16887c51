/-
  DERIVED. GIVEN WITH THE SEED: THE PROGRAM's TIES (one call each: nine closed facts by the kernel) AND EACH ROW's TIE, after the 31st guide's Derived/Test/Toyas{Tie, Card}.lean. No idea stands in it: it is a product of the set-up. Laid BY PROGRAM, IN A SANDBOX (cutbox-door.mjs). By AI agents, Wed Nov 11 2026. No macro, syntax, notation, axiom, sorry.
-/
import Derived.Test.YtnceeaccbcfopaaGreatDoorRows
import Derived.LaidByTextLater
import Derived.SevenTiedAt
import Derived.LaidSub
import Derived.LaidOnce
namespace Go.Proofs.YtnceeaccbcfopaaGreatDoor
open Go
set_option maxRecDepth 100000
theorem seatTie1 : Tryz.prog.laidByTextLater [("loop.example/g00562/impl.monthLengths", Rows.laid_loop_example_g00562_impl_monthLengths), ("loop.example/g00562/impl.errNoMeter", Rows.laid_loop_example_g00562_impl_errNoMeter)] [.data, .sentinel] true :=
  Program.laidByTextLater_by_one 33 8 13 (by kernel_rfl) (by kernel_rfl) (by kernel_rfl) (by kernel_rfl) (by kernel_rfl) (by kernel_rfl) (fun _ _ => by kernel_rfl)
theorem noOwnUnsafe : Tryz.pinned.checked.prog.headLifts.contains "ownunsafe" = false := by kernel_rfl
theorem tie : Tryz.prog.laidByTextLater [("loop.example/g00562/impl.monthLengths", Rows.laid_loop_example_g00562_impl_monthLengths), ("loop.example/g00562/impl.errNoMeter", Rows.laid_loop_example_g00562_impl_errNoMeter)] [.data, .sentinel] true :=
  Program.laidByTextLater.sub seatTie1 ["loop.example/g00562/impl.monthLengths", "loop.example/g00562/impl.errNoMeter"] (by kernel_rfl) (by kernel_rfl)
theorem fnExactTick_row_tie : Rows.fnExactTickRow.laidByTextAt .later Tryz.pinned [.data, .sentinel] true :=
  OpenClaim.laidByTextAt_later rfl rfl tie noOwnUnsafe
theorem fnExactTickUpto_row_tie : Rows.fnExactTickUptoRow.laidByTextAt .later Tryz.pinned [.data, .sentinel] true :=
  OpenClaim.laidByTextAt_later rfl rfl tie noOwnUnsafe
end Go.Proofs.YtnceeaccbcfopaaGreatDoor
