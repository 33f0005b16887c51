/-
  NARROWER THAN 'FOR EVERY INPUT', by the rows' own cells (each row's printed sentence says how): FnFix: ifaces, laid · FnScale: ifaces, laid · FnExactPlus: ifaces, laid · FnExactMinus: ifaces, laid · FnExactTimes: ifaces, laid.
  DERIVED. THE GIVEN ROWS OF THIS SEAT. 5 by the template 'for every input the law returns true; each argument reads behind the call as it read before'; 0 by the template 'total and deterministic' (their statements: YtgppggiblkcpnaaDoorTotals.lean).
  GIVEN WITH THE SEED: the statements are not yours to turn. If you find one false, say at which input.
  Laid BY PROGRAM, IN A SANDBOX (cutbox-rows.mjs): the forced cells as the released guide's own fill.sh prints them over the translation b42eb2cfbf3638ce… (all of the seat's roots in one cut). By AI agents, Wed Nov 11 2026. No macro, syntax, notation, axiom, sorry.
-/
import Derived.Test.YtgppggiblkcpnaaDoorChecked
import GoSem.Claim
import GoSem.ClaimJoined
import GoSem.ClaimMapViews
import Derived.JoinedTies
import Derived.KernelRfl
namespace Go.Proofs.YtgppggiblkcpnaaDoor
/- THE CELL 'sum', in the pinned program and in every row, IS THE sha256 OF THE DUMP (.gsa) THAT YtgppggiblkcpnaaDoorProg.lean LOADS. Nothing in Lean hashes anything: it is a label: what it is worth is what the hold of that sum in a sandbox is worth. -/
noncomputable def Tryd.pinned : Pinned := { name := "ytgppggiblkcpnaadoor", sum := "b42eb2cfbf3638ce6aa6429d0a0257f4bd90c37e32b577247c13fd7fbe40e324", checked := Tryd.checked }
namespace Rows
def none {H : Type} : Left H := { results := [], args := [] }

/- WHAT THE LISTED PACKAGE-LEVEL VARIABLES READ AS WHEN THE CALL BEGINS. Each datum BY PROGRAM (the guide's laid-datum.mjs) off the statement by which the dump's own 'gosem.cut.vars' lays the variable. In a bare row this is a premise. The card (YtgppggiblkcpnaaDoorCards.lean) ties it to the program's text. -/
def laid_loop_example_g00562_impl_errRunsOver {H : Type} : DataW H := .iface "*errors.errorString" (.ptr (.agg [.lit (.string [110, 117, 109, 98, 101, 114, 32, 114, 117, 110, 115, 32, 111, 118, 101, 114])]))

/-- 'laws.FnFix': WHATEVER THE INPUT: true; the input reads as it did. -/
def fnFixSpec : ChangeSpec := { name := "fnFix", vars := ["loop.example/g00562/impl.errRunsOver"], fn := fun _ => fun
  | [d1, d2, g1] => { results := [.lit (.bool true)], args := [d1, d2], vars := [g1] }
  | _ => none }
def fnFixRow : OpenClaim := { program := "ytgppggiblkcpnaadoor", sum := "b42eb2cfbf3638ce6aa6429d0a0257f4bd90c37e32b577247c13fd7fbe40e324", func := "loop.example/g00562/laws.FnFix", spec := "fnFix", unfollowed := true, recurses := true, named := ["loop.example/g00562/impl.errRunsOver"], ifaces := true, apart := false, laid := [("loop.example/g00562/impl.errRunsOver", laid_loop_example_g00562_impl_errRunsOver)] }
def FnFixSaid : Prop := fnFixRow.holds Tryd.pinned (OpenSpec.ofChange fnFixSpec)

/-- ITS FALSE NEIGHBOUR: 'it returns false'. Refute it at one input. -/
def fnFixWrong : ChangeSpec := { name := "fnFix", vars := ["loop.example/g00562/impl.errRunsOver"], fn := fun _ => fun
  | [d1, d2, g1] => { results := [.lit (.bool false)], args := [d1, d2], vars := [g1] }
  | _ => none }
def FnFixWrongFalsely : Prop := fnFixRow.holds Tryd.pinned (OpenSpec.ofChange fnFixWrong)

/-- 'laws.FnScale': WHATEVER THE INPUT: true; the input reads as it did. -/
def fnScaleSpec : ChangeSpec := { name := "fnScale", vars := ["loop.example/g00562/impl.errRunsOver"], fn := fun _ => fun
  | [d1, d2, g1] => { results := [.lit (.bool true)], args := [d1, d2], vars := [g1] }
  | _ => none }
def fnScaleRow : OpenClaim := { program := "ytgppggiblkcpnaadoor", sum := "b42eb2cfbf3638ce6aa6429d0a0257f4bd90c37e32b577247c13fd7fbe40e324", func := "loop.example/g00562/laws.FnScale", spec := "fnScale", unfollowed := true, recurses := true, named := ["loop.example/g00562/impl.errRunsOver", "math/bits.divideError", "math/bits.overflowError"], ifaces := true, apart := false, laid := [("loop.example/g00562/impl.errRunsOver", laid_loop_example_g00562_impl_errRunsOver)] }
def FnScaleSaid : Prop := fnScaleRow.holds Tryd.pinned (OpenSpec.ofChange fnScaleSpec)

/-- ITS FALSE NEIGHBOUR: 'it returns false'. Refute it at one input. -/
def fnScaleWrong : ChangeSpec := { name := "fnScale", vars := ["loop.example/g00562/impl.errRunsOver"], fn := fun _ => fun
  | [d1, d2, g1] => { results := [.lit (.bool false)], args := [d1, d2], vars := [g1] }
  | _ => none }
def FnScaleWrongFalsely : Prop := fnScaleRow.holds Tryd.pinned (OpenSpec.ofChange fnScaleWrong)

/-- 'laws.FnExactPlus': WHATEVER THE INPUT: true; the input reads as it did. -/
def fnExactPlusSpec : ChangeSpec := { name := "fnExactPlus", vars := ["loop.example/g00562/impl.errRunsOver"], fn := fun _ => fun
  | [d1, d2, g1] => { results := [.lit (.bool true)], args := [d1, d2], vars := [g1] }
  | _ => none }
def fnExactPlusRow : OpenClaim := { program := "ytgppggiblkcpnaadoor", sum := "b42eb2cfbf3638ce6aa6429d0a0257f4bd90c37e32b577247c13fd7fbe40e324", func := "loop.example/g00562/laws.FnExactPlus", spec := "fnExactPlus", unfollowed := true, recurses := true, named := ["loop.example/g00562/impl.errRunsOver"], ifaces := true, apart := false, laid := [("loop.example/g00562/impl.errRunsOver", laid_loop_example_g00562_impl_errRunsOver)] }
def FnExactPlusSaid : Prop := fnExactPlusRow.holds Tryd.pinned (OpenSpec.ofChange fnExactPlusSpec)

/-- ITS FALSE NEIGHBOUR: 'it returns false'. Refute it at one input. -/
def fnExactPlusWrong : ChangeSpec := { name := "fnExactPlus", vars := ["loop.example/g00562/impl.errRunsOver"], fn := fun _ => fun
  | [d1, d2, g1] => { results := [.lit (.bool false)], args := [d1, d2], vars := [g1] }
  | _ => none }
def FnExactPlusWrongFalsely : Prop := fnExactPlusRow.holds Tryd.pinned (OpenSpec.ofChange fnExactPlusWrong)

/-- 'laws.FnExactMinus': WHATEVER THE INPUT: true; the input reads as it did. -/
def fnExactMinusSpec : ChangeSpec := { name := "fnExactMinus", vars := ["loop.example/g00562/impl.errRunsOver"], fn := fun _ => fun
  | [d1, d2, g1] => { results := [.lit (.bool true)], args := [d1, d2], vars := [g1] }
  | _ => none }
def fnExactMinusRow : OpenClaim := { program := "ytgppggiblkcpnaadoor", sum := "b42eb2cfbf3638ce6aa6429d0a0257f4bd90c37e32b577247c13fd7fbe40e324", func := "loop.example/g00562/laws.FnExactMinus", spec := "fnExactMinus", unfollowed := true, recurses := true, named := ["loop.example/g00562/impl.errRunsOver"], ifaces := true, apart := false, laid := [("loop.example/g00562/impl.errRunsOver", laid_loop_example_g00562_impl_errRunsOver)] }
def FnExactMinusSaid : Prop := fnExactMinusRow.holds Tryd.pinned (OpenSpec.ofChange fnExactMinusSpec)

/-- ITS FALSE NEIGHBOUR: 'it returns false'. Refute it at one input. -/
def fnExactMinusWrong : ChangeSpec := { name := "fnExactMinus", vars := ["loop.example/g00562/impl.errRunsOver"], fn := fun _ => fun
  | [d1, d2, g1] => { results := [.lit (.bool false)], args := [d1, d2], vars := [g1] }
  | _ => none }
def FnExactMinusWrongFalsely : Prop := fnExactMinusRow.holds Tryd.pinned (OpenSpec.ofChange fnExactMinusWrong)

/-- 'laws.FnExactTimes': WHATEVER THE INPUT: true; the input reads as it did. -/
def fnExactTimesSpec : ChangeSpec := { name := "fnExactTimes", vars := ["loop.example/g00562/impl.errRunsOver"], fn := fun _ => fun
  | [d1, d2, g1] => { results := [.lit (.bool true)], args := [d1, d2], vars := [g1] }
  | _ => none }
def fnExactTimesRow : OpenClaim := { program := "ytgppggiblkcpnaadoor", sum := "b42eb2cfbf3638ce6aa6429d0a0257f4bd90c37e32b577247c13fd7fbe40e324", func := "loop.example/g00562/laws.FnExactTimes", spec := "fnExactTimes", unfollowed := true, recurses := true, named := ["loop.example/g00562/impl.errRunsOver"], ifaces := true, apart := false, laid := [("loop.example/g00562/impl.errRunsOver", laid_loop_example_g00562_impl_errRunsOver)] }
def FnExactTimesSaid : Prop := fnExactTimesRow.holds Tryd.pinned (OpenSpec.ofChange fnExactTimesSpec)

/-- ITS FALSE NEIGHBOUR: 'it returns false'. Refute it at one input. -/
def fnExactTimesWrong : ChangeSpec := { name := "fnExactTimes", vars := ["loop.example/g00562/impl.errRunsOver"], fn := fun _ => fun
  | [d1, d2, g1] => { results := [.lit (.bool false)], args := [d1, d2], vars := [g1] }
  | _ => none }
def FnExactTimesWrongFalsely : Prop := fnExactTimesRow.holds Tryd.pinned (OpenSpec.ofChange fnExactTimesWrong)

/- THE SECOND FORM. 'bulk': how many values and letters a reading holds, each counted each time it is reached (what is shared counts as often as it is met; a slice's spare places count too). A statement '..UptoSaid' is the law's where the arguments, and the package variables that the reading takes, are together of bulk at most 1048576: NARROWER than '..Said'. Prove '..Said' where nothing that the law and all that it calls make is longer than what came in: it says more and counts as full. Else prove '..UptoSaid'. A law counts once. -/
mutual
def uptoBulk {H : Type} : DataW H → Nat
  | .lit (.string bytes) => bytes.length + 1
  | .lit _ => 1
  | .nil => 1
  | .ptr d => uptoBulk d + 1
  | .slice elems spare => uptoBulkAll elems + uptoBulkAll spare + 1
  | .agg parts => uptoBulkAll parts + 1
  | .iface _ d => uptoBulk d + 1
  | .map entries => uptoBulkEntries entries + 1
  | .held _ => 1
def uptoBulkAll {H : Type} : List (DataW H) → Nat
  | [] => 0
  | d :: r => uptoBulk d + uptoBulkAll r
def uptoBulkEntries {H : Type} : List (Lit × DataW H) → Nat
  | [] => 0
  | x :: r => uptoBulkEntry x + uptoBulkEntries r
def uptoBulkEntry {H : Type} : Lit × DataW H → Nat
  | (.string bytes, d) => bytes.length + uptoBulk d + 1
  | (_, d) => uptoBulk d + 1
 end
def uptoSmall : (H : Type) → List (DataW H) → Bool := fun _ ds => decide (uptoBulkAll ds ≤ 1048576)
def OpenSpec.upto (s : _root_.Go.ChangeSpec) : _root_.Go.OpenSpec := { _root_.Go.OpenSpec.ofChange s with cond := some uptoSmall }

/-- 'laws.FnFix', WHERE WHAT IT READS IS OF BULK AT MOST 1048576: true; the input reads as it did. -/
def fnFixUptoRow : OpenClaim := { program := "ytgppggiblkcpnaadoor", sum := "b42eb2cfbf3638ce6aa6429d0a0257f4bd90c37e32b577247c13fd7fbe40e324", func := "loop.example/g00562/laws.FnFix", spec := "fnFix", unfollowed := true, recurses := true, named := ["loop.example/g00562/impl.errRunsOver"], ifaces := true, apart := false, laid := [("loop.example/g00562/impl.errRunsOver", laid_loop_example_g00562_impl_errRunsOver)], narrowed := true }
def FnFixUptoSaid : Prop := fnFixUptoRow.holds Tryd.pinned (OpenSpec.upto fnFixSpec)

/-- 'laws.FnScale', WHERE WHAT IT READS IS OF BULK AT MOST 1048576: true; the input reads as it did. -/
def fnScaleUptoRow : OpenClaim := { program := "ytgppggiblkcpnaadoor", sum := "b42eb2cfbf3638ce6aa6429d0a0257f4bd90c37e32b577247c13fd7fbe40e324", func := "loop.example/g00562/laws.FnScale", spec := "fnScale", unfollowed := true, recurses := true, named := ["loop.example/g00562/impl.errRunsOver", "math/bits.divideError", "math/bits.overflowError"], ifaces := true, apart := false, laid := [("loop.example/g00562/impl.errRunsOver", laid_loop_example_g00562_impl_errRunsOver)], narrowed := true }
def FnScaleUptoSaid : Prop := fnScaleUptoRow.holds Tryd.pinned (OpenSpec.upto fnScaleSpec)

/-- 'laws.FnExactPlus', WHERE WHAT IT READS IS OF BULK AT MOST 1048576: true; the input reads as it did. -/
def fnExactPlusUptoRow : OpenClaim := { program := "ytgppggiblkcpnaadoor", sum := "b42eb2cfbf3638ce6aa6429d0a0257f4bd90c37e32b577247c13fd7fbe40e324", func := "loop.example/g00562/laws.FnExactPlus", spec := "fnExactPlus", unfollowed := true, recurses := true, named := ["loop.example/g00562/impl.errRunsOver"], ifaces := true, apart := false, laid := [("loop.example/g00562/impl.errRunsOver", laid_loop_example_g00562_impl_errRunsOver)], narrowed := true }
def FnExactPlusUptoSaid : Prop := fnExactPlusUptoRow.holds Tryd.pinned (OpenSpec.upto fnExactPlusSpec)

/-- 'laws.FnExactMinus', WHERE WHAT IT READS IS OF BULK AT MOST 1048576: true; the input reads as it did. -/
def fnExactMinusUptoRow : OpenClaim := { program := "ytgppggiblkcpnaadoor", sum := "b42eb2cfbf3638ce6aa6429d0a0257f4bd90c37e32b577247c13fd7fbe40e324", func := "loop.example/g00562/laws.FnExactMinus", spec := "fnExactMinus", unfollowed := true, recurses := true, named := ["loop.example/g00562/impl.errRunsOver"], ifaces := true, apart := false, laid := [("loop.example/g00562/impl.errRunsOver", laid_loop_example_g00562_impl_errRunsOver)], narrowed := true }
def FnExactMinusUptoSaid : Prop := fnExactMinusUptoRow.holds Tryd.pinned (OpenSpec.upto fnExactMinusSpec)

/-- 'laws.FnExactTimes', WHERE WHAT IT READS IS OF BULK AT MOST 1048576: true; the input reads as it did. -/
def fnExactTimesUptoRow : OpenClaim := { program := "ytgppggiblkcpnaadoor", sum := "b42eb2cfbf3638ce6aa6429d0a0257f4bd90c37e32b577247c13fd7fbe40e324", func := "loop.example/g00562/laws.FnExactTimes", spec := "fnExactTimes", unfollowed := true, recurses := true, named := ["loop.example/g00562/impl.errRunsOver"], ifaces := true, apart := false, laid := [("loop.example/g00562/impl.errRunsOver", laid_loop_example_g00562_impl_errRunsOver)], narrowed := true }
def FnExactTimesUptoSaid : Prop := fnExactTimesUptoRow.holds Tryd.pinned (OpenSpec.upto fnExactTimesSpec)

end Rows
end Go.Proofs.YtgppggiblkcpnaaDoor
