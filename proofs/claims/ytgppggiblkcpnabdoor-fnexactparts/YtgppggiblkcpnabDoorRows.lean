/-
  NARROWER THAN 'FOR EVERY INPUT', by the rows' own cells (each row's printed sentence says how): FnExactParts: ifaces, laid · FnExactTimesParts: ifaces, laid · FnExactPercent: ifaces, laid.
  DERIVED. THE GIVEN ROWS OF THIS SEAT. 3 by the template 'for every input the law returns true; each argument reads behind the call as it read before'; 0 by the template 'total and deterministic' (their statements: YtgppggiblkcpnabDoorTotals.lean).
  GIVEN WITH THE SEED: the statements are not yours to turn. If you find one false, say at which input.
  Laid BY PROGRAM, IN A SANDBOX (cutbox-rows.mjs): the forced cells as the released guide's own fill.sh prints them over the translation b16d6be3b7bb321f… (all of the seat's roots in one cut). By AI agents, Wed Nov 11 2026. No macro, syntax, notation, axiom, sorry.
-/
import Derived.Test.YtgppggiblkcpnabDoorChecked
import GoSem.Claim
import GoSem.ClaimJoined
import GoSem.ClaimMapViews
import Derived.JoinedTies
import Derived.KernelRfl
namespace Go.Proofs.YtgppggiblkcpnabDoor
/- THE CELL 'sum', in the pinned program and in every row, IS THE sha256 OF THE DUMP (.gsa) THAT YtgppggiblkcpnabDoorProg.lean LOADS. Nothing in Lean hashes anything: it is a label: what it is worth is what the hold of that sum in a sandbox is worth. -/
noncomputable def Tryd.pinned : Pinned := { name := "ytgppggiblkcpnabdoor", sum := "b16d6be3b7bb321f0a4a90b4e77db28726deaa5e973259620446eb3cb6fd45fe", checked := Tryd.checked }
namespace Rows
def none {H : Type} : Left H := { results := [], args := [] }

/- WHAT THE LISTED PACKAGE-LEVEL VARIABLES READ AS WHEN THE CALL BEGINS. Each datum BY PROGRAM (the guide's laid-datum.mjs) off the statement by which the dump's own 'gosem.cut.vars' lays the variable. In a bare row this is a premise. The card (YtgppggiblkcpnabDoorCards.lean) ties it to the program's text. -/
def laid_loop_example_g00562_impl_errRunsOver {H : Type} : DataW H := .iface "*errors.errorString" (.ptr (.agg [.lit (.string [110, 117, 109, 98, 101, 114, 32, 114, 117, 110, 115, 32, 111, 118, 101, 114])]))

/-- 'laws.FnExactParts': WHATEVER THE INPUT: true; the input reads as it did. -/
def fnExactPartsSpec : ChangeSpec := { name := "fnExactParts", vars := ["loop.example/g00562/impl.errRunsOver"], fn := fun _ => fun
  | [d1, d2, d3, g1] => { results := [.lit (.bool true)], args := [d1, d2, d3], vars := [g1] }
  | _ => none }
def fnExactPartsRow : OpenClaim := { program := "ytgppggiblkcpnabdoor", sum := "b16d6be3b7bb321f0a4a90b4e77db28726deaa5e973259620446eb3cb6fd45fe", func := "loop.example/g00562/laws.FnExactParts", spec := "fnExactParts", unfollowed := true, recurses := true, named := ["loop.example/g00562/impl.errRunsOver"], ifaces := true, apart := false, laid := [("loop.example/g00562/impl.errRunsOver", laid_loop_example_g00562_impl_errRunsOver)] }
def FnExactPartsSaid : Prop := fnExactPartsRow.holds Tryd.pinned (OpenSpec.ofChange fnExactPartsSpec)

/-- ITS FALSE NEIGHBOUR: 'it returns false'. Refute it at one input. -/
def fnExactPartsWrong : ChangeSpec := { name := "fnExactParts", vars := ["loop.example/g00562/impl.errRunsOver"], fn := fun _ => fun
  | [d1, d2, d3, g1] => { results := [.lit (.bool false)], args := [d1, d2, d3], vars := [g1] }
  | _ => none }
def FnExactPartsWrongFalsely : Prop := fnExactPartsRow.holds Tryd.pinned (OpenSpec.ofChange fnExactPartsWrong)

/-- 'laws.FnExactTimesParts': WHATEVER THE INPUT: true; the input reads as it did. -/
def fnExactTimesPartsSpec : ChangeSpec := { name := "fnExactTimesParts", vars := ["loop.example/g00562/impl.errRunsOver"], fn := fun _ => fun
  | [d1, d2, d3, d4, g1] => { results := [.lit (.bool true)], args := [d1, d2, d3, d4], vars := [g1] }
  | _ => none }
def fnExactTimesPartsRow : OpenClaim := { program := "ytgppggiblkcpnabdoor", sum := "b16d6be3b7bb321f0a4a90b4e77db28726deaa5e973259620446eb3cb6fd45fe", func := "loop.example/g00562/laws.FnExactTimesParts", spec := "fnExactTimesParts", unfollowed := true, recurses := true, named := ["loop.example/g00562/impl.errRunsOver", "math/bits.divideError", "math/bits.overflowError"], ifaces := true, apart := false, laid := [("loop.example/g00562/impl.errRunsOver", laid_loop_example_g00562_impl_errRunsOver)] }
def FnExactTimesPartsSaid : Prop := fnExactTimesPartsRow.holds Tryd.pinned (OpenSpec.ofChange fnExactTimesPartsSpec)

/-- ITS FALSE NEIGHBOUR: 'it returns false'. Refute it at one input. -/
def fnExactTimesPartsWrong : ChangeSpec := { name := "fnExactTimesParts", vars := ["loop.example/g00562/impl.errRunsOver"], fn := fun _ => fun
  | [d1, d2, d3, d4, g1] => { results := [.lit (.bool false)], args := [d1, d2, d3, d4], vars := [g1] }
  | _ => none }
def FnExactTimesPartsWrongFalsely : Prop := fnExactTimesPartsRow.holds Tryd.pinned (OpenSpec.ofChange fnExactTimesPartsWrong)

/-- 'laws.FnExactPercent': WHATEVER THE INPUT: true; the input reads as it did. -/
def fnExactPercentSpec : ChangeSpec := { name := "fnExactPercent", vars := ["loop.example/g00562/impl.errRunsOver"], fn := fun _ => fun
  | [d1, d2, g1] => { results := [.lit (.bool true)], args := [d1, d2], vars := [g1] }
  | _ => none }
def fnExactPercentRow : OpenClaim := { program := "ytgppggiblkcpnabdoor", sum := "b16d6be3b7bb321f0a4a90b4e77db28726deaa5e973259620446eb3cb6fd45fe", func := "loop.example/g00562/laws.FnExactPercent", spec := "fnExactPercent", unfollowed := true, recurses := true, named := ["loop.example/g00562/impl.errRunsOver", "math/bits.divideError", "math/bits.overflowError"], ifaces := true, apart := false, laid := [("loop.example/g00562/impl.errRunsOver", laid_loop_example_g00562_impl_errRunsOver)] }
def FnExactPercentSaid : Prop := fnExactPercentRow.holds Tryd.pinned (OpenSpec.ofChange fnExactPercentSpec)

/-- ITS FALSE NEIGHBOUR: 'it returns false'. Refute it at one input. -/
def fnExactPercentWrong : ChangeSpec := { name := "fnExactPercent", vars := ["loop.example/g00562/impl.errRunsOver"], fn := fun _ => fun
  | [d1, d2, g1] => { results := [.lit (.bool false)], args := [d1, d2], vars := [g1] }
  | _ => none }
def FnExactPercentWrongFalsely : Prop := fnExactPercentRow.holds Tryd.pinned (OpenSpec.ofChange fnExactPercentWrong)

/- THE SECOND FORM. 'bulk': how many values and letters a reading holds, each counted each time it is reached (what is shared counts as often as it is met; a slice's spare places count too). A statement '..UptoSaid' is the law's where the arguments, and the package variables that the reading takes, are together of bulk at most 1048576: NARROWER than '..Said'. Prove '..Said' where nothing that the law and all that it calls make is longer than what came in: it says more and counts as full. Else prove '..UptoSaid'. A law counts once. -/
mutual
def uptoBulk {H : Type} : DataW H → Nat
  | .lit (.string bytes) => bytes.length + 1
  | .lit _ => 1
  | .nil => 1
  | .ptr d => uptoBulk d + 1
  | .slice elems spare => uptoBulkAll elems + uptoBulkAll spare + 1
  | .agg parts => uptoBulkAll parts + 1
  | .iface _ d => uptoBulk d + 1
  | .map entries => uptoBulkEntries entries + 1
  | .held _ => 1
def uptoBulkAll {H : Type} : List (DataW H) → Nat
  | [] => 0
  | d :: r => uptoBulk d + uptoBulkAll r
def uptoBulkEntries {H : Type} : List (Lit × DataW H) → Nat
  | [] => 0
  | x :: r => uptoBulkEntry x + uptoBulkEntries r
def uptoBulkEntry {H : Type} : Lit × DataW H → Nat
  | (.string bytes, d) => bytes.length + uptoBulk d + 1
  | (_, d) => uptoBulk d + 1
 end
def uptoSmall : (H : Type) → List (DataW H) → Bool := fun _ ds => decide (uptoBulkAll ds ≤ 1048576)
def OpenSpec.upto (s : _root_.Go.ChangeSpec) : _root_.Go.OpenSpec := { _root_.Go.OpenSpec.ofChange s with cond := some uptoSmall }

/-- 'laws.FnExactParts', WHERE WHAT IT READS IS OF BULK AT MOST 1048576: true; the input reads as it did. -/
def fnExactPartsUptoRow : OpenClaim := { program := "ytgppggiblkcpnabdoor", sum := "b16d6be3b7bb321f0a4a90b4e77db28726deaa5e973259620446eb3cb6fd45fe", func := "loop.example/g00562/laws.FnExactParts", spec := "fnExactParts", unfollowed := true, recurses := true, named := ["loop.example/g00562/impl.errRunsOver"], ifaces := true, apart := false, laid := [("loop.example/g00562/impl.errRunsOver", laid_loop_example_g00562_impl_errRunsOver)], narrowed := true }
def FnExactPartsUptoSaid : Prop := fnExactPartsUptoRow.holds Tryd.pinned (OpenSpec.upto fnExactPartsSpec)

/-- 'laws.FnExactTimesParts', WHERE WHAT IT READS IS OF BULK AT MOST 1048576: true; the input reads as it did. -/
def fnExactTimesPartsUptoRow : OpenClaim := { program := "ytgppggiblkcpnabdoor", sum := "b16d6be3b7bb321f0a4a90b4e77db28726deaa5e973259620446eb3cb6fd45fe", func := "loop.example/g00562/laws.FnExactTimesParts", spec := "fnExactTimesParts", unfollowed := true, recurses := true, named := ["loop.example/g00562/impl.errRunsOver", "math/bits.divideError", "math/bits.overflowError"], ifaces := true, apart := false, laid := [("loop.example/g00562/impl.errRunsOver", laid_loop_example_g00562_impl_errRunsOver)], narrowed := true }
def FnExactTimesPartsUptoSaid : Prop := fnExactTimesPartsUptoRow.holds Tryd.pinned (OpenSpec.upto fnExactTimesPartsSpec)

/-- 'laws.FnExactPercent', WHERE WHAT IT READS IS OF BULK AT MOST 1048576: true; the input reads as it did. -/
def fnExactPercentUptoRow : OpenClaim := { program := "ytgppggiblkcpnabdoor", sum := "b16d6be3b7bb321f0a4a90b4e77db28726deaa5e973259620446eb3cb6fd45fe", func := "loop.example/g00562/laws.FnExactPercent", spec := "fnExactPercent", unfollowed := true, recurses := true, named := ["loop.example/g00562/impl.errRunsOver", "math/bits.divideError", "math/bits.overflowError"], ifaces := true, apart := false, laid := [("loop.example/g00562/impl.errRunsOver", laid_loop_example_g00562_impl_errRunsOver)], narrowed := true }
def FnExactPercentUptoSaid : Prop := fnExactPercentUptoRow.holds Tryd.pinned (OpenSpec.upto fnExactPercentSpec)

end Rows
end Go.Proofs.YtgppggiblkcpnabDoor
