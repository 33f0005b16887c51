/-
  NARROWER THAN 'FOR EVERY INPUT', by the rows' own cells (each row's printed sentence says how): FnExactRate: ifaces, laid · FnExactRateBetween: ifaces, laid · FnRate: ifaces, laid.
  DERIVED. THE GIVEN ROWS OF THIS SEAT. 3 by the template 'for every input the law returns true; each argument reads behind the call as it read before'; 0 by the template 'total and deterministic' (their statements: YtnhjodlcdfkpnaaDoorTotals.lean).
  GIVEN WITH THE SEED: the statements are not yours to turn. If you find one false, say at which input.
  Laid BY PROGRAM, IN A SANDBOX (cutbox-rows.mjs): the forced cells as the released guide's own fill.sh prints them over the translation bb073ff0600f72b3… (all of the seat's roots in one cut). By AI agents, Wed Nov 11 2026. No macro, syntax, notation, axiom, sorry.
-/
import Derived.Test.YtnhjodlcdfkpnaaDoorChecked
import GoSem.Claim
import GoSem.ClaimJoined
import GoSem.ClaimMapViews
import Derived.JoinedTies
import Derived.KernelRfl
namespace Go.Proofs.YtnhjodlcdfkpnaaDoor
/- THE CELL 'sum', in the pinned program and in every row, IS THE sha256 OF THE DUMP (.gsa) THAT YtnhjodlcdfkpnaaDoorProg.lean LOADS. Nothing in Lean hashes anything: it is a label: what it is worth is what the hold of that sum in a sandbox is worth. -/
noncomputable def Tryd.pinned : Pinned := { name := "ytnhjodlcdfkpnaadoor", sum := "bb073ff0600f72b30eb03ae11f243c092075d45fe155c0516851b55422f7f5bf", checked := Tryd.checked }
namespace Rows
def none {H : Type} : Left H := { results := [], args := [] }

/- WHAT THE LISTED PACKAGE-LEVEL VARIABLES READ AS WHEN THE CALL BEGINS. Each datum BY PROGRAM (the guide's laid-datum.mjs) off the statement by which the dump's own 'gosem.cut.vars' lays the variable. In a bare row this is a premise. The card (YtnhjodlcdfkpnaaDoorCards.lean) ties it to the program's text. -/
def laid_loop_example_g00562_impl_errRunsOver {H : Type} : DataW H := .iface "*errors.errorString" (.ptr (.agg [.lit (.string [110, 117, 109, 98, 101, 114, 32, 114, 117, 110, 115, 32, 111, 118, 101, 114])]))

/-- 'laws.FnExactRate': WHATEVER THE INPUT: true; the input reads as it did. -/
def fnExactRateSpec : ChangeSpec := { name := "fnExactRate", vars := ["loop.example/g00562/impl.errRunsOver"], fn := fun _ => fun
  | [d1, d2, g1] => { results := [.lit (.bool true)], args := [d1, d2], vars := [g1] }
  | _ => none }
def fnExactRateRow : OpenClaim := { program := "ytnhjodlcdfkpnaadoor", sum := "bb073ff0600f72b30eb03ae11f243c092075d45fe155c0516851b55422f7f5bf", func := "loop.example/g00562/laws.FnExactRate", spec := "fnExactRate", unfollowed := true, recurses := true, named := ["loop.example/g00562/impl.errRunsOver"], ifaces := true, apart := false, laid := [("loop.example/g00562/impl.errRunsOver", laid_loop_example_g00562_impl_errRunsOver)] }
def FnExactRateSaid : Prop := fnExactRateRow.holds Tryd.pinned (OpenSpec.ofChange fnExactRateSpec)

/-- ITS FALSE NEIGHBOUR: 'it returns false'. Refute it at one input. -/
def fnExactRateWrong : ChangeSpec := { name := "fnExactRate", vars := ["loop.example/g00562/impl.errRunsOver"], fn := fun _ => fun
  | [d1, d2, g1] => { results := [.lit (.bool false)], args := [d1, d2], vars := [g1] }
  | _ => none }
def FnExactRateWrongFalsely : Prop := fnExactRateRow.holds Tryd.pinned (OpenSpec.ofChange fnExactRateWrong)

/-- 'laws.FnExactRateBetween': WHATEVER THE INPUT: true; the input reads as it did. -/
def fnExactRateBetweenSpec : ChangeSpec := { name := "fnExactRateBetween", vars := ["loop.example/g00562/impl.errRunsOver"], fn := fun _ => fun
  | [d1, d2, d3, g1] => { results := [.lit (.bool true)], args := [d1, d2, d3], vars := [g1] }
  | _ => none }
def fnExactRateBetweenRow : OpenClaim := { program := "ytnhjodlcdfkpnaadoor", sum := "bb073ff0600f72b30eb03ae11f243c092075d45fe155c0516851b55422f7f5bf", func := "loop.example/g00562/laws.FnExactRateBetween", spec := "fnExactRateBetween", unfollowed := true, recurses := true, named := ["loop.example/g00562/impl.errRunsOver"], ifaces := true, apart := false, laid := [("loop.example/g00562/impl.errRunsOver", laid_loop_example_g00562_impl_errRunsOver)] }
def FnExactRateBetweenSaid : Prop := fnExactRateBetweenRow.holds Tryd.pinned (OpenSpec.ofChange fnExactRateBetweenSpec)

/-- ITS FALSE NEIGHBOUR: 'it returns false'. Refute it at one input. -/
def fnExactRateBetweenWrong : ChangeSpec := { name := "fnExactRateBetween", vars := ["loop.example/g00562/impl.errRunsOver"], fn := fun _ => fun
  | [d1, d2, d3, g1] => { results := [.lit (.bool false)], args := [d1, d2, d3], vars := [g1] }
  | _ => none }
def FnExactRateBetweenWrongFalsely : Prop := fnExactRateBetweenRow.holds Tryd.pinned (OpenSpec.ofChange fnExactRateBetweenWrong)

/-- 'laws.FnRate': WHATEVER THE INPUT: true; the input reads as it did. -/
def fnRateSpec : ChangeSpec := { name := "fnRate", vars := ["loop.example/g00562/impl.errRunsOver"], fn := fun _ => fun
  | [d1, d2, g1] => { results := [.lit (.bool true)], args := [d1, d2], vars := [g1] }
  | _ => none }
def fnRateRow : OpenClaim := { program := "ytnhjodlcdfkpnaadoor", sum := "bb073ff0600f72b30eb03ae11f243c092075d45fe155c0516851b55422f7f5bf", func := "loop.example/g00562/laws.FnRate", spec := "fnRate", unfollowed := true, recurses := true, named := ["loop.example/g00562/impl.errRunsOver"], ifaces := true, apart := false, laid := [("loop.example/g00562/impl.errRunsOver", laid_loop_example_g00562_impl_errRunsOver)] }
def FnRateSaid : Prop := fnRateRow.holds Tryd.pinned (OpenSpec.ofChange fnRateSpec)

/-- ITS FALSE NEIGHBOUR: 'it returns false'. Refute it at one input. -/
def fnRateWrong : ChangeSpec := { name := "fnRate", vars := ["loop.example/g00562/impl.errRunsOver"], fn := fun _ => fun
  | [d1, d2, g1] => { results := [.lit (.bool false)], args := [d1, d2], vars := [g1] }
  | _ => none }
def FnRateWrongFalsely : Prop := fnRateRow.holds Tryd.pinned (OpenSpec.ofChange fnRateWrong)

/- THE SECOND FORM. 'bulk': how many values and letters a reading holds, each counted each time it is reached (what is shared counts as often as it is met; a slice's spare places count too). A statement '..UptoSaid' is the law's where the arguments, and the package variables that the reading takes, are together of bulk at most 1048576: NARROWER than '..Said'. Prove '..Said' where nothing that the law and all that it calls make is longer than what came in: it says more and counts as full. Else prove '..UptoSaid'. A law counts once. -/
mutual
def uptoBulk {H : Type} : DataW H → Nat
  | .lit (.string bytes) => bytes.length + 1
  | .lit _ => 1
  | .nil => 1
  | .ptr d => uptoBulk d + 1
  | .slice elems spare => uptoBulkAll elems + uptoBulkAll spare + 1
  | .agg parts => uptoBulkAll parts + 1
  | .iface _ d => uptoBulk d + 1
  | .map entries => uptoBulkEntries entries + 1
  | .held _ => 1
def uptoBulkAll {H : Type} : List (DataW H) → Nat
  | [] => 0
  | d :: r => uptoBulk d + uptoBulkAll r
def uptoBulkEntries {H : Type} : List (Lit × DataW H) → Nat
  | [] => 0
  | x :: r => uptoBulkEntry x + uptoBulkEntries r
def uptoBulkEntry {H : Type} : Lit × DataW H → Nat
  | (.string bytes, d) => bytes.length + uptoBulk d + 1
  | (_, d) => uptoBulk d + 1
 end
def uptoSmall : (H : Type) → List (DataW H) → Bool := fun _ ds => decide (uptoBulkAll ds ≤ 1048576)
def OpenSpec.upto (s : _root_.Go.ChangeSpec) : _root_.Go.OpenSpec := { _root_.Go.OpenSpec.ofChange s with cond := some uptoSmall }

/-- 'laws.FnExactRate', WHERE WHAT IT READS IS OF BULK AT MOST 1048576: true; the input reads as it did. -/
def fnExactRateUptoRow : OpenClaim := { program := "ytnhjodlcdfkpnaadoor", sum := "bb073ff0600f72b30eb03ae11f243c092075d45fe155c0516851b55422f7f5bf", func := "loop.example/g00562/laws.FnExactRate", spec := "fnExactRate", unfollowed := true, recurses := true, named := ["loop.example/g00562/impl.errRunsOver"], ifaces := true, apart := false, laid := [("loop.example/g00562/impl.errRunsOver", laid_loop_example_g00562_impl_errRunsOver)], narrowed := true }
def FnExactRateUptoSaid : Prop := fnExactRateUptoRow.holds Tryd.pinned (OpenSpec.upto fnExactRateSpec)

/-- 'laws.FnExactRateBetween', WHERE WHAT IT READS IS OF BULK AT MOST 1048576: true; the input reads as it did. -/
def fnExactRateBetweenUptoRow : OpenClaim := { program := "ytnhjodlcdfkpnaadoor", sum := "bb073ff0600f72b30eb03ae11f243c092075d45fe155c0516851b55422f7f5bf", func := "loop.example/g00562/laws.FnExactRateBetween", spec := "fnExactRateBetween", unfollowed := true, recurses := true, named := ["loop.example/g00562/impl.errRunsOver"], ifaces := true, apart := false, laid := [("loop.example/g00562/impl.errRunsOver", laid_loop_example_g00562_impl_errRunsOver)], narrowed := true }
def FnExactRateBetweenUptoSaid : Prop := fnExactRateBetweenUptoRow.holds Tryd.pinned (OpenSpec.upto fnExactRateBetweenSpec)

/-- 'laws.FnRate', WHERE WHAT IT READS IS OF BULK AT MOST 1048576: true; the input reads as it did. -/
def fnRateUptoRow : OpenClaim := { program := "ytnhjodlcdfkpnaadoor", sum := "bb073ff0600f72b30eb03ae11f243c092075d45fe155c0516851b55422f7f5bf", func := "loop.example/g00562/laws.FnRate", spec := "fnRate", unfollowed := true, recurses := true, named := ["loop.example/g00562/impl.errRunsOver"], ifaces := true, apart := false, laid := [("loop.example/g00562/impl.errRunsOver", laid_loop_example_g00562_impl_errRunsOver)], narrowed := true }
def FnRateUptoSaid : Prop := fnRateUptoRow.holds Tryd.pinned (OpenSpec.upto fnRateSpec)

end Rows
end Go.Proofs.YtnhjodlcdfkpnaaDoor
