/-
  NARROWER THAN 'FOR EVERY INPUT', by the rows' own cells (each row's printed sentence says how): FnExactDateRight: laid · FnExactDayOf: laid · FnExactDateOf: laid · FnExactMonthDays: laid.
  DERIVED. THE GIVEN ROWS OF THIS SEAT. 4 by the template 'for every input the law returns true; each argument reads behind the call as it read before'; 0 by the template 'total and deterministic' (their statements: YtaihfidbpkbnkabDoorTotals.lean).
  GIVEN WITH THE SEED: the statements are not yours to turn. If you find one false, say at which input.
  Laid BY PROGRAM, IN A SANDBOX (cutbox-rows.mjs): the forced cells as the released guide's own fill.sh prints them over the translation 2d439c2e01b6d120… (all of the seat's roots in one cut). By AI agents, Wed Nov 11 2026. No macro, syntax, notation, axiom, sorry.
-/
import Derived.Test.YtaihfidbpkbnkabDoorChecked
import GoSem.Claim
import GoSem.ClaimJoined
import GoSem.ClaimMapViews
import Derived.JoinedTies
import Derived.KernelRfl
namespace Go.Proofs.YtaihfidbpkbnkabDoor
/- THE CELL 'sum', in the pinned program and in every row, IS THE sha256 OF THE DUMP (.gsa) THAT YtaihfidbpkbnkabDoorProg.lean LOADS. Nothing in Lean hashes anything: it is a label: what it is worth is what the hold of that sum in a sandbox is worth. -/
noncomputable def Tryd.pinned : Pinned := { name := "ytaihfidbpkbnkabdoor", sum := "2d439c2e01b6d120707fda40e920a77ee12d42b0a21e1824847c895cc12aad5b", checked := Tryd.checked }
namespace Rows
def none {H : Type} : Left H := { results := [], args := [] }

/- WHAT THE LISTED PACKAGE-LEVEL VARIABLES READ AS WHEN THE CALL BEGINS. Each datum BY PROGRAM (the guide's laid-datum.mjs) off the statement by which the dump's own 'gosem.cut.vars' lays the variable. In a bare row this is a premise. The card (YtaihfidbpkbnkabDoorCards.lean) ties it to the program's text. -/
def laid_loop_example_g00562_impl_monthLengths {H : Type} : DataW H := .agg [.lit (.int .i64 31), .lit (.int .i64 28), .lit (.int .i64 31), .lit (.int .i64 30), .lit (.int .i64 31), .lit (.int .i64 30), .lit (.int .i64 31), .lit (.int .i64 31), .lit (.int .i64 30), .lit (.int .i64 31), .lit (.int .i64 30), .lit (.int .i64 31)]

/-- 'laws.FnExactDateRight': WHATEVER THE INPUT: true; the input reads as it did. -/
def fnExactDateRightSpec : ChangeSpec := { name := "fnExactDateRight", vars := ["loop.example/g00562/impl.monthLengths"], fn := fun _ => fun
  | [d, g1] => { results := [.lit (.bool true)], args := [d], vars := [g1] }
  | _ => none }
def fnExactDateRightRow : OpenClaim := { program := "ytaihfidbpkbnkabdoor", sum := "2d439c2e01b6d120707fda40e920a77ee12d42b0a21e1824847c895cc12aad5b", func := "loop.example/g00562/laws.FnExactDateRight", spec := "fnExactDateRight", named := ["loop.example/g00562/impl.monthLengths"], apart := false, laid := [("loop.example/g00562/impl.monthLengths", laid_loop_example_g00562_impl_monthLengths)] }
def FnExactDateRightSaid : Prop := fnExactDateRightRow.holds Tryd.pinned (OpenSpec.ofChange fnExactDateRightSpec)

/-- ITS FALSE NEIGHBOUR: 'it returns false'. Refute it at one input. -/
def fnExactDateRightWrong : ChangeSpec := { name := "fnExactDateRight", vars := ["loop.example/g00562/impl.monthLengths"], fn := fun _ => fun
  | [d, g1] => { results := [.lit (.bool false)], args := [d], vars := [g1] }
  | _ => none }
def FnExactDateRightWrongFalsely : Prop := fnExactDateRightRow.holds Tryd.pinned (OpenSpec.ofChange fnExactDateRightWrong)

/-- 'laws.FnExactDayOf': WHATEVER THE INPUT: true; the input reads as it did. -/
def fnExactDayOfSpec : ChangeSpec := { name := "fnExactDayOf", vars := ["loop.example/g00562/impl.monthLengths"], fn := fun _ => fun
  | [d, g1] => { results := [.lit (.bool true)], args := [d], vars := [g1] }
  | _ => none }
def fnExactDayOfRow : OpenClaim := { program := "ytaihfidbpkbnkabdoor", sum := "2d439c2e01b6d120707fda40e920a77ee12d42b0a21e1824847c895cc12aad5b", func := "loop.example/g00562/laws.FnExactDayOf", spec := "fnExactDayOf", named := ["loop.example/g00562/impl.monthLengths"], apart := false, laid := [("loop.example/g00562/impl.monthLengths", laid_loop_example_g00562_impl_monthLengths)] }
def FnExactDayOfSaid : Prop := fnExactDayOfRow.holds Tryd.pinned (OpenSpec.ofChange fnExactDayOfSpec)

/-- ITS FALSE NEIGHBOUR: 'it returns false'. Refute it at one input. -/
def fnExactDayOfWrong : ChangeSpec := { name := "fnExactDayOf", vars := ["loop.example/g00562/impl.monthLengths"], fn := fun _ => fun
  | [d, g1] => { results := [.lit (.bool false)], args := [d], vars := [g1] }
  | _ => none }
def FnExactDayOfWrongFalsely : Prop := fnExactDayOfRow.holds Tryd.pinned (OpenSpec.ofChange fnExactDayOfWrong)

/-- 'laws.FnExactDateOf': WHATEVER THE INPUT: true; the input reads as it did. -/
def fnExactDateOfSpec : ChangeSpec := { name := "fnExactDateOf", vars := ["loop.example/g00562/impl.monthLengths"], fn := fun _ => fun
  | [d, g1] => { results := [.lit (.bool true)], args := [d], vars := [g1] }
  | _ => none }
def fnExactDateOfRow : OpenClaim := { program := "ytaihfidbpkbnkabdoor", sum := "2d439c2e01b6d120707fda40e920a77ee12d42b0a21e1824847c895cc12aad5b", func := "loop.example/g00562/laws.FnExactDateOf", spec := "fnExactDateOf", named := ["loop.example/g00562/impl.monthLengths"], apart := false, laid := [("loop.example/g00562/impl.monthLengths", laid_loop_example_g00562_impl_monthLengths)] }
def FnExactDateOfSaid : Prop := fnExactDateOfRow.holds Tryd.pinned (OpenSpec.ofChange fnExactDateOfSpec)

/-- ITS FALSE NEIGHBOUR: 'it returns false'. Refute it at one input. -/
def fnExactDateOfWrong : ChangeSpec := { name := "fnExactDateOf", vars := ["loop.example/g00562/impl.monthLengths"], fn := fun _ => fun
  | [d, g1] => { results := [.lit (.bool false)], args := [d], vars := [g1] }
  | _ => none }
def FnExactDateOfWrongFalsely : Prop := fnExactDateOfRow.holds Tryd.pinned (OpenSpec.ofChange fnExactDateOfWrong)

/-- 'laws.FnExactMonthDays': WHATEVER THE INPUT: true; the input reads as it did. -/
def fnExactMonthDaysSpec : ChangeSpec := { name := "fnExactMonthDays", vars := ["loop.example/g00562/impl.monthLengths"], fn := fun _ => fun
  | [d1, d2, g1] => { results := [.lit (.bool true)], args := [d1, d2], vars := [g1] }
  | _ => none }
def fnExactMonthDaysRow : OpenClaim := { program := "ytaihfidbpkbnkabdoor", sum := "2d439c2e01b6d120707fda40e920a77ee12d42b0a21e1824847c895cc12aad5b", func := "loop.example/g00562/laws.FnExactMonthDays", spec := "fnExactMonthDays", named := ["loop.example/g00562/impl.monthLengths"], apart := false, laid := [("loop.example/g00562/impl.monthLengths", laid_loop_example_g00562_impl_monthLengths)] }
def FnExactMonthDaysSaid : Prop := fnExactMonthDaysRow.holds Tryd.pinned (OpenSpec.ofChange fnExactMonthDaysSpec)

/-- ITS FALSE NEIGHBOUR: 'it returns false'. Refute it at one input. -/
def fnExactMonthDaysWrong : ChangeSpec := { name := "fnExactMonthDays", vars := ["loop.example/g00562/impl.monthLengths"], fn := fun _ => fun
  | [d1, d2, g1] => { results := [.lit (.bool false)], args := [d1, d2], vars := [g1] }
  | _ => none }
def FnExactMonthDaysWrongFalsely : Prop := fnExactMonthDaysRow.holds Tryd.pinned (OpenSpec.ofChange fnExactMonthDaysWrong)

/- THE SECOND FORM. 'bulk': how many values and letters a reading holds, each counted each time it is reached (what is shared counts as often as it is met; a slice's spare places count too). A statement '..UptoSaid' is the law's where the arguments, and the package variables that the reading takes, are together of bulk at most 1048576: NARROWER than '..Said'. Prove '..Said' where nothing that the law and all that it calls make is longer than what came in: it says more and counts as full. Else prove '..UptoSaid'. A law counts once. -/
mutual
def uptoBulk {H : Type} : DataW H → Nat
  | .lit (.string bytes) => bytes.length + 1
  | .lit _ => 1
  | .nil => 1
  | .ptr d => uptoBulk d + 1
  | .slice elems spare => uptoBulkAll elems + uptoBulkAll spare + 1
  | .agg parts => uptoBulkAll parts + 1
  | .iface _ d => uptoBulk d + 1
  | .map entries => uptoBulkEntries entries + 1
  | .held _ => 1
def uptoBulkAll {H : Type} : List (DataW H) → Nat
  | [] => 0
  | d :: r => uptoBulk d + uptoBulkAll r
def uptoBulkEntries {H : Type} : List (Lit × DataW H) → Nat
  | [] => 0
  | x :: r => uptoBulkEntry x + uptoBulkEntries r
def uptoBulkEntry {H : Type} : Lit × DataW H → Nat
  | (.string bytes, d) => bytes.length + uptoBulk d + 1
  | (_, d) => uptoBulk d + 1
 end
def uptoSmall : (H : Type) → List (DataW H) → Bool := fun _ ds => decide (uptoBulkAll ds ≤ 1048576)
def OpenSpec.upto (s : _root_.Go.ChangeSpec) : _root_.Go.OpenSpec := { _root_.Go.OpenSpec.ofChange s with cond := some uptoSmall }

/-- 'laws.FnExactDateRight', WHERE WHAT IT READS IS OF BULK AT MOST 1048576: true; the input reads as it did. -/
def fnExactDateRightUptoRow : OpenClaim := { program := "ytaihfidbpkbnkabdoor", sum := "2d439c2e01b6d120707fda40e920a77ee12d42b0a21e1824847c895cc12aad5b", func := "loop.example/g00562/laws.FnExactDateRight", spec := "fnExactDateRight", named := ["loop.example/g00562/impl.monthLengths"], apart := false, laid := [("loop.example/g00562/impl.monthLengths", laid_loop_example_g00562_impl_monthLengths)], narrowed := true }
def FnExactDateRightUptoSaid : Prop := fnExactDateRightUptoRow.holds Tryd.pinned (OpenSpec.upto fnExactDateRightSpec)

/-- 'laws.FnExactDayOf', WHERE WHAT IT READS IS OF BULK AT MOST 1048576: true; the input reads as it did. -/
def fnExactDayOfUptoRow : OpenClaim := { program := "ytaihfidbpkbnkabdoor", sum := "2d439c2e01b6d120707fda40e920a77ee12d42b0a21e1824847c895cc12aad5b", func := "loop.example/g00562/laws.FnExactDayOf", spec := "fnExactDayOf", named := ["loop.example/g00562/impl.monthLengths"], apart := false, laid := [("loop.example/g00562/impl.monthLengths", laid_loop_example_g00562_impl_monthLengths)], narrowed := true }
def FnExactDayOfUptoSaid : Prop := fnExactDayOfUptoRow.holds Tryd.pinned (OpenSpec.upto fnExactDayOfSpec)

/-- 'laws.FnExactDateOf', WHERE WHAT IT READS IS OF BULK AT MOST 1048576: true; the input reads as it did. -/
def fnExactDateOfUptoRow : OpenClaim := { program := "ytaihfidbpkbnkabdoor", sum := "2d439c2e01b6d120707fda40e920a77ee12d42b0a21e1824847c895cc12aad5b", func := "loop.example/g00562/laws.FnExactDateOf", spec := "fnExactDateOf", named := ["loop.example/g00562/impl.monthLengths"], apart := false, laid := [("loop.example/g00562/impl.monthLengths", laid_loop_example_g00562_impl_monthLengths)], narrowed := true }
def FnExactDateOfUptoSaid : Prop := fnExactDateOfUptoRow.holds Tryd.pinned (OpenSpec.upto fnExactDateOfSpec)

/-- 'laws.FnExactMonthDays', WHERE WHAT IT READS IS OF BULK AT MOST 1048576: true; the input reads as it did. -/
def fnExactMonthDaysUptoRow : OpenClaim := { program := "ytaihfidbpkbnkabdoor", sum := "2d439c2e01b6d120707fda40e920a77ee12d42b0a21e1824847c895cc12aad5b", func := "loop.example/g00562/laws.FnExactMonthDays", spec := "fnExactMonthDays", named := ["loop.example/g00562/impl.monthLengths"], apart := false, laid := [("loop.example/g00562/impl.monthLengths", laid_loop_example_g00562_impl_monthLengths)], narrowed := true }
def FnExactMonthDaysUptoSaid : Prop := fnExactMonthDaysUptoRow.holds Tryd.pinned (OpenSpec.upto fnExactMonthDaysSpec)

end Rows
end Go.Proofs.YtaihfidbpkbnkabDoor
