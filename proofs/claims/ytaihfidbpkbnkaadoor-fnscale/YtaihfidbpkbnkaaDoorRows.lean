/-
  NARROWER THAN 'FOR EVERY INPUT', by the rows' own cells (each row's printed sentence says how): FnFix: ifaces, laid · FnScale: ifaces, laid · FnDate: laid · FnExactTimesParts: ifaces, laid · FnExactPercent: ifaces, laid.
  DERIVED. THE GIVEN ROWS OF THIS SEAT. 5 by the template 'for every input the law returns true; each argument reads behind the call as it read before'; 0 by the template 'total and deterministic' (their statements: YtaihfidbpkbnkaaDoorTotals.lean).
  GIVEN WITH THE SEED: the statements are not yours to turn. If you find one false, say at which input.
  Laid BY PROGRAM, IN A SANDBOX (cutbox-rows.mjs): the forced cells as the released guide's own fill.sh prints them over the translation 001041e4a316926a… (all of the seat's roots in one cut). By AI agents, Wed Nov 11 2026. No macro, syntax, notation, axiom, sorry.
-/
import Derived.Test.YtaihfidbpkbnkaaDoorChecked
import GoSem.Claim
import GoSem.ClaimJoined
import GoSem.ClaimMapViews
import Derived.JoinedTies
import Derived.KernelRfl
namespace Go.Proofs.YtaihfidbpkbnkaaDoor
/- THE CELL 'sum', in the pinned program and in every row, IS THE sha256 OF THE DUMP (.gsa) THAT YtaihfidbpkbnkaaDoorProg.lean LOADS. Nothing in Lean hashes anything: it is a label: what it is worth is what the hold of that sum in a sandbox is worth. -/
noncomputable def Tryd.pinned : Pinned := { name := "ytaihfidbpkbnkaadoor", sum := "001041e4a316926a69b6eef5fa47e01d081e57d562a9912c5899e64794284f94", checked := Tryd.checked }
namespace Rows
def none {H : Type} : Left H := { results := [], args := [] }

/- WHAT THE LISTED PACKAGE-LEVEL VARIABLES READ AS WHEN THE CALL BEGINS. Each datum BY PROGRAM (the guide's laid-datum.mjs) off the statement by which the dump's own 'gosem.cut.vars' lays the variable. In a bare row this is a premise. The card (YtaihfidbpkbnkaaDoorCards.lean) ties it to the program's text. -/
def laid_loop_example_g00562_impl_errRunsOver {H : Type} : DataW H := .iface "*errors.errorString" (.ptr (.agg [.lit (.string [110, 117, 109, 98, 101, 114, 32, 114, 117, 110, 115, 32, 111, 118, 101, 114])]))
def laid_math_bits_deBruijn32tab {H : Type} : DataW H := .agg [.lit (.int .u8 0), .lit (.int .u8 1), .lit (.int .u8 28), .lit (.int .u8 2), .lit (.int .u8 29), .lit (.int .u8 14), .lit (.int .u8 24), .lit (.int .u8 3), .lit (.int .u8 30), .lit (.int .u8 22), .lit (.int .u8 20), .lit (.int .u8 15), .lit (.int .u8 25), .lit (.int .u8 17), .lit (.int .u8 4), .lit (.int .u8 8), .lit (.int .u8 31), .lit (.int .u8 27), .lit (.int .u8 13), .lit (.int .u8 23), .lit (.int .u8 21), .lit (.int .u8 19), .lit (.int .u8 16), .lit (.int .u8 7), .lit (.int .u8 26), .lit (.int .u8 12), .lit (.int .u8 18), .lit (.int .u8 6), .lit (.int .u8 11), .lit (.int .u8 5), .lit (.int .u8 10), .lit (.int .u8 9)]
def laid_math_bits_deBruijn64tab {H : Type} : DataW H := .agg [.lit (.int .u8 0), .lit (.int .u8 1), .lit (.int .u8 56), .lit (.int .u8 2), .lit (.int .u8 57), .lit (.int .u8 49), .lit (.int .u8 28), .lit (.int .u8 3), .lit (.int .u8 61), .lit (.int .u8 58), .lit (.int .u8 42), .lit (.int .u8 50), .lit (.int .u8 38), .lit (.int .u8 29), .lit (.int .u8 17), .lit (.int .u8 4), .lit (.int .u8 62), .lit (.int .u8 47), .lit (.int .u8 59), .lit (.int .u8 36), .lit (.int .u8 45), .lit (.int .u8 43), .lit (.int .u8 51), .lit (.int .u8 22), .lit (.int .u8 53), .lit (.int .u8 39), .lit (.int .u8 33), .lit (.int .u8 30), .lit (.int .u8 24), .lit (.int .u8 18), .lit (.int .u8 12), .lit (.int .u8 5), .lit (.int .u8 63), .lit (.int .u8 55), .lit (.int .u8 48), .lit (.int .u8 27), .lit (.int .u8 60), .lit (.int .u8 41), .lit (.int .u8 37), .lit (.int .u8 16), .lit (.int .u8 46), .lit (.int .u8 35), .lit (.int .u8 44), .lit (.int .u8 21), .lit (.int .u8 52), .lit (.int .u8 32), .lit (.int .u8 23), .lit (.int .u8 11), .lit (.int .u8 54), .lit (.int .u8 26), .lit (.int .u8 40), .lit (.int .u8 15), .lit (.int .u8 34), .lit (.int .u8 20), .lit (.int .u8 31), .lit (.int .u8 10), .lit (.int .u8 25), .lit (.int .u8 14), .lit (.int .u8 19), .lit (.int .u8 9), .lit (.int .u8 13), .lit (.int .u8 8), .lit (.int .u8 7), .lit (.int .u8 6)]
def laid_internal_strconv_uint64pow10 {H : Type} : DataW H := .agg [.lit (.int .u64 1), .lit (.int .u64 10), .lit (.int .u64 100), .lit (.int .u64 1000), .lit (.int .u64 10000), .lit (.int .u64 100000), .lit (.int .u64 1000000), .lit (.int .u64 10000000), .lit (.int .u64 100000000), .lit (.int .u64 1000000000), .lit (.int .u64 10000000000), .lit (.int .u64 100000000000), .lit (.int .u64 1000000000000), .lit (.int .u64 10000000000000), .lit (.int .u64 100000000000000), .lit (.int .u64 1000000000000000), .lit (.int .u64 10000000000000000), .lit (.int .u64 100000000000000000), .lit (.int .u64 1000000000000000000), .lit (.int .u64 10000000000000000000)]
def laid_strconv_ErrRange {H : Type} : DataW H := .iface "*errors.errorString" (.ptr (.agg [.lit (.string [118, 97, 108, 117, 101, 32, 111, 117, 116, 32, 111, 102, 32, 114, 97, 110, 103, 101])]))
def laid_strconv_ErrSyntax {H : Type} : DataW H := .iface "*errors.errorString" (.ptr (.agg [.lit (.string [105, 110, 118, 97, 108, 105, 100, 32, 115, 121, 110, 116, 97, 120])]))
def laid_loop_example_g00562_impl_monthLengths {H : Type} : DataW H := .agg [.lit (.int .i64 31), .lit (.int .i64 28), .lit (.int .i64 31), .lit (.int .i64 30), .lit (.int .i64 31), .lit (.int .i64 30), .lit (.int .i64 31), .lit (.int .i64 31), .lit (.int .i64 30), .lit (.int .i64 31), .lit (.int .i64 30), .lit (.int .i64 31)]

/-- 'laws.FnFix': WHATEVER THE INPUT: true; the input reads as it did. -/
def fnFixSpec : ChangeSpec := { name := "fnFix", vars := ["loop.example/g00562/impl.errRunsOver"], fn := fun _ => fun
  | [d1, d2, g1] => { results := [.lit (.bool true)], args := [d1, d2], vars := [g1] }
  | _ => none }
def fnFixRow : OpenClaim := { program := "ytaihfidbpkbnkaadoor", sum := "001041e4a316926a69b6eef5fa47e01d081e57d562a9912c5899e64794284f94", func := "loop.example/g00562/laws.FnFix", spec := "fnFix", unfollowed := true, recurses := true, named := ["loop.example/g00562/impl.errRunsOver"], ifaces := true, apart := false, laid := [("loop.example/g00562/impl.errRunsOver", laid_loop_example_g00562_impl_errRunsOver)] }
def FnFixSaid : Prop := fnFixRow.holds Tryd.pinned (OpenSpec.ofChange fnFixSpec)

/-- ITS FALSE NEIGHBOUR: 'it returns false'. Refute it at one input. -/
def fnFixWrong : ChangeSpec := { name := "fnFix", vars := ["loop.example/g00562/impl.errRunsOver"], fn := fun _ => fun
  | [d1, d2, g1] => { results := [.lit (.bool false)], args := [d1, d2], vars := [g1] }
  | _ => none }
def FnFixWrongFalsely : Prop := fnFixRow.holds Tryd.pinned (OpenSpec.ofChange fnFixWrong)

/-- 'laws.FnScale': WHATEVER THE INPUT: true; the input reads as it did. -/
def fnScaleSpec : ChangeSpec := { name := "fnScale", vars := ["loop.example/g00562/impl.errRunsOver"], fn := fun _ => fun
  | [d1, d2, g1] => { results := [.lit (.bool true)], args := [d1, d2], vars := [g1] }
  | _ => none }
def fnScaleRow : OpenClaim := { program := "ytaihfidbpkbnkaadoor", sum := "001041e4a316926a69b6eef5fa47e01d081e57d562a9912c5899e64794284f94", func := "loop.example/g00562/laws.FnScale", spec := "fnScale", unfollowed := true, recurses := true, named := ["loop.example/g00562/impl.errRunsOver", "math/bits.divideError", "math/bits.overflowError"], ifaces := true, apart := false, laid := [("loop.example/g00562/impl.errRunsOver", laid_loop_example_g00562_impl_errRunsOver)] }
def FnScaleSaid : Prop := fnScaleRow.holds Tryd.pinned (OpenSpec.ofChange fnScaleSpec)

/-- ITS FALSE NEIGHBOUR: 'it returns false'. Refute it at one input. -/
def fnScaleWrong : ChangeSpec := { name := "fnScale", vars := ["loop.example/g00562/impl.errRunsOver"], fn := fun _ => fun
  | [d1, d2, g1] => { results := [.lit (.bool false)], args := [d1, d2], vars := [g1] }
  | _ => none }
def FnScaleWrongFalsely : Prop := fnScaleRow.holds Tryd.pinned (OpenSpec.ofChange fnScaleWrong)

/-- 'laws.FnDate': WHATEVER THE INPUT: true; the input reads as it did. -/
def fnDateSpec : ChangeSpec := { name := "fnDate", vars := ["loop.example/g00562/impl.monthLengths"], fn := fun _ => fun
  | [d1, d2, g1] => { results := [.lit (.bool true)], args := [d1, d2], vars := [g1] }
  | _ => none }
def fnDateRow : OpenClaim := { program := "ytaihfidbpkbnkaadoor", sum := "001041e4a316926a69b6eef5fa47e01d081e57d562a9912c5899e64794284f94", func := "loop.example/g00562/laws.FnDate", spec := "fnDate", named := ["loop.example/g00562/impl.monthLengths", "internal/strconv.uint64pow10", "math/bits.deBruijn32tab", "math/bits.deBruijn64tab", "strconv.ErrSyntax", "strconv.ErrRange"], apart := false, laid := [("math/bits.deBruijn32tab", laid_math_bits_deBruijn32tab), ("math/bits.deBruijn64tab", laid_math_bits_deBruijn64tab), ("internal/strconv.uint64pow10", laid_internal_strconv_uint64pow10), ("strconv.ErrRange", laid_strconv_ErrRange), ("strconv.ErrSyntax", laid_strconv_ErrSyntax), ("loop.example/g00562/impl.monthLengths", laid_loop_example_g00562_impl_monthLengths)] }
def FnDateSaid : Prop := fnDateRow.holds Tryd.pinned (OpenSpec.ofChange fnDateSpec)

/-- ITS FALSE NEIGHBOUR: 'it returns false'. Refute it at one input. -/
def fnDateWrong : ChangeSpec := { name := "fnDate", vars := ["loop.example/g00562/impl.monthLengths"], fn := fun _ => fun
  | [d1, d2, g1] => { results := [.lit (.bool false)], args := [d1, d2], vars := [g1] }
  | _ => none }
def FnDateWrongFalsely : Prop := fnDateRow.holds Tryd.pinned (OpenSpec.ofChange fnDateWrong)

/-- 'laws.FnExactTimesParts': WHATEVER THE INPUT: true; the input reads as it did. -/
def fnExactTimesPartsSpec : ChangeSpec := { name := "fnExactTimesParts", vars := ["loop.example/g00562/impl.errRunsOver"], fn := fun _ => fun
  | [d1, d2, d3, d4, g1] => { results := [.lit (.bool true)], args := [d1, d2, d3, d4], vars := [g1] }
  | _ => none }
def fnExactTimesPartsRow : OpenClaim := { program := "ytaihfidbpkbnkaadoor", sum := "001041e4a316926a69b6eef5fa47e01d081e57d562a9912c5899e64794284f94", func := "loop.example/g00562/laws.FnExactTimesParts", spec := "fnExactTimesParts", unfollowed := true, recurses := true, named := ["loop.example/g00562/impl.errRunsOver", "math/bits.divideError", "math/bits.overflowError"], ifaces := true, apart := false, laid := [("loop.example/g00562/impl.errRunsOver", laid_loop_example_g00562_impl_errRunsOver)] }
def FnExactTimesPartsSaid : Prop := fnExactTimesPartsRow.holds Tryd.pinned (OpenSpec.ofChange fnExactTimesPartsSpec)

/-- ITS FALSE NEIGHBOUR: 'it returns false'. Refute it at one input. -/
def fnExactTimesPartsWrong : ChangeSpec := { name := "fnExactTimesParts", vars := ["loop.example/g00562/impl.errRunsOver"], fn := fun _ => fun
  | [d1, d2, d3, d4, g1] => { results := [.lit (.bool false)], args := [d1, d2, d3, d4], vars := [g1] }
  | _ => none }
def FnExactTimesPartsWrongFalsely : Prop := fnExactTimesPartsRow.holds Tryd.pinned (OpenSpec.ofChange fnExactTimesPartsWrong)

/-- 'laws.FnExactPercent': WHATEVER THE INPUT: true; the input reads as it did. -/
def fnExactPercentSpec : ChangeSpec := { name := "fnExactPercent", vars := ["loop.example/g00562/impl.errRunsOver"], fn := fun _ => fun
  | [d1, d2, g1] => { results := [.lit (.bool true)], args := [d1, d2], vars := [g1] }
  | _ => none }
def fnExactPercentRow : OpenClaim := { program := "ytaihfidbpkbnkaadoor", sum := "001041e4a316926a69b6eef5fa47e01d081e57d562a9912c5899e64794284f94", func := "loop.example/g00562/laws.FnExactPercent", spec := "fnExactPercent", unfollowed := true, recurses := true, named := ["loop.example/g00562/impl.errRunsOver", "math/bits.divideError", "math/bits.overflowError"], ifaces := true, apart := false, laid := [("loop.example/g00562/impl.errRunsOver", laid_loop_example_g00562_impl_errRunsOver)] }
def FnExactPercentSaid : Prop := fnExactPercentRow.holds Tryd.pinned (OpenSpec.ofChange fnExactPercentSpec)

/-- ITS FALSE NEIGHBOUR: 'it returns false'. Refute it at one input. -/
def fnExactPercentWrong : ChangeSpec := { name := "fnExactPercent", vars := ["loop.example/g00562/impl.errRunsOver"], fn := fun _ => fun
  | [d1, d2, g1] => { results := [.lit (.bool false)], args := [d1, d2], vars := [g1] }
  | _ => none }
def FnExactPercentWrongFalsely : Prop := fnExactPercentRow.holds Tryd.pinned (OpenSpec.ofChange fnExactPercentWrong)

/- THE SECOND FORM. 'bulk': how many values and letters a reading holds, each counted each time it is reached (what is shared counts as often as it is met; a slice's spare places count too). A statement '..UptoSaid' is the law's where the arguments, and the package variables that the reading takes, are together of bulk at most 1048576: NARROWER than '..Said'. Prove '..Said' where nothing that the law and all that it calls make is longer than what came in: it says more and counts as full. Else prove '..UptoSaid'. A law counts once. -/
mutual
def uptoBulk {H : Type} : DataW H → Nat
  | .lit (.string bytes) => bytes.length + 1
  | .lit _ => 1
  | .nil => 1
  | .ptr d => uptoBulk d + 1
  | .slice elems spare => uptoBulkAll elems + uptoBulkAll spare + 1
  | .agg parts => uptoBulkAll parts + 1
  | .iface _ d => uptoBulk d + 1
  | .map entries => uptoBulkEntries entries + 1
  | .held _ => 1
def uptoBulkAll {H : Type} : List (DataW H) → Nat
  | [] => 0
  | d :: r => uptoBulk d + uptoBulkAll r
def uptoBulkEntries {H : Type} : List (Lit × DataW H) → Nat
  | [] => 0
  | x :: r => uptoBulkEntry x + uptoBulkEntries r
def uptoBulkEntry {H : Type} : Lit × DataW H → Nat
  | (.string bytes, d) => bytes.length + uptoBulk d + 1
  | (_, d) => uptoBulk d + 1
 end
def uptoSmall : (H : Type) → List (DataW H) → Bool := fun _ ds => decide (uptoBulkAll ds ≤ 1048576)
def OpenSpec.upto (s : _root_.Go.ChangeSpec) : _root_.Go.OpenSpec := { _root_.Go.OpenSpec.ofChange s with cond := some uptoSmall }

/-- 'laws.FnFix', WHERE WHAT IT READS IS OF BULK AT MOST 1048576: true; the input reads as it did. -/
def fnFixUptoRow : OpenClaim := { program := "ytaihfidbpkbnkaadoor", sum := "001041e4a316926a69b6eef5fa47e01d081e57d562a9912c5899e64794284f94", func := "loop.example/g00562/laws.FnFix", spec := "fnFix", unfollowed := true, recurses := true, named := ["loop.example/g00562/impl.errRunsOver"], ifaces := true, apart := false, laid := [("loop.example/g00562/impl.errRunsOver", laid_loop_example_g00562_impl_errRunsOver)], narrowed := true }
def FnFixUptoSaid : Prop := fnFixUptoRow.holds Tryd.pinned (OpenSpec.upto fnFixSpec)

/-- 'laws.FnScale', WHERE WHAT IT READS IS OF BULK AT MOST 1048576: true; the input reads as it did. -/
def fnScaleUptoRow : OpenClaim := { program := "ytaihfidbpkbnkaadoor", sum := "001041e4a316926a69b6eef5fa47e01d081e57d562a9912c5899e64794284f94", func := "loop.example/g00562/laws.FnScale", spec := "fnScale", unfollowed := true, recurses := true, named := ["loop.example/g00562/impl.errRunsOver", "math/bits.divideError", "math/bits.overflowError"], ifaces := true, apart := false, laid := [("loop.example/g00562/impl.errRunsOver", laid_loop_example_g00562_impl_errRunsOver)], narrowed := true }
def FnScaleUptoSaid : Prop := fnScaleUptoRow.holds Tryd.pinned (OpenSpec.upto fnScaleSpec)

/-- 'laws.FnDate', WHERE WHAT IT READS IS OF BULK AT MOST 1048576: true; the input reads as it did. -/
def fnDateUptoRow : OpenClaim := { program := "ytaihfidbpkbnkaadoor", sum := "001041e4a316926a69b6eef5fa47e01d081e57d562a9912c5899e64794284f94", func := "loop.example/g00562/laws.FnDate", spec := "fnDate", named := ["loop.example/g00562/impl.monthLengths", "internal/strconv.uint64pow10", "math/bits.deBruijn32tab", "math/bits.deBruijn64tab", "strconv.ErrSyntax", "strconv.ErrRange"], apart := false, laid := [("math/bits.deBruijn32tab", laid_math_bits_deBruijn32tab), ("math/bits.deBruijn64tab", laid_math_bits_deBruijn64tab), ("internal/strconv.uint64pow10", laid_internal_strconv_uint64pow10), ("strconv.ErrRange", laid_strconv_ErrRange), ("strconv.ErrSyntax", laid_strconv_ErrSyntax), ("loop.example/g00562/impl.monthLengths", laid_loop_example_g00562_impl_monthLengths)], narrowed := true }
def FnDateUptoSaid : Prop := fnDateUptoRow.holds Tryd.pinned (OpenSpec.upto fnDateSpec)

/-- 'laws.FnExactTimesParts', WHERE WHAT IT READS IS OF BULK AT MOST 1048576: true; the input reads as it did. -/
def fnExactTimesPartsUptoRow : OpenClaim := { program := "ytaihfidbpkbnkaadoor", sum := "001041e4a316926a69b6eef5fa47e01d081e57d562a9912c5899e64794284f94", func := "loop.example/g00562/laws.FnExactTimesParts", spec := "fnExactTimesParts", unfollowed := true, recurses := true, named := ["loop.example/g00562/impl.errRunsOver", "math/bits.divideError", "math/bits.overflowError"], ifaces := true, apart := false, laid := [("loop.example/g00562/impl.errRunsOver", laid_loop_example_g00562_impl_errRunsOver)], narrowed := true }
def FnExactTimesPartsUptoSaid : Prop := fnExactTimesPartsUptoRow.holds Tryd.pinned (OpenSpec.upto fnExactTimesPartsSpec)

/-- 'laws.FnExactPercent', WHERE WHAT IT READS IS OF BULK AT MOST 1048576: true; the input reads as it did. -/
def fnExactPercentUptoRow : OpenClaim := { program := "ytaihfidbpkbnkaadoor", sum := "001041e4a316926a69b6eef5fa47e01d081e57d562a9912c5899e64794284f94", func := "loop.example/g00562/laws.FnExactPercent", spec := "fnExactPercent", unfollowed := true, recurses := true, named := ["loop.example/g00562/impl.errRunsOver", "math/bits.divideError", "math/bits.overflowError"], ifaces := true, apart := false, laid := [("loop.example/g00562/impl.errRunsOver", laid_loop_example_g00562_impl_errRunsOver)], narrowed := true }
def FnExactPercentUptoSaid : Prop := fnExactPercentUptoRow.holds Tryd.pinned (OpenSpec.upto fnExactPercentSpec)

end Rows
end Go.Proofs.YtaihfidbpkbnkaaDoor
