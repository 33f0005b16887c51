/-
  No cell of these rows narrows 'for every input' (looked for: loops, veiled, ifaces, maps, wideKeys, modest, calm, conditions, laid).
  DERIVED. THE GIVEN ROWS OF THIS SEAT. 4 by the template 'for every input the law returns true; each argument reads behind the call as it read before'; 0 by the template 'total and deterministic' (their statements: YtnhpkcacjkebnaaTotals.lean).
  GIVEN WITH THE SEED: the statements are not yours to turn. If you find one false, say at which input.
  Laid BY PROGRAM, IN A SANDBOX (cutbox-rows.mjs): the forced cells as the released guide's own fill.sh prints them over the translation 1c4331aeda83ef7a… (all of the seat's roots in one cut). By AI agents, Wed Nov 11 2026. No macro, syntax, notation, axiom, sorry.
-/
import Derived.Test.YtnhpkcacjkebnaaChecked
import GoSem.Claim
import GoSem.ClaimJoined
import GoSem.ClaimMapViews
import Derived.JoinedTies
import Derived.KernelRfl
namespace Go.Proofs.Ytnhpkcacjkebnaa
/- THE CELL 'sum', in the pinned program and in every row, IS THE sha256 OF THE DUMP (.gsa) THAT YtnhpkcacjkebnaaProg.lean LOADS. Nothing in Lean hashes anything: it is a label: what it is worth is what the hold of that sum in a sandbox is worth. -/
noncomputable def Try.pinned : Pinned := { name := "ytnhpkcacjkebnaa", sum := "1c4331aeda83ef7a35730e6f33ba81c7df81f92f9ea8e066d9f37592709b1301", checked := Try.checked }
namespace Rows
def none {H : Type} : Left H := { results := [], args := [] }

/-- 'laws.FnExactLess': WHATEVER THE INPUT: true; the input reads as it did. -/
def fnExactLessSpec : ChangeSpec := { name := "fnExactLess", fn := fun _ => fun
  | [d1, d2] => { results := [.lit (.bool true)], args := [d1, d2] }
  | _ => none }
def fnExactLessRow : OpenClaim := { program := "ytnhpkcacjkebnaa", sum := "1c4331aeda83ef7a35730e6f33ba81c7df81f92f9ea8e066d9f37592709b1301", func := "loop.example/g00562/laws.FnExactLess", spec := "fnExactLess", unfollowed := true, recurses := true, plainKeys := false, apart := false }
def FnExactLessSaid : Prop := fnExactLessRow.holds Try.pinned (OpenSpec.ofChange fnExactLessSpec)

/-- ITS FALSE NEIGHBOUR: 'it returns false'. Refute it at one input. -/
def fnExactLessWrong : ChangeSpec := { name := "fnExactLess", fn := fun _ => fun
  | [d1, d2] => { results := [.lit (.bool false)], args := [d1, d2] }
  | _ => none }
def FnExactLessWrongFalsely : Prop := fnExactLessRow.holds Try.pinned (OpenSpec.ofChange fnExactLessWrong)

/-- 'laws.FnExactLedgerRight': WHATEVER THE INPUT: true; the input reads as it did. -/
def fnExactLedgerRightSpec : ChangeSpec := { name := "fnExactLedgerRight", fn := fun _ => fun
  | [d] => { results := [.lit (.bool true)], args := [d] }
  | _ => none }
def fnExactLedgerRightRow : OpenClaim := { program := "ytnhpkcacjkebnaa", sum := "1c4331aeda83ef7a35730e6f33ba81c7df81f92f9ea8e066d9f37592709b1301", func := "loop.example/g00562/laws.FnExactLedgerRight", spec := "fnExactLedgerRight", plainKeys := false, apart := false }
def FnExactLedgerRightSaid : Prop := fnExactLedgerRightRow.holds Try.pinned (OpenSpec.ofChange fnExactLedgerRightSpec)

/-- ITS FALSE NEIGHBOUR: 'it returns false'. Refute it at one input. -/
def fnExactLedgerRightWrong : ChangeSpec := { name := "fnExactLedgerRight", fn := fun _ => fun
  | [d] => { results := [.lit (.bool false)], args := [d] }
  | _ => none }
def FnExactLedgerRightWrongFalsely : Prop := fnExactLedgerRightRow.holds Try.pinned (OpenSpec.ofChange fnExactLedgerRightWrong)

/-- 'laws.FnExactNetOf': WHATEVER THE INPUT: true; the input reads as it did. -/
def fnExactNetOfSpec : ChangeSpec := { name := "fnExactNetOf", fn := fun _ => fun
  | [d1, d2, d3] => { results := [.lit (.bool true)], args := [d1, d2, d3] }
  | _ => none }
def fnExactNetOfRow : OpenClaim := { program := "ytnhpkcacjkebnaa", sum := "1c4331aeda83ef7a35730e6f33ba81c7df81f92f9ea8e066d9f37592709b1301", func := "loop.example/g00562/laws.FnExactNetOf", spec := "fnExactNetOf", unfollowed := true, recurses := true, plainKeys := false, apart := false }
def FnExactNetOfSaid : Prop := fnExactNetOfRow.holds Try.pinned (OpenSpec.ofChange fnExactNetOfSpec)

/-- ITS FALSE NEIGHBOUR: 'it returns false'. Refute it at one input. -/
def fnExactNetOfWrong : ChangeSpec := { name := "fnExactNetOf", fn := fun _ => fun
  | [d1, d2, d3] => { results := [.lit (.bool false)], args := [d1, d2, d3] }
  | _ => none }
def FnExactNetOfWrongFalsely : Prop := fnExactNetOfRow.holds Try.pinned (OpenSpec.ofChange fnExactNetOfWrong)

/-- 'laws.FnExactLedgerBytes': WHATEVER THE INPUT: true; the input reads as it did. -/
def fnExactLedgerBytesSpec : ChangeSpec := { name := "fnExactLedgerBytes", fn := fun _ => fun
  | [d] => { results := [.lit (.bool true)], args := [d] }
  | _ => none }
def fnExactLedgerBytesRow : OpenClaim := { program := "ytnhpkcacjkebnaa", sum := "1c4331aeda83ef7a35730e6f33ba81c7df81f92f9ea8e066d9f37592709b1301", func := "loop.example/g00562/laws.FnExactLedgerBytes", spec := "fnExactLedgerBytes", plainKeys := false, apart := false }
def FnExactLedgerBytesSaid : Prop := fnExactLedgerBytesRow.holds Try.pinned (OpenSpec.ofChange fnExactLedgerBytesSpec)

/-- ITS FALSE NEIGHBOUR: 'it returns false'. Refute it at one input. -/
def fnExactLedgerBytesWrong : ChangeSpec := { name := "fnExactLedgerBytes", fn := fun _ => fun
  | [d] => { results := [.lit (.bool false)], args := [d] }
  | _ => none }
def FnExactLedgerBytesWrongFalsely : Prop := fnExactLedgerBytesRow.holds Try.pinned (OpenSpec.ofChange fnExactLedgerBytesWrong)

/- THE SECOND FORM. 'bulk': how many values and letters a reading holds, each counted each time it is reached (what is shared counts as often as it is met; a slice's spare places count too). A statement '..UptoSaid' is the law's where the arguments, and the package variables that the reading takes, are together of bulk at most 1048576: NARROWER than '..Said'. Prove '..Said' where nothing that the law and all that it calls make is longer than what came in: it says more and counts as full. Else prove '..UptoSaid'. A law counts once. -/
mutual
def uptoBulk {H : Type} : DataW H → Nat
  | .lit (.string bytes) => bytes.length + 1
  | .lit _ => 1
  | .nil => 1
  | .ptr d => uptoBulk d + 1
  | .slice elems spare => uptoBulkAll elems + uptoBulkAll spare + 1
  | .agg parts => uptoBulkAll parts + 1
  | .iface _ d => uptoBulk d + 1
  | .map entries => uptoBulkEntries entries + 1
  | .held _ => 1
def uptoBulkAll {H : Type} : List (DataW H) → Nat
  | [] => 0
  | d :: r => uptoBulk d + uptoBulkAll r
def uptoBulkEntries {H : Type} : List (Lit × DataW H) → Nat
  | [] => 0
  | x :: r => uptoBulkEntry x + uptoBulkEntries r
def uptoBulkEntry {H : Type} : Lit × DataW H → Nat
  | (.string bytes, d) => bytes.length + uptoBulk d + 1
  | (_, d) => uptoBulk d + 1
 end
def uptoSmall : (H : Type) → List (DataW H) → Bool := fun _ ds => decide (uptoBulkAll ds ≤ 1048576)
def OpenSpec.upto (s : _root_.Go.ChangeSpec) : _root_.Go.OpenSpec := { _root_.Go.OpenSpec.ofChange s with cond := some uptoSmall }

/-- 'laws.FnExactLess', WHERE WHAT IT READS IS OF BULK AT MOST 1048576: true; the input reads as it did. -/
def fnExactLessUptoRow : OpenClaim := { program := "ytnhpkcacjkebnaa", sum := "1c4331aeda83ef7a35730e6f33ba81c7df81f92f9ea8e066d9f37592709b1301", func := "loop.example/g00562/laws.FnExactLess", spec := "fnExactLess", unfollowed := true, recurses := true, plainKeys := false, apart := false, narrowed := true }
def FnExactLessUptoSaid : Prop := fnExactLessUptoRow.holds Try.pinned (OpenSpec.upto fnExactLessSpec)

/-- 'laws.FnExactLedgerRight', WHERE WHAT IT READS IS OF BULK AT MOST 1048576: true; the input reads as it did. -/
def fnExactLedgerRightUptoRow : OpenClaim := { program := "ytnhpkcacjkebnaa", sum := "1c4331aeda83ef7a35730e6f33ba81c7df81f92f9ea8e066d9f37592709b1301", func := "loop.example/g00562/laws.FnExactLedgerRight", spec := "fnExactLedgerRight", plainKeys := false, apart := false, narrowed := true }
def FnExactLedgerRightUptoSaid : Prop := fnExactLedgerRightUptoRow.holds Try.pinned (OpenSpec.upto fnExactLedgerRightSpec)

/-- 'laws.FnExactNetOf', WHERE WHAT IT READS IS OF BULK AT MOST 1048576: true; the input reads as it did. -/
def fnExactNetOfUptoRow : OpenClaim := { program := "ytnhpkcacjkebnaa", sum := "1c4331aeda83ef7a35730e6f33ba81c7df81f92f9ea8e066d9f37592709b1301", func := "loop.example/g00562/laws.FnExactNetOf", spec := "fnExactNetOf", unfollowed := true, recurses := true, plainKeys := false, apart := false, narrowed := true }
def FnExactNetOfUptoSaid : Prop := fnExactNetOfUptoRow.holds Try.pinned (OpenSpec.upto fnExactNetOfSpec)

/-- 'laws.FnExactLedgerBytes', WHERE WHAT IT READS IS OF BULK AT MOST 1048576: true; the input reads as it did. -/
def fnExactLedgerBytesUptoRow : OpenClaim := { program := "ytnhpkcacjkebnaa", sum := "1c4331aeda83ef7a35730e6f33ba81c7df81f92f9ea8e066d9f37592709b1301", func := "loop.example/g00562/laws.FnExactLedgerBytes", spec := "fnExactLedgerBytes", plainKeys := false, apart := false, narrowed := true }
def FnExactLedgerBytesUptoSaid : Prop := fnExactLedgerBytesUptoRow.holds Try.pinned (OpenSpec.upto fnExactLedgerBytesSpec)

end Rows
end Go.Proofs.Ytnhpkcacjkebnaa
