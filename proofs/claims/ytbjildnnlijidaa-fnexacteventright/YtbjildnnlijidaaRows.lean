/-
  No cell of these rows narrows 'for every input' (looked for: loops, veiled, ifaces, maps, wideKeys, modest, calm, conditions, laid).
  DERIVED. THE GIVEN ROWS OF THIS SEAT. 4 by the template 'for every input the law returns true; each argument reads behind the call as it read before'; 0 by the template 'total and deterministic' (their statements: YtbjildnnlijidaaTotals.lean).
  GIVEN WITH THE SEED: the statements are not yours to turn. If you find one false, say at which input.
  Laid BY PROGRAM, IN A SANDBOX (cutbox-rows.mjs): the forced cells as the released guide's own fill.sh prints them over the translation dfd03c8bad0880f0… (all of the seat's roots in one cut). By AI agents, Wed Nov 11 2026. No macro, syntax, notation, axiom, sorry.
-/
import Derived.Test.YtbjildnnlijidaaChecked
import GoSem.Claim
import GoSem.ClaimJoined
import GoSem.ClaimMapViews
import Derived.JoinedTies
import Derived.KernelRfl
namespace Go.Proofs.Ytbjildnnlijidaa
/- THE CELL 'sum', in the pinned program and in every row, IS THE sha256 OF THE DUMP (.gsa) THAT YtbjildnnlijidaaProg.lean LOADS. Nothing in Lean hashes anything: it is a label: what it is worth is what the hold of that sum in a sandbox is worth. -/
noncomputable def Try.pinned : Pinned := { name := "ytbjildnnlijidaa", sum := "dfd03c8bad0880f0d9192c284ca5d2f29d4417eadb0f006daf1fd8aff7b0410b", checked := Try.checked }
namespace Rows
def none {H : Type} : Left H := { results := [], args := [] }

/-- 'laws.FnExactNameRight': WHATEVER THE INPUT: true; the input reads as it did. -/
def fnExactNameRightSpec : ChangeSpec := { name := "fnExactNameRight", fn := fun _ => fun
  | [d] => { results := [.lit (.bool true)], args := [d] }
  | _ => none }
def fnExactNameRightRow : OpenClaim := { program := "ytbjildnnlijidaa", sum := "dfd03c8bad0880f0d9192c284ca5d2f29d4417eadb0f006daf1fd8aff7b0410b", func := "loop.example/g00562/laws.FnExactNameRight", spec := "fnExactNameRight", apart := false }
def FnExactNameRightSaid : Prop := fnExactNameRightRow.holds Try.pinned (OpenSpec.ofChange fnExactNameRightSpec)

/-- ITS FALSE NEIGHBOUR: 'it returns false'. Refute it at one input. -/
def fnExactNameRightWrong : ChangeSpec := { name := "fnExactNameRight", fn := fun _ => fun
  | [d] => { results := [.lit (.bool false)], args := [d] }
  | _ => none }
def FnExactNameRightWrongFalsely : Prop := fnExactNameRightRow.holds Try.pinned (OpenSpec.ofChange fnExactNameRightWrong)

/-- 'laws.FnExactEventRight': WHATEVER THE INPUT: true; the input reads as it did. -/
def fnExactEventRightSpec : ChangeSpec := { name := "fnExactEventRight", fn := fun _ => fun
  | [d] => { results := [.lit (.bool true)], args := [d] }
  | _ => none }
def fnExactEventRightRow : OpenClaim := { program := "ytbjildnnlijidaa", sum := "dfd03c8bad0880f0d9192c284ca5d2f29d4417eadb0f006daf1fd8aff7b0410b", func := "loop.example/g00562/laws.FnExactEventRight", spec := "fnExactEventRight", apart := false }
def FnExactEventRightSaid : Prop := fnExactEventRightRow.holds Try.pinned (OpenSpec.ofChange fnExactEventRightSpec)

/-- ITS FALSE NEIGHBOUR: 'it returns false'. Refute it at one input. -/
def fnExactEventRightWrong : ChangeSpec := { name := "fnExactEventRight", fn := fun _ => fun
  | [d] => { results := [.lit (.bool false)], args := [d] }
  | _ => none }
def FnExactEventRightWrongFalsely : Prop := fnExactEventRightRow.holds Try.pinned (OpenSpec.ofChange fnExactEventRightWrong)

/-- 'laws.FnExactEventBytes': WHATEVER THE INPUT: true; the input reads as it did. -/
def fnExactEventBytesSpec : ChangeSpec := { name := "fnExactEventBytes", fn := fun _ => fun
  | [d] => { results := [.lit (.bool true)], args := [d] }
  | _ => none }
def fnExactEventBytesRow : OpenClaim := { program := "ytbjildnnlijidaa", sum := "dfd03c8bad0880f0d9192c284ca5d2f29d4417eadb0f006daf1fd8aff7b0410b", func := "loop.example/g00562/laws.FnExactEventBytes", spec := "fnExactEventBytes", apart := false }
def FnExactEventBytesSaid : Prop := fnExactEventBytesRow.holds Try.pinned (OpenSpec.ofChange fnExactEventBytesSpec)

/-- ITS FALSE NEIGHBOUR: 'it returns false'. Refute it at one input. -/
def fnExactEventBytesWrong : ChangeSpec := { name := "fnExactEventBytes", fn := fun _ => fun
  | [d] => { results := [.lit (.bool false)], args := [d] }
  | _ => none }
def FnExactEventBytesWrongFalsely : Prop := fnExactEventBytesRow.holds Try.pinned (OpenSpec.ofChange fnExactEventBytesWrong)

/-- 'laws.FnExactBatchBytes': WHATEVER THE INPUT: true; the input reads as it did. -/
def fnExactBatchBytesSpec : ChangeSpec := { name := "fnExactBatchBytes", fn := fun _ => fun
  | [d] => { results := [.lit (.bool true)], args := [d] }
  | _ => none }
def fnExactBatchBytesRow : OpenClaim := { program := "ytbjildnnlijidaa", sum := "dfd03c8bad0880f0d9192c284ca5d2f29d4417eadb0f006daf1fd8aff7b0410b", func := "loop.example/g00562/laws.FnExactBatchBytes", spec := "fnExactBatchBytes", apart := false }
def FnExactBatchBytesSaid : Prop := fnExactBatchBytesRow.holds Try.pinned (OpenSpec.ofChange fnExactBatchBytesSpec)

/-- ITS FALSE NEIGHBOUR: 'it returns false'. Refute it at one input. -/
def fnExactBatchBytesWrong : ChangeSpec := { name := "fnExactBatchBytes", fn := fun _ => fun
  | [d] => { results := [.lit (.bool false)], args := [d] }
  | _ => none }
def FnExactBatchBytesWrongFalsely : Prop := fnExactBatchBytesRow.holds Try.pinned (OpenSpec.ofChange fnExactBatchBytesWrong)

/- THE SECOND FORM. 'bulk': how many values and letters a reading holds, each counted each time it is reached (what is shared counts as often as it is met; a slice's spare places count too). A statement '..UptoSaid' is the law's where the arguments, and the package variables that the reading takes, are together of bulk at most 1048576: NARROWER than '..Said'. Prove '..Said' where nothing that the law and all that it calls make is longer than what came in: it says more and counts as full. Else prove '..UptoSaid'. A law counts once. -/
mutual
def uptoBulk {H : Type} : DataW H → Nat
  | .lit (.string bytes) => bytes.length + 1
  | .lit _ => 1
  | .nil => 1
  | .ptr d => uptoBulk d + 1
  | .slice elems spare => uptoBulkAll elems + uptoBulkAll spare + 1
  | .agg parts => uptoBulkAll parts + 1
  | .iface _ d => uptoBulk d + 1
  | .map entries => uptoBulkEntries entries + 1
  | .held _ => 1
def uptoBulkAll {H : Type} : List (DataW H) → Nat
  | [] => 0
  | d :: r => uptoBulk d + uptoBulkAll r
def uptoBulkEntries {H : Type} : List (Lit × DataW H) → Nat
  | [] => 0
  | x :: r => uptoBulkEntry x + uptoBulkEntries r
def uptoBulkEntry {H : Type} : Lit × DataW H → Nat
  | (.string bytes, d) => bytes.length + uptoBulk d + 1
  | (_, d) => uptoBulk d + 1
 end
def uptoSmall : (H : Type) → List (DataW H) → Bool := fun _ ds => decide (uptoBulkAll ds ≤ 1048576)
def OpenSpec.upto (s : _root_.Go.ChangeSpec) : _root_.Go.OpenSpec := { _root_.Go.OpenSpec.ofChange s with cond := some uptoSmall }

/-- 'laws.FnExactNameRight', WHERE WHAT IT READS IS OF BULK AT MOST 1048576: true; the input reads as it did. -/
def fnExactNameRightUptoRow : OpenClaim := { program := "ytbjildnnlijidaa", sum := "dfd03c8bad0880f0d9192c284ca5d2f29d4417eadb0f006daf1fd8aff7b0410b", func := "loop.example/g00562/laws.FnExactNameRight", spec := "fnExactNameRight", apart := false, narrowed := true }
def FnExactNameRightUptoSaid : Prop := fnExactNameRightUptoRow.holds Try.pinned (OpenSpec.upto fnExactNameRightSpec)

/-- 'laws.FnExactEventRight', WHERE WHAT IT READS IS OF BULK AT MOST 1048576: true; the input reads as it did. -/
def fnExactEventRightUptoRow : OpenClaim := { program := "ytbjildnnlijidaa", sum := "dfd03c8bad0880f0d9192c284ca5d2f29d4417eadb0f006daf1fd8aff7b0410b", func := "loop.example/g00562/laws.FnExactEventRight", spec := "fnExactEventRight", apart := false, narrowed := true }
def FnExactEventRightUptoSaid : Prop := fnExactEventRightUptoRow.holds Try.pinned (OpenSpec.upto fnExactEventRightSpec)

/-- 'laws.FnExactEventBytes', WHERE WHAT IT READS IS OF BULK AT MOST 1048576: true; the input reads as it did. -/
def fnExactEventBytesUptoRow : OpenClaim := { program := "ytbjildnnlijidaa", sum := "dfd03c8bad0880f0d9192c284ca5d2f29d4417eadb0f006daf1fd8aff7b0410b", func := "loop.example/g00562/laws.FnExactEventBytes", spec := "fnExactEventBytes", apart := false, narrowed := true }
def FnExactEventBytesUptoSaid : Prop := fnExactEventBytesUptoRow.holds Try.pinned (OpenSpec.upto fnExactEventBytesSpec)

/-- 'laws.FnExactBatchBytes', WHERE WHAT IT READS IS OF BULK AT MOST 1048576: true; the input reads as it did. -/
def fnExactBatchBytesUptoRow : OpenClaim := { program := "ytbjildnnlijidaa", sum := "dfd03c8bad0880f0d9192c284ca5d2f29d4417eadb0f006daf1fd8aff7b0410b", func := "loop.example/g00562/laws.FnExactBatchBytes", spec := "fnExactBatchBytes", apart := false, narrowed := true }
def FnExactBatchBytesUptoSaid : Prop := fnExactBatchBytesUptoRow.holds Try.pinned (OpenSpec.upto fnExactBatchBytesSpec)

end Rows
end Go.Proofs.Ytbjildnnlijidaa
