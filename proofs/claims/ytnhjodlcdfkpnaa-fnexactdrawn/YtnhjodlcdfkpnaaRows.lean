/-
  No cell of these rows narrows 'for every input' (looked for: loops, veiled, ifaces, maps, wideKeys, modest, calm, conditions, laid).
  DERIVED. THE GIVEN ROWS OF THIS SEAT. 3 by the template 'for every input the law returns true; each argument reads behind the call as it read before'; 0 by the template 'total and deterministic' (their statements: YtnhjodlcdfkpnaaTotals.lean).
  GIVEN WITH THE SEED: the statements are not yours to turn. If you find one false, say at which input.
  Laid BY PROGRAM, IN A SANDBOX (cutbox-rows.mjs): the forced cells as the released guide's own fill.sh prints them over the translation f159b1110cbe711c… (all of the seat's roots in one cut). By AI agents, Wed Nov 11 2026. No macro, syntax, notation, axiom, sorry.
-/
import Derived.Test.YtnhjodlcdfkpnaaChecked
import GoSem.Claim
import GoSem.ClaimJoined
import GoSem.ClaimMapViews
import Derived.JoinedTies
import Derived.KernelRfl
namespace Go.Proofs.Ytnhjodlcdfkpnaa
/- THE CELL 'sum', in the pinned program and in every row, IS THE sha256 OF THE DUMP (.gsa) THAT YtnhjodlcdfkpnaaProg.lean LOADS. Nothing in Lean hashes anything: it is a label: what it is worth is what the hold of that sum in a sandbox is worth. -/
noncomputable def Try.pinned : Pinned := { name := "ytnhjodlcdfkpnaa", sum := "f159b1110cbe711cb81c568d16a1522282386c306dee00aa6310f15f26c61d6f", checked := Try.checked }
namespace Rows
def none {H : Type} : Left H := { results := [], args := [] }

/-- 'laws.FnExactLinesRight': WHATEVER THE INPUT: true; the input reads as it did. -/
def fnExactLinesRightSpec : ChangeSpec := { name := "fnExactLinesRight", fn := fun _ => fun
  | [d] => { results := [.lit (.bool true)], args := [d] }
  | _ => none }
def fnExactLinesRightRow : OpenClaim := { program := "ytnhjodlcdfkpnaa", sum := "f159b1110cbe711cb81c568d16a1522282386c306dee00aa6310f15f26c61d6f", func := "loop.example/g00562/laws.FnExactLinesRight", spec := "fnExactLinesRight", apart := false }
def FnExactLinesRightSaid : Prop := fnExactLinesRightRow.holds Try.pinned (OpenSpec.ofChange fnExactLinesRightSpec)

/-- ITS FALSE NEIGHBOUR: 'it returns false'. Refute it at one input. -/
def fnExactLinesRightWrong : ChangeSpec := { name := "fnExactLinesRight", fn := fun _ => fun
  | [d] => { results := [.lit (.bool false)], args := [d] }
  | _ => none }
def FnExactLinesRightWrongFalsely : Prop := fnExactLinesRightRow.holds Try.pinned (OpenSpec.ofChange fnExactLinesRightWrong)

/-- 'laws.FnExactTotalOf': WHATEVER THE INPUT: true; the input reads as it did. -/
def fnExactTotalOfSpec : ChangeSpec := { name := "fnExactTotalOf", fn := fun _ => fun
  | [d] => { results := [.lit (.bool true)], args := [d] }
  | _ => none }
def fnExactTotalOfRow : OpenClaim := { program := "ytnhjodlcdfkpnaa", sum := "f159b1110cbe711cb81c568d16a1522282386c306dee00aa6310f15f26c61d6f", func := "loop.example/g00562/laws.FnExactTotalOf", spec := "fnExactTotalOf", apart := false }
def FnExactTotalOfSaid : Prop := fnExactTotalOfRow.holds Try.pinned (OpenSpec.ofChange fnExactTotalOfSpec)

/-- ITS FALSE NEIGHBOUR: 'it returns false'. Refute it at one input. -/
def fnExactTotalOfWrong : ChangeSpec := { name := "fnExactTotalOf", fn := fun _ => fun
  | [d] => { results := [.lit (.bool false)], args := [d] }
  | _ => none }
def FnExactTotalOfWrongFalsely : Prop := fnExactTotalOfRow.holds Try.pinned (OpenSpec.ofChange fnExactTotalOfWrong)

/-- 'laws.FnExactDrawn': WHATEVER THE INPUT: true; the input reads as it did. -/
def fnExactDrawnSpec : ChangeSpec := { name := "fnExactDrawn", fn := fun _ => fun
  | [d1, d2] => { results := [.lit (.bool true)], args := [d1, d2] }
  | _ => none }
def fnExactDrawnRow : OpenClaim := { program := "ytnhjodlcdfkpnaa", sum := "f159b1110cbe711cb81c568d16a1522282386c306dee00aa6310f15f26c61d6f", func := "loop.example/g00562/laws.FnExactDrawn", spec := "fnExactDrawn", apart := false }
def FnExactDrawnSaid : Prop := fnExactDrawnRow.holds Try.pinned (OpenSpec.ofChange fnExactDrawnSpec)

/-- ITS FALSE NEIGHBOUR: 'it returns false'. Refute it at one input. -/
def fnExactDrawnWrong : ChangeSpec := { name := "fnExactDrawn", fn := fun _ => fun
  | [d1, d2] => { results := [.lit (.bool false)], args := [d1, d2] }
  | _ => none }
def FnExactDrawnWrongFalsely : Prop := fnExactDrawnRow.holds Try.pinned (OpenSpec.ofChange fnExactDrawnWrong)

/- THE SECOND FORM. 'bulk': how many values and letters a reading holds, each counted each time it is reached (what is shared counts as often as it is met; a slice's spare places count too). A statement '..UptoSaid' is the law's where the arguments, and the package variables that the reading takes, are together of bulk at most 1048576: NARROWER than '..Said'. Prove '..Said' where nothing that the law and all that it calls make is longer than what came in: it says more and counts as full. Else prove '..UptoSaid'. A law counts once. -/
mutual
def uptoBulk {H : Type} : DataW H → Nat
  | .lit (.string bytes) => bytes.length + 1
  | .lit _ => 1
  | .nil => 1
  | .ptr d => uptoBulk d + 1
  | .slice elems spare => uptoBulkAll elems + uptoBulkAll spare + 1
  | .agg parts => uptoBulkAll parts + 1
  | .iface _ d => uptoBulk d + 1
  | .map entries => uptoBulkEntries entries + 1
  | .held _ => 1
def uptoBulkAll {H : Type} : List (DataW H) → Nat
  | [] => 0
  | d :: r => uptoBulk d + uptoBulkAll r
def uptoBulkEntries {H : Type} : List (Lit × DataW H) → Nat
  | [] => 0
  | x :: r => uptoBulkEntry x + uptoBulkEntries r
def uptoBulkEntry {H : Type} : Lit × DataW H → Nat
  | (.string bytes, d) => bytes.length + uptoBulk d + 1
  | (_, d) => uptoBulk d + 1
 end
def uptoSmall : (H : Type) → List (DataW H) → Bool := fun _ ds => decide (uptoBulkAll ds ≤ 1048576)
def OpenSpec.upto (s : _root_.Go.ChangeSpec) : _root_.Go.OpenSpec := { _root_.Go.OpenSpec.ofChange s with cond := some uptoSmall }

/-- 'laws.FnExactLinesRight', WHERE WHAT IT READS IS OF BULK AT MOST 1048576: true; the input reads as it did. -/
def fnExactLinesRightUptoRow : OpenClaim := { program := "ytnhjodlcdfkpnaa", sum := "f159b1110cbe711cb81c568d16a1522282386c306dee00aa6310f15f26c61d6f", func := "loop.example/g00562/laws.FnExactLinesRight", spec := "fnExactLinesRight", apart := false, narrowed := true }
def FnExactLinesRightUptoSaid : Prop := fnExactLinesRightUptoRow.holds Try.pinned (OpenSpec.upto fnExactLinesRightSpec)

/-- 'laws.FnExactTotalOf', WHERE WHAT IT READS IS OF BULK AT MOST 1048576: true; the input reads as it did. -/
def fnExactTotalOfUptoRow : OpenClaim := { program := "ytnhjodlcdfkpnaa", sum := "f159b1110cbe711cb81c568d16a1522282386c306dee00aa6310f15f26c61d6f", func := "loop.example/g00562/laws.FnExactTotalOf", spec := "fnExactTotalOf", apart := false, narrowed := true }
def FnExactTotalOfUptoSaid : Prop := fnExactTotalOfUptoRow.holds Try.pinned (OpenSpec.upto fnExactTotalOfSpec)

/-- 'laws.FnExactDrawn', WHERE WHAT IT READS IS OF BULK AT MOST 1048576: true; the input reads as it did. -/
def fnExactDrawnUptoRow : OpenClaim := { program := "ytnhjodlcdfkpnaa", sum := "f159b1110cbe711cb81c568d16a1522282386c306dee00aa6310f15f26c61d6f", func := "loop.example/g00562/laws.FnExactDrawn", spec := "fnExactDrawn", apart := false, narrowed := true }
def FnExactDrawnUptoSaid : Prop := fnExactDrawnUptoRow.holds Try.pinned (OpenSpec.upto fnExactDrawnSpec)

end Rows
end Go.Proofs.Ytnhjodlcdfkpnaa
