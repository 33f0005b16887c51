/-
  No cell of these rows narrows 'for every input' (looked for: loops, veiled, ifaces, maps, wideKeys, modest, calm, conditions, laid).
  DERIVED. THE GIVEN ROWS OF THIS SEAT. 2 by the template 'for every input the law returns true; each argument reads behind the call as it read before'; 0 by the template 'total and deterministic' (their statements: YtaihfidbpkbnkacTotals.lean).
  GIVEN WITH THE SEED: the statements are not yours to turn. If you find one false, say at which input.
  Laid BY PROGRAM, IN A SANDBOX (cutbox-rows.mjs): the forced cells as the released guide's own fill.sh prints them over the translation b908ed09525f6e4e… (all of the seat's roots in one cut). By AI agents, Wed Nov 11 2026. No macro, syntax, notation, axiom, sorry.
-/
import Derived.Test.YtaihfidbpkbnkacChecked
import GoSem.Claim
import GoSem.ClaimJoined
import GoSem.ClaimMapViews
import Derived.JoinedTies
import Derived.KernelRfl
namespace Go.Proofs.Ytaihfidbpkbnkac
/- THE CELL 'sum', in the pinned program and in every row, IS THE sha256 OF THE DUMP (.gsa) THAT YtaihfidbpkbnkacProg.lean LOADS. Nothing in Lean hashes anything: it is a label: what it is worth is what the hold of that sum in a sandbox is worth. -/
noncomputable def Try.pinned : Pinned := { name := "ytaihfidbpkbnkac", sum := "b908ed09525f6e4e5987cb19310a7d7260e5539f6f40c09f4815ce6f87761c22", checked := Try.checked }
namespace Rows
def none {H : Type} : Left H := { results := [], args := [] }

/-- 'laws.FnExactFreeDay': WHATEVER THE INPUT: true; the input reads as it did. -/
def fnExactFreeDaySpec : ChangeSpec := { name := "fnExactFreeDay", fn := fun _ => fun
  | [d1, d2] => { results := [.lit (.bool true)], args := [d1, d2] }
  | _ => none }
def fnExactFreeDayRow : OpenClaim := { program := "ytaihfidbpkbnkac", sum := "b908ed09525f6e4e5987cb19310a7d7260e5539f6f40c09f4815ce6f87761c22", func := "loop.example/g00562/laws.FnExactFreeDay", spec := "fnExactFreeDay", apart := false }
def FnExactFreeDaySaid : Prop := fnExactFreeDayRow.holds Try.pinned (OpenSpec.ofChange fnExactFreeDaySpec)

/-- ITS FALSE NEIGHBOUR: 'it returns false'. Refute it at one input. -/
def fnExactFreeDayWrong : ChangeSpec := { name := "fnExactFreeDay", fn := fun _ => fun
  | [d1, d2] => { results := [.lit (.bool false)], args := [d1, d2] }
  | _ => none }
def FnExactFreeDayWrongFalsely : Prop := fnExactFreeDayRow.holds Try.pinned (OpenSpec.ofChange fnExactFreeDayWrong)

/-- 'laws.FnExactNextOpen': WHATEVER THE INPUT: true; the input reads as it did. -/
def fnExactNextOpenSpec : ChangeSpec := { name := "fnExactNextOpen", fn := fun _ => fun
  | [d1, d2] => { results := [.lit (.bool true)], args := [d1, d2] }
  | _ => none }
def fnExactNextOpenRow : OpenClaim := { program := "ytaihfidbpkbnkac", sum := "b908ed09525f6e4e5987cb19310a7d7260e5539f6f40c09f4815ce6f87761c22", func := "loop.example/g00562/laws.FnExactNextOpen", spec := "fnExactNextOpen", apart := false }
def FnExactNextOpenSaid : Prop := fnExactNextOpenRow.holds Try.pinned (OpenSpec.ofChange fnExactNextOpenSpec)

/-- ITS FALSE NEIGHBOUR: 'it returns false'. Refute it at one input. -/
def fnExactNextOpenWrong : ChangeSpec := { name := "fnExactNextOpen", fn := fun _ => fun
  | [d1, d2] => { results := [.lit (.bool false)], args := [d1, d2] }
  | _ => none }
def FnExactNextOpenWrongFalsely : Prop := fnExactNextOpenRow.holds Try.pinned (OpenSpec.ofChange fnExactNextOpenWrong)

/- THE SECOND FORM. 'bulk': how many values and letters a reading holds, each counted each time it is reached (what is shared counts as often as it is met; a slice's spare places count too). A statement '..UptoSaid' is the law's where the arguments, and the package variables that the reading takes, are together of bulk at most 1048576: NARROWER than '..Said'. Prove '..Said' where nothing that the law and all that it calls make is longer than what came in: it says more and counts as full. Else prove '..UptoSaid'. A law counts once. -/
mutual
def uptoBulk {H : Type} : DataW H → Nat
  | .lit (.string bytes) => bytes.length + 1
  | .lit _ => 1
  | .nil => 1
  | .ptr d => uptoBulk d + 1
  | .slice elems spare => uptoBulkAll elems + uptoBulkAll spare + 1
  | .agg parts => uptoBulkAll parts + 1
  | .iface _ d => uptoBulk d + 1
  | .map entries => uptoBulkEntries entries + 1
  | .held _ => 1
def uptoBulkAll {H : Type} : List (DataW H) → Nat
  | [] => 0
  | d :: r => uptoBulk d + uptoBulkAll r
def uptoBulkEntries {H : Type} : List (Lit × DataW H) → Nat
  | [] => 0
  | x :: r => uptoBulkEntry x + uptoBulkEntries r
def uptoBulkEntry {H : Type} : Lit × DataW H → Nat
  | (.string bytes, d) => bytes.length + uptoBulk d + 1
  | (_, d) => uptoBulk d + 1
 end
def uptoSmall : (H : Type) → List (DataW H) → Bool := fun _ ds => decide (uptoBulkAll ds ≤ 1048576)
def OpenSpec.upto (s : _root_.Go.ChangeSpec) : _root_.Go.OpenSpec := { _root_.Go.OpenSpec.ofChange s with cond := some uptoSmall }

/-- 'laws.FnExactFreeDay', WHERE WHAT IT READS IS OF BULK AT MOST 1048576: true; the input reads as it did. -/
def fnExactFreeDayUptoRow : OpenClaim := { program := "ytaihfidbpkbnkac", sum := "b908ed09525f6e4e5987cb19310a7d7260e5539f6f40c09f4815ce6f87761c22", func := "loop.example/g00562/laws.FnExactFreeDay", spec := "fnExactFreeDay", apart := false, narrowed := true }
def FnExactFreeDayUptoSaid : Prop := fnExactFreeDayUptoRow.holds Try.pinned (OpenSpec.upto fnExactFreeDaySpec)

/-- 'laws.FnExactNextOpen', WHERE WHAT IT READS IS OF BULK AT MOST 1048576: true; the input reads as it did. -/
def fnExactNextOpenUptoRow : OpenClaim := { program := "ytaihfidbpkbnkac", sum := "b908ed09525f6e4e5987cb19310a7d7260e5539f6f40c09f4815ce6f87761c22", func := "loop.example/g00562/laws.FnExactNextOpen", spec := "fnExactNextOpen", apart := false, narrowed := true }
def FnExactNextOpenUptoSaid : Prop := fnExactNextOpenUptoRow.holds Try.pinned (OpenSpec.upto fnExactNextOpenSpec)

end Rows
end Go.Proofs.Ytaihfidbpkbnkac
