/-
  NARROWER THAN 'FOR EVERY INPUT', by the rows' own cells (each row's printed sentence says how): FnExactWindowAdd: laid · FnExactWindowRead: laid.
  DERIVED. THE GIVEN ROWS OF THIS SEAT. 2 by the template 'for every input the law returns true; each argument reads behind the call as it read before'; 0 by the template 'total and deterministic' (their statements: YtnlmpejgiakepaaDoorTotals.lean).
  GIVEN WITH THE SEED: the statements are not yours to turn. If you find one false, say at which input.
  Laid BY PROGRAM, IN A SANDBOX (cutbox-rows.mjs): the forced cells as the released guide's own fill.sh prints them over the translation dd738a98ee1e4b0a… (all of the seat's roots in one cut). By AI agents, Wed Nov 11 2026. No macro, syntax, notation, axiom, sorry.
-/
import Derived.Test.YtnlmpejgiakepaaDoorChecked
import GoSem.Claim
import GoSem.ClaimJoined
import GoSem.ClaimMapViews
import Derived.JoinedTies
import Derived.KernelRfl
namespace Go.Proofs.YtnlmpejgiakepaaDoor
/- THE CELL 'sum', in the pinned program and in every row, IS THE sha256 OF THE DUMP (.gsa) THAT YtnlmpejgiakepaaDoorProg.lean LOADS. Nothing in Lean hashes anything: it is a label: what it is worth is what the hold of that sum in a sandbox is worth. -/
noncomputable def Tryd.pinned : Pinned := { name := "ytnlmpejgiakepaadoor", sum := "dd738a98ee1e4b0a686bb7e37e106d8796742d9baa174bd9e6d152b78b9f5be5", checked := Tryd.checked }
namespace Rows
def none {H : Type} : Left H := { results := [], args := [] }

/- WHAT THE LISTED PACKAGE-LEVEL VARIABLES READ AS WHEN THE CALL BEGINS. Each datum BY PROGRAM (the guide's laid-datum.mjs) off the statement by which the dump's own 'gosem.cut.vars' lays the variable. In a bare row this is a premise. The card (YtnlmpejgiakepaaDoorCards.lean) ties it to the program's text. -/
def laid_loop_example_g00562_impl_monthLengths {H : Type} : DataW H := .agg [.lit (.int .i64 31), .lit (.int .i64 28), .lit (.int .i64 31), .lit (.int .i64 30), .lit (.int .i64 31), .lit (.int .i64 30), .lit (.int .i64 31), .lit (.int .i64 31), .lit (.int .i64 30), .lit (.int .i64 31), .lit (.int .i64 30), .lit (.int .i64 31)]

/-- 'laws.FnExactWindowAdd': WHATEVER THE INPUT: true; the input reads as it did. -/
def fnExactWindowAddSpec : ChangeSpec := { name := "fnExactWindowAdd", vars := ["loop.example/g00562/impl.monthLengths"], fn := fun _ => fun
  | [d1, d2, g1] => { results := [.lit (.bool true)], args := [d1, d2], vars := [g1] }
  | _ => none }
def fnExactWindowAddRow : OpenClaim := { program := "ytnlmpejgiakepaadoor", sum := "dd738a98ee1e4b0a686bb7e37e106d8796742d9baa174bd9e6d152b78b9f5be5", func := "loop.example/g00562/laws.FnExactWindowAdd", spec := "fnExactWindowAdd", unfollowed := true, recurses := true, named := ["loop.example/g00562/impl.monthLengths"], apart := false, laid := [("loop.example/g00562/impl.monthLengths", laid_loop_example_g00562_impl_monthLengths)] }
def FnExactWindowAddSaid : Prop := fnExactWindowAddRow.holds Tryd.pinned (OpenSpec.ofChange fnExactWindowAddSpec)

/-- ITS FALSE NEIGHBOUR: 'it returns false'. Refute it at one input. -/
def fnExactWindowAddWrong : ChangeSpec := { name := "fnExactWindowAdd", vars := ["loop.example/g00562/impl.monthLengths"], fn := fun _ => fun
  | [d1, d2, g1] => { results := [.lit (.bool false)], args := [d1, d2], vars := [g1] }
  | _ => none }
def FnExactWindowAddWrongFalsely : Prop := fnExactWindowAddRow.holds Tryd.pinned (OpenSpec.ofChange fnExactWindowAddWrong)

/-- 'laws.FnExactWindowRead': WHATEVER THE INPUT: true; the input reads as it did. -/
def fnExactWindowReadSpec : ChangeSpec := { name := "fnExactWindowRead", vars := ["loop.example/g00562/impl.monthLengths"], fn := fun _ => fun
  | [d, g1] => { results := [.lit (.bool true)], args := [d], vars := [g1] }
  | _ => none }
def fnExactWindowReadRow : OpenClaim := { program := "ytnlmpejgiakepaadoor", sum := "dd738a98ee1e4b0a686bb7e37e106d8796742d9baa174bd9e6d152b78b9f5be5", func := "loop.example/g00562/laws.FnExactWindowRead", spec := "fnExactWindowRead", unfollowed := true, recurses := true, named := ["loop.example/g00562/impl.monthLengths"], apart := false, laid := [("loop.example/g00562/impl.monthLengths", laid_loop_example_g00562_impl_monthLengths)] }
def FnExactWindowReadSaid : Prop := fnExactWindowReadRow.holds Tryd.pinned (OpenSpec.ofChange fnExactWindowReadSpec)

/-- ITS FALSE NEIGHBOUR: 'it returns false'. Refute it at one input. -/
def fnExactWindowReadWrong : ChangeSpec := { name := "fnExactWindowRead", vars := ["loop.example/g00562/impl.monthLengths"], fn := fun _ => fun
  | [d, g1] => { results := [.lit (.bool false)], args := [d], vars := [g1] }
  | _ => none }
def FnExactWindowReadWrongFalsely : Prop := fnExactWindowReadRow.holds Tryd.pinned (OpenSpec.ofChange fnExactWindowReadWrong)

/- THE SECOND FORM. 'bulk': how many values and letters a reading holds, each counted each time it is reached (what is shared counts as often as it is met; a slice's spare places count too). A statement '..UptoSaid' is the law's where the arguments, and the package variables that the reading takes, are together of bulk at most 1048576: NARROWER than '..Said'. Prove '..Said' where nothing that the law and all that it calls make is longer than what came in: it says more and counts as full. Else prove '..UptoSaid'. A law counts once. -/
mutual
def uptoBulk {H : Type} : DataW H → Nat
  | .lit (.string bytes) => bytes.length + 1
  | .lit _ => 1
  | .nil => 1
  | .ptr d => uptoBulk d + 1
  | .slice elems spare => uptoBulkAll elems + uptoBulkAll spare + 1
  | .agg parts => uptoBulkAll parts + 1
  | .iface _ d => uptoBulk d + 1
  | .map entries => uptoBulkEntries entries + 1
  | .held _ => 1
def uptoBulkAll {H : Type} : List (DataW H) → Nat
  | [] => 0
  | d :: r => uptoBulk d + uptoBulkAll r
def uptoBulkEntries {H : Type} : List (Lit × DataW H) → Nat
  | [] => 0
  | x :: r => uptoBulkEntry x + uptoBulkEntries r
def uptoBulkEntry {H : Type} : Lit × DataW H → Nat
  | (.string bytes, d) => bytes.length + uptoBulk d + 1
  | (_, d) => uptoBulk d + 1
 end
def uptoSmall : (H : Type) → List (DataW H) → Bool := fun _ ds => decide (uptoBulkAll ds ≤ 1048576)
def OpenSpec.upto (s : _root_.Go.ChangeSpec) : _root_.Go.OpenSpec := { _root_.Go.OpenSpec.ofChange s with cond := some uptoSmall }

/-- 'laws.FnExactWindowAdd', WHERE WHAT IT READS IS OF BULK AT MOST 1048576: true; the input reads as it did. -/
def fnExactWindowAddUptoRow : OpenClaim := { program := "ytnlmpejgiakepaadoor", sum := "dd738a98ee1e4b0a686bb7e37e106d8796742d9baa174bd9e6d152b78b9f5be5", func := "loop.example/g00562/laws.FnExactWindowAdd", spec := "fnExactWindowAdd", unfollowed := true, recurses := true, named := ["loop.example/g00562/impl.monthLengths"], apart := false, laid := [("loop.example/g00562/impl.monthLengths", laid_loop_example_g00562_impl_monthLengths)], narrowed := true }
def FnExactWindowAddUptoSaid : Prop := fnExactWindowAddUptoRow.holds Tryd.pinned (OpenSpec.upto fnExactWindowAddSpec)

/-- 'laws.FnExactWindowRead', WHERE WHAT IT READS IS OF BULK AT MOST 1048576: true; the input reads as it did. -/
def fnExactWindowReadUptoRow : OpenClaim := { program := "ytnlmpejgiakepaadoor", sum := "dd738a98ee1e4b0a686bb7e37e106d8796742d9baa174bd9e6d152b78b9f5be5", func := "loop.example/g00562/laws.FnExactWindowRead", spec := "fnExactWindowRead", unfollowed := true, recurses := true, named := ["loop.example/g00562/impl.monthLengths"], apart := false, laid := [("loop.example/g00562/impl.monthLengths", laid_loop_example_g00562_impl_monthLengths)], narrowed := true }
def FnExactWindowReadUptoSaid : Prop := fnExactWindowReadUptoRow.holds Tryd.pinned (OpenSpec.upto fnExactWindowReadSpec)

end Rows
end Go.Proofs.YtnlmpejgiakepaaDoor
