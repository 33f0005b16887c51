/-
  NARROWER THAN 'FOR EVERY INPUT', by the rows' own cells (each row's printed sentence says how): FnExactCatalogRight: ifaces, laid · FnExactCreditOf: ifaces, laid · FnExactCatalogBytes: ifaces, laid · FnExactMeterOf: ifaces, laid.
  DERIVED. THE GIVEN ROWS OF THIS SEAT. 4 by the template 'for every input the law returns true; each argument reads behind the call as it read before'; 0 by the template 'total and deterministic' (their statements: YtnpnegcmohgnfaaDoorTotals.lean).
  GIVEN WITH THE SEED: the statements are not yours to turn. If you find one false, say at which input.
  Laid BY PROGRAM, IN A SANDBOX (cutbox-rows.mjs): the forced cells as the released guide's own fill.sh prints them over the translation 7a29ccf4f3922900… (all of the seat's roots in one cut). By AI agents, Wed Nov 11 2026. No macro, syntax, notation, axiom, sorry.
-/
import Derived.Test.YtnpnegcmohgnfaaDoorChecked
import GoSem.Claim
import GoSem.ClaimJoined
import GoSem.ClaimMapViews
import Derived.JoinedTies
import Derived.KernelRfl
namespace Go.Proofs.YtnpnegcmohgnfaaDoor
/- THE CELL 'sum', in the pinned program and in every row, IS THE sha256 OF THE DUMP (.gsa) THAT YtnpnegcmohgnfaaDoorProg.lean LOADS. Nothing in Lean hashes anything: it is a label: what it is worth is what the hold of that sum in a sandbox is worth. -/
noncomputable def Tryd.pinned : Pinned := { name := "ytnpnegcmohgnfaadoor", sum := "7a29ccf4f392290098baf7b26075573d4dbdd211d10065005731ea096d620158", checked := Tryd.checked }
namespace Rows
def none {H : Type} : Left H := { results := [], args := [] }

/- WHAT THE LISTED PACKAGE-LEVEL VARIABLES READ AS WHEN THE CALL BEGINS. Each datum BY PROGRAM (the guide's laid-datum.mjs) off the statement by which the dump's own 'gosem.cut.vars' lays the variable. In a bare row this is a premise. The card (YtnpnegcmohgnfaaDoorCards.lean) ties it to the program's text. -/
def laid_loop_example_g00562_impl_errNoMeter {H : Type} : DataW H := .iface "*errors.errorString" (.ptr (.agg [.lit (.string [110, 111, 32, 109, 101, 116, 101, 114, 32, 111, 102, 32, 116, 104, 97, 116, 32, 110, 97, 109, 101])]))

/-- 'laws.FnExactCatalogRight': WHATEVER THE INPUT: true; the input reads as it did. -/
def fnExactCatalogRightSpec : ChangeSpec := { name := "fnExactCatalogRight", vars := ["loop.example/g00562/impl.errNoMeter"], fn := fun _ => fun
  | [d, g1] => { results := [.lit (.bool true)], args := [d], vars := [g1] }
  | _ => none }
def fnExactCatalogRightRow : OpenClaim := { program := "ytnpnegcmohgnfaadoor", sum := "7a29ccf4f392290098baf7b26075573d4dbdd211d10065005731ea096d620158", func := "loop.example/g00562/laws.FnExactCatalogRight", spec := "fnExactCatalogRight", inPlace := ["internal/reflectlite.TypeOf"], unfollowed := true, recurses := true, named := ["loop.example/g00562/impl.errNoMeter"], ifaces := true, apart := false, laid := [("loop.example/g00562/impl.errNoMeter", laid_loop_example_g00562_impl_errNoMeter)] }
def FnExactCatalogRightSaid : Prop := fnExactCatalogRightRow.holds Tryd.pinned (OpenSpec.ofChange fnExactCatalogRightSpec)

/-- ITS FALSE NEIGHBOUR: 'it returns false'. Refute it at one input. -/
def fnExactCatalogRightWrong : ChangeSpec := { name := "fnExactCatalogRight", vars := ["loop.example/g00562/impl.errNoMeter"], fn := fun _ => fun
  | [d, g1] => { results := [.lit (.bool false)], args := [d], vars := [g1] }
  | _ => none }
def FnExactCatalogRightWrongFalsely : Prop := fnExactCatalogRightRow.holds Tryd.pinned (OpenSpec.ofChange fnExactCatalogRightWrong)

/-- 'laws.FnExactCreditOf': WHATEVER THE INPUT: true; the input reads as it did. -/
def fnExactCreditOfSpec : ChangeSpec := { name := "fnExactCreditOf", vars := ["loop.example/g00562/impl.errNoMeter"], fn := fun _ => fun
  | [d1, d2, g1] => { results := [.lit (.bool true)], args := [d1, d2], vars := [g1] }
  | _ => none }
def fnExactCreditOfRow : OpenClaim := { program := "ytnpnegcmohgnfaadoor", sum := "7a29ccf4f392290098baf7b26075573d4dbdd211d10065005731ea096d620158", func := "loop.example/g00562/laws.FnExactCreditOf", spec := "fnExactCreditOf", inPlace := ["internal/reflectlite.TypeOf"], unfollowed := true, recurses := true, named := ["loop.example/g00562/impl.errNoMeter"], ifaces := true, apart := false, laid := [("loop.example/g00562/impl.errNoMeter", laid_loop_example_g00562_impl_errNoMeter)] }
def FnExactCreditOfSaid : Prop := fnExactCreditOfRow.holds Tryd.pinned (OpenSpec.ofChange fnExactCreditOfSpec)

/-- ITS FALSE NEIGHBOUR: 'it returns false'. Refute it at one input. -/
def fnExactCreditOfWrong : ChangeSpec := { name := "fnExactCreditOf", vars := ["loop.example/g00562/impl.errNoMeter"], fn := fun _ => fun
  | [d1, d2, g1] => { results := [.lit (.bool false)], args := [d1, d2], vars := [g1] }
  | _ => none }
def FnExactCreditOfWrongFalsely : Prop := fnExactCreditOfRow.holds Tryd.pinned (OpenSpec.ofChange fnExactCreditOfWrong)

/-- 'laws.FnExactCatalogBytes': WHATEVER THE INPUT: true; the input reads as it did. -/
def fnExactCatalogBytesSpec : ChangeSpec := { name := "fnExactCatalogBytes", vars := ["loop.example/g00562/impl.errNoMeter"], fn := fun _ => fun
  | [d, g1] => { results := [.lit (.bool true)], args := [d], vars := [g1] }
  | _ => none }
def fnExactCatalogBytesRow : OpenClaim := { program := "ytnpnegcmohgnfaadoor", sum := "7a29ccf4f392290098baf7b26075573d4dbdd211d10065005731ea096d620158", func := "loop.example/g00562/laws.FnExactCatalogBytes", spec := "fnExactCatalogBytes", inPlace := ["internal/reflectlite.TypeOf"], unfollowed := true, recurses := true, named := ["loop.example/g00562/impl.errNoMeter"], ifaces := true, apart := false, laid := [("loop.example/g00562/impl.errNoMeter", laid_loop_example_g00562_impl_errNoMeter)] }
def FnExactCatalogBytesSaid : Prop := fnExactCatalogBytesRow.holds Tryd.pinned (OpenSpec.ofChange fnExactCatalogBytesSpec)

/-- ITS FALSE NEIGHBOUR: 'it returns false'. Refute it at one input. -/
def fnExactCatalogBytesWrong : ChangeSpec := { name := "fnExactCatalogBytes", vars := ["loop.example/g00562/impl.errNoMeter"], fn := fun _ => fun
  | [d, g1] => { results := [.lit (.bool false)], args := [d], vars := [g1] }
  | _ => none }
def FnExactCatalogBytesWrongFalsely : Prop := fnExactCatalogBytesRow.holds Tryd.pinned (OpenSpec.ofChange fnExactCatalogBytesWrong)

/-- 'laws.FnExactMeterOf': WHATEVER THE INPUT: true; the input reads as it did. -/
def fnExactMeterOfSpec : ChangeSpec := { name := "fnExactMeterOf", vars := ["loop.example/g00562/impl.errNoMeter"], fn := fun _ => fun
  | [d1, d2, g1] => { results := [.lit (.bool true)], args := [d1, d2], vars := [g1] }
  | _ => none }
def fnExactMeterOfRow : OpenClaim := { program := "ytnpnegcmohgnfaadoor", sum := "7a29ccf4f392290098baf7b26075573d4dbdd211d10065005731ea096d620158", func := "loop.example/g00562/laws.FnExactMeterOf", spec := "fnExactMeterOf", inPlace := ["internal/reflectlite.TypeOf"], unfollowed := true, recurses := true, named := ["loop.example/g00562/impl.errNoMeter"], ifaces := true, apart := false, laid := [("loop.example/g00562/impl.errNoMeter", laid_loop_example_g00562_impl_errNoMeter)] }
def FnExactMeterOfSaid : Prop := fnExactMeterOfRow.holds Tryd.pinned (OpenSpec.ofChange fnExactMeterOfSpec)

/-- ITS FALSE NEIGHBOUR: 'it returns false'. Refute it at one input. -/
def fnExactMeterOfWrong : ChangeSpec := { name := "fnExactMeterOf", vars := ["loop.example/g00562/impl.errNoMeter"], fn := fun _ => fun
  | [d1, d2, g1] => { results := [.lit (.bool false)], args := [d1, d2], vars := [g1] }
  | _ => none }
def FnExactMeterOfWrongFalsely : Prop := fnExactMeterOfRow.holds Tryd.pinned (OpenSpec.ofChange fnExactMeterOfWrong)

/- THE SECOND FORM. 'bulk': how many values and letters a reading holds, each counted each time it is reached (what is shared counts as often as it is met; a slice's spare places count too). A statement '..UptoSaid' is the law's where the arguments, and the package variables that the reading takes, are together of bulk at most 1048576: NARROWER than '..Said'. Prove '..Said' where nothing that the law and all that it calls make is longer than what came in: it says more and counts as full. Else prove '..UptoSaid'. A law counts once. -/
mutual
def uptoBulk {H : Type} : DataW H → Nat
  | .lit (.string bytes) => bytes.length + 1
  | .lit _ => 1
  | .nil => 1
  | .ptr d => uptoBulk d + 1
  | .slice elems spare => uptoBulkAll elems + uptoBulkAll spare + 1
  | .agg parts => uptoBulkAll parts + 1
  | .iface _ d => uptoBulk d + 1
  | .map entries => uptoBulkEntries entries + 1
  | .held _ => 1
def uptoBulkAll {H : Type} : List (DataW H) → Nat
  | [] => 0
  | d :: r => uptoBulk d + uptoBulkAll r
def uptoBulkEntries {H : Type} : List (Lit × DataW H) → Nat
  | [] => 0
  | x :: r => uptoBulkEntry x + uptoBulkEntries r
def uptoBulkEntry {H : Type} : Lit × DataW H → Nat
  | (.string bytes, d) => bytes.length + uptoBulk d + 1
  | (_, d) => uptoBulk d + 1
 end
def uptoSmall : (H : Type) → List (DataW H) → Bool := fun _ ds => decide (uptoBulkAll ds ≤ 1048576)
def OpenSpec.upto (s : _root_.Go.ChangeSpec) : _root_.Go.OpenSpec := { _root_.Go.OpenSpec.ofChange s with cond := some uptoSmall }

/-- 'laws.FnExactCatalogRight', WHERE WHAT IT READS IS OF BULK AT MOST 1048576: true; the input reads as it did. -/
def fnExactCatalogRightUptoRow : OpenClaim := { program := "ytnpnegcmohgnfaadoor", sum := "7a29ccf4f392290098baf7b26075573d4dbdd211d10065005731ea096d620158", func := "loop.example/g00562/laws.FnExactCatalogRight", spec := "fnExactCatalogRight", inPlace := ["internal/reflectlite.TypeOf"], unfollowed := true, recurses := true, named := ["loop.example/g00562/impl.errNoMeter"], ifaces := true, apart := false, laid := [("loop.example/g00562/impl.errNoMeter", laid_loop_example_g00562_impl_errNoMeter)], narrowed := true }
def FnExactCatalogRightUptoSaid : Prop := fnExactCatalogRightUptoRow.holds Tryd.pinned (OpenSpec.upto fnExactCatalogRightSpec)

/-- 'laws.FnExactCreditOf', WHERE WHAT IT READS IS OF BULK AT MOST 1048576: true; the input reads as it did. -/
def fnExactCreditOfUptoRow : OpenClaim := { program := "ytnpnegcmohgnfaadoor", sum := "7a29ccf4f392290098baf7b26075573d4dbdd211d10065005731ea096d620158", func := "loop.example/g00562/laws.FnExactCreditOf", spec := "fnExactCreditOf", inPlace := ["internal/reflectlite.TypeOf"], unfollowed := true, recurses := true, named := ["loop.example/g00562/impl.errNoMeter"], ifaces := true, apart := false, laid := [("loop.example/g00562/impl.errNoMeter", laid_loop_example_g00562_impl_errNoMeter)], narrowed := true }
def FnExactCreditOfUptoSaid : Prop := fnExactCreditOfUptoRow.holds Tryd.pinned (OpenSpec.upto fnExactCreditOfSpec)

/-- 'laws.FnExactCatalogBytes', WHERE WHAT IT READS IS OF BULK AT MOST 1048576: true; the input reads as it did. -/
def fnExactCatalogBytesUptoRow : OpenClaim := { program := "ytnpnegcmohgnfaadoor", sum := "7a29ccf4f392290098baf7b26075573d4dbdd211d10065005731ea096d620158", func := "loop.example/g00562/laws.FnExactCatalogBytes", spec := "fnExactCatalogBytes", inPlace := ["internal/reflectlite.TypeOf"], unfollowed := true, recurses := true, named := ["loop.example/g00562/impl.errNoMeter"], ifaces := true, apart := false, laid := [("loop.example/g00562/impl.errNoMeter", laid_loop_example_g00562_impl_errNoMeter)], narrowed := true }
def FnExactCatalogBytesUptoSaid : Prop := fnExactCatalogBytesUptoRow.holds Tryd.pinned (OpenSpec.upto fnExactCatalogBytesSpec)

/-- 'laws.FnExactMeterOf', WHERE WHAT IT READS IS OF BULK AT MOST 1048576: true; the input reads as it did. -/
def fnExactMeterOfUptoRow : OpenClaim := { program := "ytnpnegcmohgnfaadoor", sum := "7a29ccf4f392290098baf7b26075573d4dbdd211d10065005731ea096d620158", func := "loop.example/g00562/laws.FnExactMeterOf", spec := "fnExactMeterOf", inPlace := ["internal/reflectlite.TypeOf"], unfollowed := true, recurses := true, named := ["loop.example/g00562/impl.errNoMeter"], ifaces := true, apart := false, laid := [("loop.example/g00562/impl.errNoMeter", laid_loop_example_g00562_impl_errNoMeter)], narrowed := true }
def FnExactMeterOfUptoSaid : Prop := fnExactMeterOfUptoRow.holds Tryd.pinned (OpenSpec.upto fnExactMeterOfSpec)

end Rows
end Go.Proofs.YtnpnegcmohgnfaaDoor
