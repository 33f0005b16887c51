/-
  DERIVED. GIVEN WITH THE SEED: THE CARDS: each row of YtcilbmhkhllmjaaGreatDoorRows.lean that lists a variable, with what it lists TIED to the program's text (the seventh form; the later family's looks); each row that meets fmt, with fmt's text TOLD by the authors' own Lean function (tested against real Go, not proved from fmt's source: count such statements apart). THE CARD IS WHAT COUNTS. Prove the row's statement (the work); the ties are given (YtcilbmhkhllmjaaGreatDoorTie.lean); close each card by the builder's one call (the guide's Derived/Test/ToyasCard.lean, 'card_holds'). Laid BY PROGRAM, IN A SANDBOX (cutbox-door.mjs). By AI agents, Wed Nov 11 2026. No macro, syntax, notation, axiom, sorry.
-/
import Derived.Test.YtcilbmhkhllmjaaGreatDoorRows
import GoSem.ClaimSeven
namespace Go.Proofs.YtcilbmhkhllmjaaGreatDoor
namespace Rows

/-- THE TIED CARD OF 'laws.FnExactBillOf'. -/
def fnExactBillOfCard : Claim7 := { stood := { row := fnExactBillOfRow, standIns := [], harness := (true, "6d45feb69a048a33a36f73abcda3a79fc52a1b1b0e4e43b3967c8420668c0bb6"), looks := true }, kinds := [], alts := [], laidByText := true, laidKinds := [.sentinel, .data, .sentinel], laidTests := true, laidLooks := .later }
def FnExactBillOfCardSaid : Prop := Claim7.holds Tryz.pinned (.plain (OpenSpec.ofChange fnExactBillOfSpec)) fnExactBillOfCard

/-- THE TIED CARD OF 'laws.FnBill'. -/
def fnBillCard : Claim7 := { stood := { row := fnBillRow, standIns := [], harness := (true, "6d45feb69a048a33a36f73abcda3a79fc52a1b1b0e4e43b3967c8420668c0bb6"), looks := true }, kinds := [], alts := [], laidByText := true, laidKinds := [.sentinel, .data, .sentinel], laidTests := true, laidLooks := .later }
def FnBillCardSaid : Prop := Claim7.holds Tryz.pinned (.plain (OpenSpec.ofChange fnBillSpec)) fnBillCard

/-- THE SECOND FORM's CARD OF 'laws.FnExactBillOf'. -/
def fnExactBillOfUptoCard : Claim7 := { stood := { row := fnExactBillOfUptoRow, standIns := [], harness := (true, "6d45feb69a048a33a36f73abcda3a79fc52a1b1b0e4e43b3967c8420668c0bb6"), looks := true }, kinds := [], alts := [], laidByText := true, laidKinds := [.sentinel, .data, .sentinel], laidTests := true, laidLooks := .later }
def FnExactBillOfUptoCardSaid : Prop := Claim7.holds Tryz.pinned (.plain (OpenSpec.upto fnExactBillOfSpec)) fnExactBillOfUptoCard

/-- THE SECOND FORM's CARD OF 'laws.FnBill'. -/
def fnBillUptoCard : Claim7 := { stood := { row := fnBillUptoRow, standIns := [], harness := (true, "6d45feb69a048a33a36f73abcda3a79fc52a1b1b0e4e43b3967c8420668c0bb6"), looks := true }, kinds := [], alts := [], laidByText := true, laidKinds := [.sentinel, .data, .sentinel], laidTests := true, laidLooks := .later }
def FnBillUptoCardSaid : Prop := Claim7.holds Tryz.pinned (.plain (OpenSpec.upto fnBillSpec)) fnBillUptoCard
end Rows
end Go.Proofs.YtcilbmhkhllmjaaGreatDoor
