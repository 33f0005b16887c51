/-
  DERIVED. GIVEN WITH THE SEED: THE CARDS: each row of YtmalfhhkjdkadaaGreatDoorRows.lean that lists a variable, with what it lists TIED to the program's text (the seventh form; the later family's looks); each row that meets fmt, with fmt's text TOLD by the authors' own Lean function (tested against real Go, not proved from fmt's source: count such statements apart). THE CARD IS WHAT COUNTS. Prove the row's statement (the work); the ties are given (YtmalfhhkjdkadaaGreatDoorTie.lean); close each card by the builder's one call (the guide's Derived/Test/ToyasCard.lean, 'card_holds'). Laid BY PROGRAM, IN A SANDBOX (cutbox-door.mjs). By AI agents, Wed Nov 11 2026. No macro, syntax, notation, axiom, sorry.
-/
import Derived.Test.YtmalfhhkjdkadaaGreatDoorRows
import GoSem.ClaimSeven
namespace Go.Proofs.YtmalfhhkjdkadaaGreatDoor
namespace Rows

/-- THE TIED CARD OF 'laws.FnExactBillNow'. -/
def fnExactBillNowCard : Claim7 := { stood := { row := fnExactBillNowRow, standIns := [], harness := (true, "947afaa1ae274516d354913988d4d45abea501938900b13d376df01208f2221b"), looks := true }, kinds := [], alts := [], laidByText := true, laidKinds := [.sentinel, .data, .sentinel], laidTests := true, laidLooks := .later }
def FnExactBillNowCardSaid : Prop := Claim7.holds Tryz.pinned (.plain (OpenSpec.ofChange fnExactBillNowSpec)) fnExactBillNowCard

/-- THE SECOND FORM's CARD OF 'laws.FnExactBillNow'. -/
def fnExactBillNowUptoCard : Claim7 := { stood := { row := fnExactBillNowUptoRow, standIns := [], harness := (true, "947afaa1ae274516d354913988d4d45abea501938900b13d376df01208f2221b"), looks := true }, kinds := [], alts := [], laidByText := true, laidKinds := [.sentinel, .data, .sentinel], laidTests := true, laidLooks := .later }
def FnExactBillNowUptoCardSaid : Prop := Claim7.holds Tryz.pinned (.plain (OpenSpec.upto fnExactBillNowSpec)) fnExactBillNowUptoCard
end Rows
end Go.Proofs.YtmalfhhkjdkadaaGreatDoor
