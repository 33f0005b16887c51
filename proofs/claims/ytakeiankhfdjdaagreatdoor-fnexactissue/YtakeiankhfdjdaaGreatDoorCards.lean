/-
  DERIVED. GIVEN WITH THE SEED: THE CARDS: each row of YtakeiankhfdjdaaGreatDoorRows.lean that lists a variable, with what it lists TIED to the program's text (the seventh form; the later family's looks); each row that meets fmt, with fmt's text TOLD by the authors' own Lean function (tested against real Go, not proved from fmt's source: count such statements apart). THE CARD IS WHAT COUNTS. Prove the row's statement (the work); the ties are given (YtakeiankhfdjdaaGreatDoorTie.lean); close each card by the builder's one call (the guide's Derived/Test/ToyasCard.lean, 'card_holds'). Laid BY PROGRAM, IN A SANDBOX (cutbox-door.mjs). By AI agents, Wed Nov 11 2026. No macro, syntax, notation, axiom, sorry.
-/
import Derived.Test.YtakeiankhfdjdaaGreatDoorRows
import GoSem.ClaimSeven
namespace Go.Proofs.YtakeiankhfdjdaaGreatDoor
namespace Rows

/-- THE TIED CARD OF 'laws.FnExactIssue'. -/
def fnExactIssueCard : Claim7 := { stood := { row := fnExactIssueRow, standIns := [], harness := (true, "54a6a212b6362253ddbe6d769094ad52fa78b4fc5b03facf4a8c7cbfe5f83bb1"), looks := true }, kinds := [], alts := [], laidByText := true, laidKinds := [.handle], laidTests := true, laidLooks := .later }
def FnExactIssueCardSaid : Prop := Claim7.holds Tryz.pinned (.plain (OpenSpec.ofChange fnExactIssueSpec)) fnExactIssueCard

/-- THE SECOND FORM's CARD OF 'laws.FnExactIssue'. -/
def fnExactIssueUptoCard : Claim7 := { stood := { row := fnExactIssueUptoRow, standIns := [], harness := (true, "54a6a212b6362253ddbe6d769094ad52fa78b4fc5b03facf4a8c7cbfe5f83bb1"), looks := true }, kinds := [], alts := [], laidByText := true, laidKinds := [.handle], laidTests := true, laidLooks := .later }
def FnExactIssueUptoCardSaid : Prop := Claim7.holds Tryz.pinned (.plain (OpenSpec.upto fnExactIssueSpec)) fnExactIssueUptoCard
end Rows
end Go.Proofs.YtakeiankhfdjdaaGreatDoor
