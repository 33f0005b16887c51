/-
  DERIVED. GIVEN WITH THE SEED: THE CARDS: each row of YtlfebpgohpmknaaGreatDoorRows.lean that lists a variable, with what it lists TIED to the program's text (the seventh form; the later family's looks); each row that meets fmt, with fmt's text TOLD by the authors' own Lean function (tested against real Go, not proved from fmt's source: count such statements apart). THE CARD IS WHAT COUNTS. Prove the row's statement (the work); the ties are given (YtlfebpgohpmknaaGreatDoorTie.lean); close each card by the builder's one call (the guide's Derived/Test/ToyasCard.lean, 'card_holds'). Laid BY PROGRAM, IN A SANDBOX (cutbox-door.mjs). By AI agents, Wed Nov 11 2026. No macro, syntax, notation, axiom, sorry.
-/
import Derived.Test.YtlfebpgohpmknaaGreatDoorRows
import GoSem.ClaimSeven
namespace Go.Proofs.YtlfebpgohpmknaaGreatDoor
namespace Rows

/-- THE TIED CARD OF 'laws.FnIssue'. -/
def fnIssueCard : Claim7 := { stood := { row := fnIssueRow, standIns := [], harness := (true, "1ed170fc8fd468a101edd22929c0601fcf69e8c749dc382a84420ee7c769938b"), looks := true }, kinds := [], alts := [], laidByText := true, laidKinds := [.data, .data, .data, .handle], laidTests := true, laidLooks := .later }
def FnIssueCardSaid : Prop := Claim7.holds Tryz.pinned (.plain (OpenSpec.ofChange fnIssueSpec)) fnIssueCard

/-- THE SECOND FORM's CARD OF 'laws.FnIssue'. -/
def fnIssueUptoCard : Claim7 := { stood := { row := fnIssueUptoRow, standIns := [], harness := (true, "1ed170fc8fd468a101edd22929c0601fcf69e8c749dc382a84420ee7c769938b"), looks := true }, kinds := [], alts := [], laidByText := true, laidKinds := [.data, .data, .data, .handle], laidTests := true, laidLooks := .later }
def FnIssueUptoCardSaid : Prop := Claim7.holds Tryz.pinned (.plain (OpenSpec.upto fnIssueSpec)) fnIssueUptoCard
end Rows
end Go.Proofs.YtlfebpgohpmknaaGreatDoor
