/-
  DERIVED. GIVEN WITH THE SEED: THE CARDS: each row of YtjfmdcdclifpkaaGreatDoorRows.lean that lists a variable, with what it lists TIED to the program's text (the seventh form; the later family's looks); each row that meets fmt, with fmt's text TOLD by the authors' own Lean function (tested against real Go, not proved from fmt's source: count such statements apart). THE CARD IS WHAT COUNTS. Prove the row's statement (the work); the ties are given (YtjfmdcdclifpkaaGreatDoorTie.lean); close each card by the builder's one call (the guide's Derived/Test/ToyasCard.lean, 'card_holds'). Laid BY PROGRAM, IN A SANDBOX (cutbox-door.mjs). By AI agents, Wed Nov 11 2026. No macro, syntax, notation, axiom, sorry.
-/
import Derived.Test.YtjfmdcdclifpkaaGreatDoorRows
import GoSem.ClaimSeven
namespace Go.Proofs.YtjfmdcdclifpkaaGreatDoor
namespace Rows

/-- THE TIED CARD OF 'laws.FnExactNetNow'. -/
def fnExactNetNowCard : Claim7 := { stood := { row := fnExactNetNowRow, standIns := [], harness := (true, "ae23648efef2fb6b3d606a3dd32216a3c7ad51a3d5efd6bce581d8def6e16065"), looks := true }, kinds := [], alts := [], laidByText := true, laidKinds := [.data, .sentinel], laidTests := true, laidLooks := .later }
def FnExactNetNowCardSaid : Prop := Claim7.holds Tryz.pinned (.plain (OpenSpec.ofChange fnExactNetNowSpec)) fnExactNetNowCard

/-- THE TIED CARD OF 'laws.FnExactTick'. -/
def fnExactTickCard : Claim7 := { stood := { row := fnExactTickRow, standIns := [], harness := (true, "ae23648efef2fb6b3d606a3dd32216a3c7ad51a3d5efd6bce581d8def6e16065"), looks := true }, kinds := [], alts := [], laidByText := true, laidKinds := [.data, .sentinel], laidTests := true, laidLooks := .later }
def FnExactTickCardSaid : Prop := Claim7.holds Tryz.pinned (.plain (OpenSpec.ofChange fnExactTickSpec)) fnExactTickCard

/-- THE SECOND FORM's CARD OF 'laws.FnExactNetNow'. -/
def fnExactNetNowUptoCard : Claim7 := { stood := { row := fnExactNetNowUptoRow, standIns := [], harness := (true, "ae23648efef2fb6b3d606a3dd32216a3c7ad51a3d5efd6bce581d8def6e16065"), looks := true }, kinds := [], alts := [], laidByText := true, laidKinds := [.data, .sentinel], laidTests := true, laidLooks := .later }
def FnExactNetNowUptoCardSaid : Prop := Claim7.holds Tryz.pinned (.plain (OpenSpec.upto fnExactNetNowSpec)) fnExactNetNowUptoCard

/-- THE SECOND FORM's CARD OF 'laws.FnExactTick'. -/
def fnExactTickUptoCard : Claim7 := { stood := { row := fnExactTickUptoRow, standIns := [], harness := (true, "ae23648efef2fb6b3d606a3dd32216a3c7ad51a3d5efd6bce581d8def6e16065"), looks := true }, kinds := [], alts := [], laidByText := true, laidKinds := [.data, .sentinel], laidTests := true, laidLooks := .later }
def FnExactTickUptoCardSaid : Prop := Claim7.holds Tryz.pinned (.plain (OpenSpec.upto fnExactTickSpec)) fnExactTickUptoCard
end Rows
end Go.Proofs.YtjfmdcdclifpkaaGreatDoor
