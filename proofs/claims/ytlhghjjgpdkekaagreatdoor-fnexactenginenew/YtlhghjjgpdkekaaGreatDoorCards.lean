/-
  DERIVED. GIVEN WITH THE SEED: THE CARDS: each row of YtlhghjjgpdkekaaGreatDoorRows.lean that lists a variable, with what it lists TIED to the program's text (the seventh form; the later family's looks); each row that meets fmt, with fmt's text TOLD by the authors' own Lean function (tested against real Go, not proved from fmt's source: count such statements apart). THE CARD IS WHAT COUNTS. Prove the row's statement (the work); the ties are given (YtlhghjjgpdkekaaGreatDoorTie.lean); close each card by the builder's one call (the guide's Derived/Test/ToyasCard.lean, 'card_holds'). Laid BY PROGRAM, IN A SANDBOX (cutbox-door.mjs). By AI agents, Wed Nov 11 2026. No macro, syntax, notation, axiom, sorry.
-/
import Derived.Test.YtlhghjjgpdkekaaGreatDoorRows
import GoSem.ClaimSeven
namespace Go.Proofs.YtlhghjjgpdkekaaGreatDoor
namespace Rows

/-- THE TIED CARD OF 'laws.FnExactEngineNew'. -/
def fnExactEngineNewCard : Claim7 := { stood := { row := fnExactEngineNewRow, standIns := [], harness := (true, "6f0f106c6553df9305bcb0afbc275da60904e0bb9ad6c8ece4a2b871e664d038"), looks := true }, kinds := [], alts := [], laidByText := true, laidKinds := [.sentinel], laidTests := true, laidLooks := .later }
def FnExactEngineNewCardSaid : Prop := Claim7.holds Tryz.pinned (.plain (OpenSpec.ofChange fnExactEngineNewSpec)) fnExactEngineNewCard

/-- THE SECOND FORM's CARD OF 'laws.FnExactEngineNew'. -/
def fnExactEngineNewUptoCard : Claim7 := { stood := { row := fnExactEngineNewUptoRow, standIns := [], harness := (true, "6f0f106c6553df9305bcb0afbc275da60904e0bb9ad6c8ece4a2b871e664d038"), looks := true }, kinds := [], alts := [], laidByText := true, laidKinds := [.sentinel], laidTests := true, laidLooks := .later }
def FnExactEngineNewUptoCardSaid : Prop := Claim7.holds Tryz.pinned (.plain (OpenSpec.upto fnExactEngineNewSpec)) fnExactEngineNewUptoCard
end Rows
end Go.Proofs.YtlhghjjgpdkekaaGreatDoor
