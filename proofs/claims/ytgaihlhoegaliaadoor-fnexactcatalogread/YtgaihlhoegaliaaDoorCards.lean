/-
  DERIVED. GIVEN WITH THE SEED: THE CARDS: each row of YtgaihlhoegaliaaDoorRows.lean that lists a variable, with what it lists TIED to the program's text (the seventh form; the later family's looks); each row that meets fmt, with fmt's text TOLD by the authors' own Lean function (tested against real Go, not proved from fmt's source: count such statements apart). THE CARD IS WHAT COUNTS. Prove the row's statement (the work); the ties are given (YtgaihlhoegaliaaDoorTie.lean); close each card by the builder's one call (the guide's Derived/Test/ToyasCard.lean, 'card_holds'). Laid BY PROGRAM, IN A SANDBOX (cutbox-door.mjs). By AI agents, Wed Nov 11 2026. No macro, syntax, notation, axiom, sorry.
-/
import Derived.Test.YtgaihlhoegaliaaDoorRows
import GoSem.ClaimSeven
namespace Go.Proofs.YtgaihlhoegaliaaDoor
namespace Rows

/-- THE TIED CARD OF 'laws.FnExactCatalogRead'. -/
def fnExactCatalogReadCard : Claim7 := { stood := { row := fnExactCatalogReadRow, standIns := [], harness := (true, "54d93d5ae43c54df41ec02626c56c90a9c67f3d796eb3cfd833d512672d8a1e6"), looks := true }, kinds := [], alts := [], laidByText := true, laidKinds := [.sentinel], laidTests := true, laidLooks := .later }
def FnExactCatalogReadCardSaid : Prop := Claim7.holds Tryd.pinned (.plain (OpenSpec.ofChange fnExactCatalogReadSpec)) fnExactCatalogReadCard

/-- THE SECOND FORM's CARD OF 'laws.FnExactCatalogRead'. -/
def fnExactCatalogReadUptoCard : Claim7 := { stood := { row := fnExactCatalogReadUptoRow, standIns := [], harness := (true, "54d93d5ae43c54df41ec02626c56c90a9c67f3d796eb3cfd833d512672d8a1e6"), looks := true }, kinds := [], alts := [], laidByText := true, laidKinds := [.sentinel], laidTests := true, laidLooks := .later }
def FnExactCatalogReadUptoCardSaid : Prop := Claim7.holds Tryd.pinned (.plain (OpenSpec.upto fnExactCatalogReadSpec)) fnExactCatalogReadUptoCard
end Rows
end Go.Proofs.YtgaihlhoegaliaaDoor
