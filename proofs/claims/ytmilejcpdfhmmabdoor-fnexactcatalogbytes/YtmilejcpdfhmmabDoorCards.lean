/-
  DERIVED. GIVEN WITH THE SEED: THE CARDS: each row of YtmilejcpdfhmmabDoorRows.lean that lists a variable, with what it lists TIED to the program's text (the seventh form; the later family's looks); each row that meets fmt, with fmt's text TOLD by the authors' own Lean function (tested against real Go, not proved from fmt's source: count such statements apart). THE CARD IS WHAT COUNTS. Prove the row's statement (the work); the ties are given (YtmilejcpdfhmmabDoorTie.lean); close each card by the builder's one call (the guide's Derived/Test/ToyasCard.lean, 'card_holds'). Laid BY PROGRAM, IN A SANDBOX (cutbox-door.mjs). By AI agents, Wed Nov 11 2026. No macro, syntax, notation, axiom, sorry.
-/
import Derived.Test.YtmilejcpdfhmmabDoorRows
import GoSem.ClaimSeven
namespace Go.Proofs.YtmilejcpdfhmmabDoor
namespace Rows

/-- THE TIED CARD OF 'laws.FnExactCreditOf'. -/
def fnExactCreditOfCard : Claim7 := { stood := { row := fnExactCreditOfRow, standIns := [], harness := (true, "17913c6b02b71fd806979dbf803f41dd8c5f63e7b1684330530cd6b2ea3a50af"), looks := true }, kinds := [], alts := [], laidByText := true, laidKinds := [.sentinel], laidTests := true, laidLooks := .later }
def FnExactCreditOfCardSaid : Prop := Claim7.holds Tryd.pinned (.plain (OpenSpec.ofChange fnExactCreditOfSpec)) fnExactCreditOfCard

/-- THE TIED CARD OF 'laws.FnExactCatalogBytes'. -/
def fnExactCatalogBytesCard : Claim7 := { stood := { row := fnExactCatalogBytesRow, standIns := [], harness := (true, "17913c6b02b71fd806979dbf803f41dd8c5f63e7b1684330530cd6b2ea3a50af"), looks := true }, kinds := [], alts := [], laidByText := true, laidKinds := [.sentinel], laidTests := true, laidLooks := .later }
def FnExactCatalogBytesCardSaid : Prop := Claim7.holds Tryd.pinned (.plain (OpenSpec.ofChange fnExactCatalogBytesSpec)) fnExactCatalogBytesCard

/-- THE TIED CARD OF 'laws.FnExactCatalogRead'. -/
def fnExactCatalogReadCard : Claim7 := { stood := { row := fnExactCatalogReadRow, standIns := [], harness := (true, "17913c6b02b71fd806979dbf803f41dd8c5f63e7b1684330530cd6b2ea3a50af"), looks := true }, kinds := [], alts := [], laidByText := true, laidKinds := [.sentinel], laidTests := true, laidLooks := .later }
def FnExactCatalogReadCardSaid : Prop := Claim7.holds Tryd.pinned (.plain (OpenSpec.ofChange fnExactCatalogReadSpec)) fnExactCatalogReadCard

/-- THE SECOND FORM's CARD OF 'laws.FnExactCreditOf'. -/
def fnExactCreditOfUptoCard : Claim7 := { stood := { row := fnExactCreditOfUptoRow, standIns := [], harness := (true, "17913c6b02b71fd806979dbf803f41dd8c5f63e7b1684330530cd6b2ea3a50af"), looks := true }, kinds := [], alts := [], laidByText := true, laidKinds := [.sentinel], laidTests := true, laidLooks := .later }
def FnExactCreditOfUptoCardSaid : Prop := Claim7.holds Tryd.pinned (.plain (OpenSpec.upto fnExactCreditOfSpec)) fnExactCreditOfUptoCard

/-- THE SECOND FORM's CARD OF 'laws.FnExactCatalogBytes'. -/
def fnExactCatalogBytesUptoCard : Claim7 := { stood := { row := fnExactCatalogBytesUptoRow, standIns := [], harness := (true, "17913c6b02b71fd806979dbf803f41dd8c5f63e7b1684330530cd6b2ea3a50af"), looks := true }, kinds := [], alts := [], laidByText := true, laidKinds := [.sentinel], laidTests := true, laidLooks := .later }
def FnExactCatalogBytesUptoCardSaid : Prop := Claim7.holds Tryd.pinned (.plain (OpenSpec.upto fnExactCatalogBytesSpec)) fnExactCatalogBytesUptoCard

/-- THE SECOND FORM's CARD OF 'laws.FnExactCatalogRead'. -/
def fnExactCatalogReadUptoCard : Claim7 := { stood := { row := fnExactCatalogReadUptoRow, standIns := [], harness := (true, "17913c6b02b71fd806979dbf803f41dd8c5f63e7b1684330530cd6b2ea3a50af"), looks := true }, kinds := [], alts := [], laidByText := true, laidKinds := [.sentinel], laidTests := true, laidLooks := .later }
def FnExactCatalogReadUptoCardSaid : Prop := Claim7.holds Tryd.pinned (.plain (OpenSpec.upto fnExactCatalogReadSpec)) fnExactCatalogReadUptoCard
end Rows
end Go.Proofs.YtmilejcpdfhmmabDoor
