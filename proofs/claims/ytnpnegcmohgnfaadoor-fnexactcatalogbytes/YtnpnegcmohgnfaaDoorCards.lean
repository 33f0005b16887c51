/-
  DERIVED. GIVEN WITH THE SEED: THE CARDS: each row of YtnpnegcmohgnfaaDoorRows.lean that lists a variable, with what it lists TIED to the program's text (the seventh form; the later family's looks); each row that meets fmt, with fmt's text TOLD by the authors' own Lean function (tested against real Go, not proved from fmt's source: count such statements apart). THE CARD IS WHAT COUNTS. Prove the row's statement (the work); the ties are given (YtnpnegcmohgnfaaDoorTie.lean); close each card by the builder's one call (the guide's Derived/Test/ToyasCard.lean, 'card_holds'). Laid BY PROGRAM, IN A SANDBOX (cutbox-door.mjs). By AI agents, Wed Nov 11 2026. No macro, syntax, notation, axiom, sorry.
-/
import Derived.Test.YtnpnegcmohgnfaaDoorRows
import GoSem.ClaimSeven
namespace Go.Proofs.YtnpnegcmohgnfaaDoor
namespace Rows

/-- THE TIED CARD OF 'laws.FnExactCatalogRight'. -/
def fnExactCatalogRightCard : Claim7 := { stood := { row := fnExactCatalogRightRow, standIns := [], harness := (true, "cedfa97018b08ef384c34a9ae51c7049dfe965a0d79697774dec61bed5948552"), looks := true }, kinds := [], alts := [], laidByText := true, laidKinds := [.sentinel], laidTests := true, laidLooks := .later }
def FnExactCatalogRightCardSaid : Prop := Claim7.holds Tryd.pinned (.plain (OpenSpec.ofChange fnExactCatalogRightSpec)) fnExactCatalogRightCard

/-- THE TIED CARD OF 'laws.FnExactCreditOf'. -/
def fnExactCreditOfCard : Claim7 := { stood := { row := fnExactCreditOfRow, standIns := [], harness := (true, "cedfa97018b08ef384c34a9ae51c7049dfe965a0d79697774dec61bed5948552"), looks := true }, kinds := [], alts := [], laidByText := true, laidKinds := [.sentinel], laidTests := true, laidLooks := .later }
def FnExactCreditOfCardSaid : Prop := Claim7.holds Tryd.pinned (.plain (OpenSpec.ofChange fnExactCreditOfSpec)) fnExactCreditOfCard

/-- THE TIED CARD OF 'laws.FnExactCatalogBytes'. -/
def fnExactCatalogBytesCard : Claim7 := { stood := { row := fnExactCatalogBytesRow, standIns := [], harness := (true, "cedfa97018b08ef384c34a9ae51c7049dfe965a0d79697774dec61bed5948552"), looks := true }, kinds := [], alts := [], laidByText := true, laidKinds := [.sentinel], laidTests := true, laidLooks := .later }
def FnExactCatalogBytesCardSaid : Prop := Claim7.holds Tryd.pinned (.plain (OpenSpec.ofChange fnExactCatalogBytesSpec)) fnExactCatalogBytesCard

/-- THE TIED CARD OF 'laws.FnExactMeterOf'. -/
def fnExactMeterOfCard : Claim7 := { stood := { row := fnExactMeterOfRow, standIns := [], harness := (true, "cedfa97018b08ef384c34a9ae51c7049dfe965a0d79697774dec61bed5948552"), looks := true }, kinds := [], alts := [], laidByText := true, laidKinds := [.sentinel], laidTests := true, laidLooks := .later }
def FnExactMeterOfCardSaid : Prop := Claim7.holds Tryd.pinned (.plain (OpenSpec.ofChange fnExactMeterOfSpec)) fnExactMeterOfCard

/-- THE SECOND FORM's CARD OF 'laws.FnExactCatalogRight'. -/
def fnExactCatalogRightUptoCard : Claim7 := { stood := { row := fnExactCatalogRightUptoRow, standIns := [], harness := (true, "cedfa97018b08ef384c34a9ae51c7049dfe965a0d79697774dec61bed5948552"), looks := true }, kinds := [], alts := [], laidByText := true, laidKinds := [.sentinel], laidTests := true, laidLooks := .later }
def FnExactCatalogRightUptoCardSaid : Prop := Claim7.holds Tryd.pinned (.plain (OpenSpec.upto fnExactCatalogRightSpec)) fnExactCatalogRightUptoCard

/-- THE SECOND FORM's CARD OF 'laws.FnExactCreditOf'. -/
def fnExactCreditOfUptoCard : Claim7 := { stood := { row := fnExactCreditOfUptoRow, standIns := [], harness := (true, "cedfa97018b08ef384c34a9ae51c7049dfe965a0d79697774dec61bed5948552"), looks := true }, kinds := [], alts := [], laidByText := true, laidKinds := [.sentinel], laidTests := true, laidLooks := .later }
def FnExactCreditOfUptoCardSaid : Prop := Claim7.holds Tryd.pinned (.plain (OpenSpec.upto fnExactCreditOfSpec)) fnExactCreditOfUptoCard

/-- THE SECOND FORM's CARD OF 'laws.FnExactCatalogBytes'. -/
def fnExactCatalogBytesUptoCard : Claim7 := { stood := { row := fnExactCatalogBytesUptoRow, standIns := [], harness := (true, "cedfa97018b08ef384c34a9ae51c7049dfe965a0d79697774dec61bed5948552"), looks := true }, kinds := [], alts := [], laidByText := true, laidKinds := [.sentinel], laidTests := true, laidLooks := .later }
def FnExactCatalogBytesUptoCardSaid : Prop := Claim7.holds Tryd.pinned (.plain (OpenSpec.upto fnExactCatalogBytesSpec)) fnExactCatalogBytesUptoCard

/-- THE SECOND FORM's CARD OF 'laws.FnExactMeterOf'. -/
def fnExactMeterOfUptoCard : Claim7 := { stood := { row := fnExactMeterOfUptoRow, standIns := [], harness := (true, "cedfa97018b08ef384c34a9ae51c7049dfe965a0d79697774dec61bed5948552"), looks := true }, kinds := [], alts := [], laidByText := true, laidKinds := [.sentinel], laidTests := true, laidLooks := .later }
def FnExactMeterOfUptoCardSaid : Prop := Claim7.holds Tryd.pinned (.plain (OpenSpec.upto fnExactMeterOfSpec)) fnExactMeterOfUptoCard
end Rows
end Go.Proofs.YtnpnegcmohgnfaaDoor
