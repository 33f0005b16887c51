/-
  DERIVED. GIVEN WITH THE SEED: THE CARDS: each row of YtmilejcpdfhmmaaDoorRows.lean that lists a variable, with what it lists TIED to the program's text (the seventh form; the later family's looks); each row that meets fmt, with fmt's text TOLD by the authors' own Lean function (tested against real Go, not proved from fmt's source: count such statements apart). THE CARD IS WHAT COUNTS. Prove the row's statement (the work); the ties are given (YtmilejcpdfhmmaaDoorTie.lean); close each card by the builder's one call (the guide's Derived/Test/ToyasCard.lean, 'card_holds'). Laid BY PROGRAM, IN A SANDBOX (cutbox-door.mjs). By AI agents, Wed Nov 11 2026. No macro, syntax, notation, axiom, sorry.
-/
import Derived.Test.YtmilejcpdfhmmaaDoorRows
import GoSem.ClaimSeven
namespace Go.Proofs.YtmilejcpdfhmmaaDoor
namespace Rows

/-- THE TIED CARD OF 'laws.FnCatalog'. -/
def fnCatalogCard : Claim7 := { stood := { row := fnCatalogRow, standIns := [], harness := (true, "82d35781f4fe240ca459c50a72425bc653033da9962902fc0c27e964b8d680de"), looks := true }, kinds := [], alts := [], laidByText := true, laidKinds := [.sentinel], laidTests := true, laidLooks := .later }
def FnCatalogCardSaid : Prop := Claim7.holds Tryd.pinned (.plain (OpenSpec.ofChange fnCatalogSpec)) fnCatalogCard

/-- THE TIED CARD OF 'laws.FnExactCatalogRight'. -/
def fnExactCatalogRightCard : Claim7 := { stood := { row := fnExactCatalogRightRow, standIns := [], harness := (true, "82d35781f4fe240ca459c50a72425bc653033da9962902fc0c27e964b8d680de"), looks := true }, kinds := [], alts := [], laidByText := true, laidKinds := [.sentinel], laidTests := true, laidLooks := .later }
def FnExactCatalogRightCardSaid : Prop := Claim7.holds Tryd.pinned (.plain (OpenSpec.ofChange fnExactCatalogRightSpec)) fnExactCatalogRightCard

/-- THE TIED CARD OF 'laws.FnExactMeterOf'. -/
def fnExactMeterOfCard : Claim7 := { stood := { row := fnExactMeterOfRow, standIns := [], harness := (true, "82d35781f4fe240ca459c50a72425bc653033da9962902fc0c27e964b8d680de"), looks := true }, kinds := [], alts := [], laidByText := true, laidKinds := [.sentinel], laidTests := true, laidLooks := .later }
def FnExactMeterOfCardSaid : Prop := Claim7.holds Tryd.pinned (.plain (OpenSpec.ofChange fnExactMeterOfSpec)) fnExactMeterOfCard

/-- THE SECOND FORM's CARD OF 'laws.FnCatalog'. -/
def fnCatalogUptoCard : Claim7 := { stood := { row := fnCatalogUptoRow, standIns := [], harness := (true, "82d35781f4fe240ca459c50a72425bc653033da9962902fc0c27e964b8d680de"), looks := true }, kinds := [], alts := [], laidByText := true, laidKinds := [.sentinel], laidTests := true, laidLooks := .later }
def FnCatalogUptoCardSaid : Prop := Claim7.holds Tryd.pinned (.plain (OpenSpec.upto fnCatalogSpec)) fnCatalogUptoCard

/-- THE SECOND FORM's CARD OF 'laws.FnExactCatalogRight'. -/
def fnExactCatalogRightUptoCard : Claim7 := { stood := { row := fnExactCatalogRightUptoRow, standIns := [], harness := (true, "82d35781f4fe240ca459c50a72425bc653033da9962902fc0c27e964b8d680de"), looks := true }, kinds := [], alts := [], laidByText := true, laidKinds := [.sentinel], laidTests := true, laidLooks := .later }
def FnExactCatalogRightUptoCardSaid : Prop := Claim7.holds Tryd.pinned (.plain (OpenSpec.upto fnExactCatalogRightSpec)) fnExactCatalogRightUptoCard

/-- THE SECOND FORM's CARD OF 'laws.FnExactMeterOf'. -/
def fnExactMeterOfUptoCard : Claim7 := { stood := { row := fnExactMeterOfUptoRow, standIns := [], harness := (true, "82d35781f4fe240ca459c50a72425bc653033da9962902fc0c27e964b8d680de"), looks := true }, kinds := [], alts := [], laidByText := true, laidKinds := [.sentinel], laidTests := true, laidLooks := .later }
def FnExactMeterOfUptoCardSaid : Prop := Claim7.holds Tryd.pinned (.plain (OpenSpec.upto fnExactMeterOfSpec)) fnExactMeterOfUptoCard
end Rows
end Go.Proofs.YtmilejcpdfhmmaaDoor
