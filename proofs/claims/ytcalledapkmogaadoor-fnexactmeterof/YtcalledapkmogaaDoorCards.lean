/-
  DERIVED. GIVEN WITH THE SEED: THE CARDS: each row of YtcalledapkmogaaDoorRows.lean that lists a variable, with what it lists TIED to the program's text (the seventh form; the later family's looks); each row that meets fmt, with fmt's text TOLD by the authors' own Lean function (tested against real Go, not proved from fmt's source: count such statements apart). THE CARD IS WHAT COUNTS. Prove the row's statement (the work); the ties are given (YtcalledapkmogaaDoorTie.lean); close each card by the builder's one call (the guide's Derived/Test/ToyasCard.lean, 'card_holds'). Laid BY PROGRAM, IN A SANDBOX (cutbox-door.mjs). By AI agents, Wed Nov 11 2026. No macro, syntax, notation, axiom, sorry.
-/
import Derived.Test.YtcalledapkmogaaDoorRows
import GoSem.ClaimSeven
namespace Go.Proofs.YtcalledapkmogaaDoor
namespace Rows

/-- THE TIED CARD OF 'laws.FnCatalog'. -/
def fnCatalogCard : Claim7 := { stood := { row := fnCatalogRow, standIns := [], harness := (true, "2d9e841eba4e4441f935e0204e2e922e99dd8bc066d82fc3b2c0a57e4d5e7a3f"), looks := true }, kinds := [], alts := [], laidByText := true, laidKinds := [.sentinel], laidTests := true, laidLooks := .later }
def FnCatalogCardSaid : Prop := Claim7.holds Tryd.pinned (.plain (OpenSpec.ofChange fnCatalogSpec)) fnCatalogCard

/-- THE TIED CARD OF 'laws.FnExactMeterOf'. -/
def fnExactMeterOfCard : Claim7 := { stood := { row := fnExactMeterOfRow, standIns := [], harness := (true, "2d9e841eba4e4441f935e0204e2e922e99dd8bc066d82fc3b2c0a57e4d5e7a3f"), looks := true }, kinds := [], alts := [], laidByText := true, laidKinds := [.sentinel], laidTests := true, laidLooks := .later }
def FnExactMeterOfCardSaid : Prop := Claim7.holds Tryd.pinned (.plain (OpenSpec.ofChange fnExactMeterOfSpec)) fnExactMeterOfCard

/-- THE TIED CARD OF 'laws.FnExactCatalogRead'. -/
def fnExactCatalogReadCard : Claim7 := { stood := { row := fnExactCatalogReadRow, standIns := [], harness := (true, "2d9e841eba4e4441f935e0204e2e922e99dd8bc066d82fc3b2c0a57e4d5e7a3f"), looks := true }, kinds := [], alts := [], laidByText := true, laidKinds := [.sentinel], laidTests := true, laidLooks := .later }
def FnExactCatalogReadCardSaid : Prop := Claim7.holds Tryd.pinned (.plain (OpenSpec.ofChange fnExactCatalogReadSpec)) fnExactCatalogReadCard

/-- THE SECOND FORM's CARD OF 'laws.FnCatalog'. -/
def fnCatalogUptoCard : Claim7 := { stood := { row := fnCatalogUptoRow, standIns := [], harness := (true, "2d9e841eba4e4441f935e0204e2e922e99dd8bc066d82fc3b2c0a57e4d5e7a3f"), looks := true }, kinds := [], alts := [], laidByText := true, laidKinds := [.sentinel], laidTests := true, laidLooks := .later }
def FnCatalogUptoCardSaid : Prop := Claim7.holds Tryd.pinned (.plain (OpenSpec.upto fnCatalogSpec)) fnCatalogUptoCard

/-- THE SECOND FORM's CARD OF 'laws.FnExactMeterOf'. -/
def fnExactMeterOfUptoCard : Claim7 := { stood := { row := fnExactMeterOfUptoRow, standIns := [], harness := (true, "2d9e841eba4e4441f935e0204e2e922e99dd8bc066d82fc3b2c0a57e4d5e7a3f"), looks := true }, kinds := [], alts := [], laidByText := true, laidKinds := [.sentinel], laidTests := true, laidLooks := .later }
def FnExactMeterOfUptoCardSaid : Prop := Claim7.holds Tryd.pinned (.plain (OpenSpec.upto fnExactMeterOfSpec)) fnExactMeterOfUptoCard

/-- THE SECOND FORM's CARD OF 'laws.FnExactCatalogRead'. -/
def fnExactCatalogReadUptoCard : Claim7 := { stood := { row := fnExactCatalogReadUptoRow, standIns := [], harness := (true, "2d9e841eba4e4441f935e0204e2e922e99dd8bc066d82fc3b2c0a57e4d5e7a3f"), looks := true }, kinds := [], alts := [], laidByText := true, laidKinds := [.sentinel], laidTests := true, laidLooks := .later }
def FnExactCatalogReadUptoCardSaid : Prop := Claim7.holds Tryd.pinned (.plain (OpenSpec.upto fnExactCatalogReadSpec)) fnExactCatalogReadUptoCard
end Rows
end Go.Proofs.YtcalledapkmogaaDoor
