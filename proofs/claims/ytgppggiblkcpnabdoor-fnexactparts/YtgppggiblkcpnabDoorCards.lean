/-
  DERIVED. GIVEN WITH THE SEED: THE CARDS: each row of YtgppggiblkcpnabDoorRows.lean that lists a variable, with what it lists TIED to the program's text (the seventh form; the later family's looks); each row that meets fmt, with fmt's text TOLD by the authors' own Lean function (tested against real Go, not proved from fmt's source: count such statements apart). THE CARD IS WHAT COUNTS. Prove the row's statement (the work); the ties are given (YtgppggiblkcpnabDoorTie.lean); close each card by the builder's one call (the guide's Derived/Test/ToyasCard.lean, 'card_holds'). Laid BY PROGRAM, IN A SANDBOX (cutbox-door.mjs). By AI agents, Wed Nov 11 2026. No macro, syntax, notation, axiom, sorry.
-/
import Derived.Test.YtgppggiblkcpnabDoorRows
import GoSem.ClaimSeven
namespace Go.Proofs.YtgppggiblkcpnabDoor
namespace Rows

/-- THE TIED CARD OF 'laws.FnExactParts'. -/
def fnExactPartsCard : Claim7 := { stood := { row := fnExactPartsRow, standIns := [], harness := (true, "36420ec36d6b5738e6dcedbd32fe552ca28da023b5873ff7ecf147e753be5ccb"), looks := false }, kinds := [], alts := [], laidByText := true, laidKinds := [.sentinel], laidTests := true, laidLooks := .later }
def FnExactPartsCardSaid : Prop := Claim7.holds Tryd.pinned (.plain (OpenSpec.ofChange fnExactPartsSpec)) fnExactPartsCard

/-- THE TIED CARD OF 'laws.FnExactTimesParts'. -/
def fnExactTimesPartsCard : Claim7 := { stood := { row := fnExactTimesPartsRow, standIns := [], harness := (true, "36420ec36d6b5738e6dcedbd32fe552ca28da023b5873ff7ecf147e753be5ccb"), looks := false }, kinds := [], alts := [], laidByText := true, laidKinds := [.sentinel], laidTests := true, laidLooks := .later }
def FnExactTimesPartsCardSaid : Prop := Claim7.holds Tryd.pinned (.plain (OpenSpec.ofChange fnExactTimesPartsSpec)) fnExactTimesPartsCard

/-- THE TIED CARD OF 'laws.FnExactPercent'. -/
def fnExactPercentCard : Claim7 := { stood := { row := fnExactPercentRow, standIns := [], harness := (true, "36420ec36d6b5738e6dcedbd32fe552ca28da023b5873ff7ecf147e753be5ccb"), looks := false }, kinds := [], alts := [], laidByText := true, laidKinds := [.sentinel], laidTests := true, laidLooks := .later }
def FnExactPercentCardSaid : Prop := Claim7.holds Tryd.pinned (.plain (OpenSpec.ofChange fnExactPercentSpec)) fnExactPercentCard

/-- THE SECOND FORM's CARD OF 'laws.FnExactParts'. -/
def fnExactPartsUptoCard : Claim7 := { stood := { row := fnExactPartsUptoRow, standIns := [], harness := (true, "36420ec36d6b5738e6dcedbd32fe552ca28da023b5873ff7ecf147e753be5ccb"), looks := false }, kinds := [], alts := [], laidByText := true, laidKinds := [.sentinel], laidTests := true, laidLooks := .later }
def FnExactPartsUptoCardSaid : Prop := Claim7.holds Tryd.pinned (.plain (OpenSpec.upto fnExactPartsSpec)) fnExactPartsUptoCard

/-- THE SECOND FORM's CARD OF 'laws.FnExactTimesParts'. -/
def fnExactTimesPartsUptoCard : Claim7 := { stood := { row := fnExactTimesPartsUptoRow, standIns := [], harness := (true, "36420ec36d6b5738e6dcedbd32fe552ca28da023b5873ff7ecf147e753be5ccb"), looks := false }, kinds := [], alts := [], laidByText := true, laidKinds := [.sentinel], laidTests := true, laidLooks := .later }
def FnExactTimesPartsUptoCardSaid : Prop := Claim7.holds Tryd.pinned (.plain (OpenSpec.upto fnExactTimesPartsSpec)) fnExactTimesPartsUptoCard

/-- THE SECOND FORM's CARD OF 'laws.FnExactPercent'. -/
def fnExactPercentUptoCard : Claim7 := { stood := { row := fnExactPercentUptoRow, standIns := [], harness := (true, "36420ec36d6b5738e6dcedbd32fe552ca28da023b5873ff7ecf147e753be5ccb"), looks := false }, kinds := [], alts := [], laidByText := true, laidKinds := [.sentinel], laidTests := true, laidLooks := .later }
def FnExactPercentUptoCardSaid : Prop := Claim7.holds Tryd.pinned (.plain (OpenSpec.upto fnExactPercentSpec)) fnExactPercentUptoCard
end Rows
end Go.Proofs.YtgppggiblkcpnabDoor
