/-
  DERIVED. GIVEN WITH THE SEED: THE CARDS: each row of YtaihfidbpkbnkaaDoorRows.lean that lists a variable, with what it lists TIED to the program's text (the seventh form; the later family's looks); each row that meets fmt, with fmt's text TOLD by the authors' own Lean function (tested against real Go, not proved from fmt's source: count such statements apart). THE CARD IS WHAT COUNTS. Prove the row's statement (the work); the ties are given (YtaihfidbpkbnkaaDoorTie.lean); close each card by the builder's one call (the guide's Derived/Test/ToyasCard.lean, 'card_holds'). Laid BY PROGRAM, IN A SANDBOX (cutbox-door.mjs). By AI agents, Wed Nov 11 2026. No macro, syntax, notation, axiom, sorry.
-/
import Derived.Test.YtaihfidbpkbnkaaDoorRows
import GoSem.ClaimSeven
namespace Go.Proofs.YtaihfidbpkbnkaaDoor
namespace Rows

/-- THE TIED CARD OF 'laws.FnFix'. -/
def fnFixCard : Claim7 := { stood := { row := fnFixRow, standIns := [], harness := (true, "43ce5641cecea5c7b6fe24ba032c74f97cc1c2759b21dbedeb1a6c62f8087522"), looks := true }, kinds := [], alts := [], laidByText := true, laidKinds := [.sentinel], laidTests := true, laidLooks := .later }
def FnFixCardSaid : Prop := Claim7.holds Tryd.pinned (.plain (OpenSpec.ofChange fnFixSpec)) fnFixCard

/-- THE TIED CARD OF 'laws.FnScale'. -/
def fnScaleCard : Claim7 := { stood := { row := fnScaleRow, standIns := [], harness := (true, "43ce5641cecea5c7b6fe24ba032c74f97cc1c2759b21dbedeb1a6c62f8087522"), looks := true }, kinds := [], alts := [], laidByText := true, laidKinds := [.sentinel], laidTests := true, laidLooks := .later }
def FnScaleCardSaid : Prop := Claim7.holds Tryd.pinned (.plain (OpenSpec.ofChange fnScaleSpec)) fnScaleCard

/-- THE TIED CARD OF 'laws.FnDate'. -/
def fnDateCard : Claim7 := { stood := { row := fnDateRow, standIns := [], harness := (true, "43ce5641cecea5c7b6fe24ba032c74f97cc1c2759b21dbedeb1a6c62f8087522"), looks := true }, kinds := [], alts := [], laidByText := true, laidKinds := [.data, .data, .data, .sentinel, .sentinel, .data], laidTests := true, laidLooks := .later }
def FnDateCardSaid : Prop := Claim7.holds Tryd.pinned (.plain (OpenSpec.ofChange fnDateSpec)) fnDateCard

/-- THE TIED CARD OF 'laws.FnExactTimesParts'. -/
def fnExactTimesPartsCard : Claim7 := { stood := { row := fnExactTimesPartsRow, standIns := [], harness := (true, "43ce5641cecea5c7b6fe24ba032c74f97cc1c2759b21dbedeb1a6c62f8087522"), looks := true }, kinds := [], alts := [], laidByText := true, laidKinds := [.sentinel], laidTests := true, laidLooks := .later }
def FnExactTimesPartsCardSaid : Prop := Claim7.holds Tryd.pinned (.plain (OpenSpec.ofChange fnExactTimesPartsSpec)) fnExactTimesPartsCard

/-- THE TIED CARD OF 'laws.FnExactPercent'. -/
def fnExactPercentCard : Claim7 := { stood := { row := fnExactPercentRow, standIns := [], harness := (true, "43ce5641cecea5c7b6fe24ba032c74f97cc1c2759b21dbedeb1a6c62f8087522"), looks := true }, kinds := [], alts := [], laidByText := true, laidKinds := [.sentinel], laidTests := true, laidLooks := .later }
def FnExactPercentCardSaid : Prop := Claim7.holds Tryd.pinned (.plain (OpenSpec.ofChange fnExactPercentSpec)) fnExactPercentCard

/-- THE SECOND FORM's CARD OF 'laws.FnFix'. -/
def fnFixUptoCard : Claim7 := { stood := { row := fnFixUptoRow, standIns := [], harness := (true, "43ce5641cecea5c7b6fe24ba032c74f97cc1c2759b21dbedeb1a6c62f8087522"), looks := true }, kinds := [], alts := [], laidByText := true, laidKinds := [.sentinel], laidTests := true, laidLooks := .later }
def FnFixUptoCardSaid : Prop := Claim7.holds Tryd.pinned (.plain (OpenSpec.upto fnFixSpec)) fnFixUptoCard

/-- THE SECOND FORM's CARD OF 'laws.FnScale'. -/
def fnScaleUptoCard : Claim7 := { stood := { row := fnScaleUptoRow, standIns := [], harness := (true, "43ce5641cecea5c7b6fe24ba032c74f97cc1c2759b21dbedeb1a6c62f8087522"), looks := true }, kinds := [], alts := [], laidByText := true, laidKinds := [.sentinel], laidTests := true, laidLooks := .later }
def FnScaleUptoCardSaid : Prop := Claim7.holds Tryd.pinned (.plain (OpenSpec.upto fnScaleSpec)) fnScaleUptoCard

/-- THE SECOND FORM's CARD OF 'laws.FnDate'. -/
def fnDateUptoCard : Claim7 := { stood := { row := fnDateUptoRow, standIns := [], harness := (true, "43ce5641cecea5c7b6fe24ba032c74f97cc1c2759b21dbedeb1a6c62f8087522"), looks := true }, kinds := [], alts := [], laidByText := true, laidKinds := [.data, .data, .data, .sentinel, .sentinel, .data], laidTests := true, laidLooks := .later }
def FnDateUptoCardSaid : Prop := Claim7.holds Tryd.pinned (.plain (OpenSpec.upto fnDateSpec)) fnDateUptoCard

/-- THE SECOND FORM's CARD OF 'laws.FnExactTimesParts'. -/
def fnExactTimesPartsUptoCard : Claim7 := { stood := { row := fnExactTimesPartsUptoRow, standIns := [], harness := (true, "43ce5641cecea5c7b6fe24ba032c74f97cc1c2759b21dbedeb1a6c62f8087522"), looks := true }, kinds := [], alts := [], laidByText := true, laidKinds := [.sentinel], laidTests := true, laidLooks := .later }
def FnExactTimesPartsUptoCardSaid : Prop := Claim7.holds Tryd.pinned (.plain (OpenSpec.upto fnExactTimesPartsSpec)) fnExactTimesPartsUptoCard

/-- THE SECOND FORM's CARD OF 'laws.FnExactPercent'. -/
def fnExactPercentUptoCard : Claim7 := { stood := { row := fnExactPercentUptoRow, standIns := [], harness := (true, "43ce5641cecea5c7b6fe24ba032c74f97cc1c2759b21dbedeb1a6c62f8087522"), looks := true }, kinds := [], alts := [], laidByText := true, laidKinds := [.sentinel], laidTests := true, laidLooks := .later }
def FnExactPercentUptoCardSaid : Prop := Claim7.holds Tryd.pinned (.plain (OpenSpec.upto fnExactPercentSpec)) fnExactPercentUptoCard
end Rows
end Go.Proofs.YtaihfidbpkbnkaaDoor
