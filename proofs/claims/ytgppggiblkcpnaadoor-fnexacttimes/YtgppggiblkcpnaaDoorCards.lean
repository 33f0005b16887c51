/-
  DERIVED. GIVEN WITH THE SEED: THE CARDS: each row of YtgppggiblkcpnaaDoorRows.lean that lists a variable, with what it lists TIED to the program's text (the seventh form; the later family's looks); each row that meets fmt, with fmt's text TOLD by the authors' own Lean function (tested against real Go, not proved from fmt's source: count such statements apart). THE CARD IS WHAT COUNTS. Prove the row's statement (the work); the ties are given (YtgppggiblkcpnaaDoorTie.lean); close each card by the builder's one call (the guide's Derived/Test/ToyasCard.lean, 'card_holds'). Laid BY PROGRAM, IN A SANDBOX (cutbox-door.mjs). By AI agents, Wed Nov 11 2026. No macro, syntax, notation, axiom, sorry.
-/
import Derived.Test.YtgppggiblkcpnaaDoorRows
import GoSem.ClaimSeven
namespace Go.Proofs.YtgppggiblkcpnaaDoor
namespace Rows

/-- THE TIED CARD OF 'laws.FnFix'. -/
def fnFixCard : Claim7 := { stood := { row := fnFixRow, standIns := [], harness := (true, "77e8f31caf3c68ae81fead56ae5961dfc34c107bbdc53f1566aade3325f18c4f"), looks := false }, kinds := [], alts := [], laidByText := true, laidKinds := [.sentinel], laidTests := true, laidLooks := .later }
def FnFixCardSaid : Prop := Claim7.holds Tryd.pinned (.plain (OpenSpec.ofChange fnFixSpec)) fnFixCard

/-- THE TIED CARD OF 'laws.FnScale'. -/
def fnScaleCard : Claim7 := { stood := { row := fnScaleRow, standIns := [], harness := (true, "77e8f31caf3c68ae81fead56ae5961dfc34c107bbdc53f1566aade3325f18c4f"), looks := false }, kinds := [], alts := [], laidByText := true, laidKinds := [.sentinel], laidTests := true, laidLooks := .later }
def FnScaleCardSaid : Prop := Claim7.holds Tryd.pinned (.plain (OpenSpec.ofChange fnScaleSpec)) fnScaleCard

/-- THE TIED CARD OF 'laws.FnExactPlus'. -/
def fnExactPlusCard : Claim7 := { stood := { row := fnExactPlusRow, standIns := [], harness := (true, "77e8f31caf3c68ae81fead56ae5961dfc34c107bbdc53f1566aade3325f18c4f"), looks := false }, kinds := [], alts := [], laidByText := true, laidKinds := [.sentinel], laidTests := true, laidLooks := .later }
def FnExactPlusCardSaid : Prop := Claim7.holds Tryd.pinned (.plain (OpenSpec.ofChange fnExactPlusSpec)) fnExactPlusCard

/-- THE TIED CARD OF 'laws.FnExactMinus'. -/
def fnExactMinusCard : Claim7 := { stood := { row := fnExactMinusRow, standIns := [], harness := (true, "77e8f31caf3c68ae81fead56ae5961dfc34c107bbdc53f1566aade3325f18c4f"), looks := false }, kinds := [], alts := [], laidByText := true, laidKinds := [.sentinel], laidTests := true, laidLooks := .later }
def FnExactMinusCardSaid : Prop := Claim7.holds Tryd.pinned (.plain (OpenSpec.ofChange fnExactMinusSpec)) fnExactMinusCard

/-- THE TIED CARD OF 'laws.FnExactTimes'. -/
def fnExactTimesCard : Claim7 := { stood := { row := fnExactTimesRow, standIns := [], harness := (true, "77e8f31caf3c68ae81fead56ae5961dfc34c107bbdc53f1566aade3325f18c4f"), looks := false }, kinds := [], alts := [], laidByText := true, laidKinds := [.sentinel], laidTests := true, laidLooks := .later }
def FnExactTimesCardSaid : Prop := Claim7.holds Tryd.pinned (.plain (OpenSpec.ofChange fnExactTimesSpec)) fnExactTimesCard

/-- THE SECOND FORM's CARD OF 'laws.FnFix'. -/
def fnFixUptoCard : Claim7 := { stood := { row := fnFixUptoRow, standIns := [], harness := (true, "77e8f31caf3c68ae81fead56ae5961dfc34c107bbdc53f1566aade3325f18c4f"), looks := false }, kinds := [], alts := [], laidByText := true, laidKinds := [.sentinel], laidTests := true, laidLooks := .later }
def FnFixUptoCardSaid : Prop := Claim7.holds Tryd.pinned (.plain (OpenSpec.upto fnFixSpec)) fnFixUptoCard

/-- THE SECOND FORM's CARD OF 'laws.FnScale'. -/
def fnScaleUptoCard : Claim7 := { stood := { row := fnScaleUptoRow, standIns := [], harness := (true, "77e8f31caf3c68ae81fead56ae5961dfc34c107bbdc53f1566aade3325f18c4f"), looks := false }, kinds := [], alts := [], laidByText := true, laidKinds := [.sentinel], laidTests := true, laidLooks := .later }
def FnScaleUptoCardSaid : Prop := Claim7.holds Tryd.pinned (.plain (OpenSpec.upto fnScaleSpec)) fnScaleUptoCard

/-- THE SECOND FORM's CARD OF 'laws.FnExactPlus'. -/
def fnExactPlusUptoCard : Claim7 := { stood := { row := fnExactPlusUptoRow, standIns := [], harness := (true, "77e8f31caf3c68ae81fead56ae5961dfc34c107bbdc53f1566aade3325f18c4f"), looks := false }, kinds := [], alts := [], laidByText := true, laidKinds := [.sentinel], laidTests := true, laidLooks := .later }
def FnExactPlusUptoCardSaid : Prop := Claim7.holds Tryd.pinned (.plain (OpenSpec.upto fnExactPlusSpec)) fnExactPlusUptoCard

/-- THE SECOND FORM's CARD OF 'laws.FnExactMinus'. -/
def fnExactMinusUptoCard : Claim7 := { stood := { row := fnExactMinusUptoRow, standIns := [], harness := (true, "77e8f31caf3c68ae81fead56ae5961dfc34c107bbdc53f1566aade3325f18c4f"), looks := false }, kinds := [], alts := [], laidByText := true, laidKinds := [.sentinel], laidTests := true, laidLooks := .later }
def FnExactMinusUptoCardSaid : Prop := Claim7.holds Tryd.pinned (.plain (OpenSpec.upto fnExactMinusSpec)) fnExactMinusUptoCard

/-- THE SECOND FORM's CARD OF 'laws.FnExactTimes'. -/
def fnExactTimesUptoCard : Claim7 := { stood := { row := fnExactTimesUptoRow, standIns := [], harness := (true, "77e8f31caf3c68ae81fead56ae5961dfc34c107bbdc53f1566aade3325f18c4f"), looks := false }, kinds := [], alts := [], laidByText := true, laidKinds := [.sentinel], laidTests := true, laidLooks := .later }
def FnExactTimesUptoCardSaid : Prop := Claim7.holds Tryd.pinned (.plain (OpenSpec.upto fnExactTimesSpec)) fnExactTimesUptoCard
end Rows
end Go.Proofs.YtgppggiblkcpnaaDoor
