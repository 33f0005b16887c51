/-
  DERIVED. GIVEN WITH THE SEED: THE CARDS: each row of YtnhjodlcdfkpnaaDoorRows.lean that lists a variable, with what it lists TIED to the program's text (the seventh form; the later family's looks); each row that meets fmt, with fmt's text TOLD by the authors' own Lean function (tested against real Go, not proved from fmt's source: count such statements apart). THE CARD IS WHAT COUNTS. Prove the row's statement (the work); the ties are given (YtnhjodlcdfkpnaaDoorTie.lean); close each card by the builder's one call (the guide's Derived/Test/ToyasCard.lean, 'card_holds'). Laid BY PROGRAM, IN A SANDBOX (cutbox-door.mjs). By AI agents, Wed Nov 11 2026. No macro, syntax, notation, axiom, sorry.
-/
import Derived.Test.YtnhjodlcdfkpnaaDoorRows
import GoSem.ClaimSeven
namespace Go.Proofs.YtnhjodlcdfkpnaaDoor
namespace Rows

/-- THE TIED CARD OF 'laws.FnExactRate'. -/
def fnExactRateCard : Claim7 := { stood := { row := fnExactRateRow, standIns := [], harness := (true, "a2804127afe6989d8e593eab5400d671957bab3bfe191664972ed7f849d88752"), looks := false }, kinds := [], alts := [], laidByText := true, laidKinds := [.sentinel], laidTests := true, laidLooks := .later }
def FnExactRateCardSaid : Prop := Claim7.holds Tryd.pinned (.plain (OpenSpec.ofChange fnExactRateSpec)) fnExactRateCard

/-- THE TIED CARD OF 'laws.FnExactRateBetween'. -/
def fnExactRateBetweenCard : Claim7 := { stood := { row := fnExactRateBetweenRow, standIns := [], harness := (true, "a2804127afe6989d8e593eab5400d671957bab3bfe191664972ed7f849d88752"), looks := false }, kinds := [], alts := [], laidByText := true, laidKinds := [.sentinel], laidTests := true, laidLooks := .later }
def FnExactRateBetweenCardSaid : Prop := Claim7.holds Tryd.pinned (.plain (OpenSpec.ofChange fnExactRateBetweenSpec)) fnExactRateBetweenCard

/-- THE TIED CARD OF 'laws.FnRate'. -/
def fnRateCard : Claim7 := { stood := { row := fnRateRow, standIns := [], harness := (true, "a2804127afe6989d8e593eab5400d671957bab3bfe191664972ed7f849d88752"), looks := false }, kinds := [], alts := [], laidByText := true, laidKinds := [.sentinel], laidTests := true, laidLooks := .later }
def FnRateCardSaid : Prop := Claim7.holds Tryd.pinned (.plain (OpenSpec.ofChange fnRateSpec)) fnRateCard

/-- THE SECOND FORM's CARD OF 'laws.FnExactRate'. -/
def fnExactRateUptoCard : Claim7 := { stood := { row := fnExactRateUptoRow, standIns := [], harness := (true, "a2804127afe6989d8e593eab5400d671957bab3bfe191664972ed7f849d88752"), looks := false }, kinds := [], alts := [], laidByText := true, laidKinds := [.sentinel], laidTests := true, laidLooks := .later }
def FnExactRateUptoCardSaid : Prop := Claim7.holds Tryd.pinned (.plain (OpenSpec.upto fnExactRateSpec)) fnExactRateUptoCard

/-- THE SECOND FORM's CARD OF 'laws.FnExactRateBetween'. -/
def fnExactRateBetweenUptoCard : Claim7 := { stood := { row := fnExactRateBetweenUptoRow, standIns := [], harness := (true, "a2804127afe6989d8e593eab5400d671957bab3bfe191664972ed7f849d88752"), looks := false }, kinds := [], alts := [], laidByText := true, laidKinds := [.sentinel], laidTests := true, laidLooks := .later }
def FnExactRateBetweenUptoCardSaid : Prop := Claim7.holds Tryd.pinned (.plain (OpenSpec.upto fnExactRateBetweenSpec)) fnExactRateBetweenUptoCard

/-- THE SECOND FORM's CARD OF 'laws.FnRate'. -/
def fnRateUptoCard : Claim7 := { stood := { row := fnRateUptoRow, standIns := [], harness := (true, "a2804127afe6989d8e593eab5400d671957bab3bfe191664972ed7f849d88752"), looks := false }, kinds := [], alts := [], laidByText := true, laidKinds := [.sentinel], laidTests := true, laidLooks := .later }
def FnRateUptoCardSaid : Prop := Claim7.holds Tryd.pinned (.plain (OpenSpec.upto fnRateSpec)) fnRateUptoCard
end Rows
end Go.Proofs.YtnhjodlcdfkpnaaDoor
