/-
  DERIVED. GIVEN WITH THE SEED: THE CARDS: each row of YtbecalapmhjliaaDoorRows.lean that lists a variable, with what it lists TIED to the program's text (the seventh form; the later family's looks); each row that meets fmt, with fmt's text TOLD by the authors' own Lean function (tested against real Go, not proved from fmt's source: count such statements apart). THE CARD IS WHAT COUNTS. Prove the row's statement (the work); the ties are given (YtbecalapmhjliaaDoorTie.lean); close each card by the builder's one call (the guide's Derived/Test/ToyasCard.lean, 'card_holds'). Laid BY PROGRAM, IN A SANDBOX (cutbox-door.mjs). By AI agents, Wed Nov 11 2026. No macro, syntax, notation, axiom, sorry.
-/
import Derived.Test.YtbecalapmhjliaaDoorRows
import GoSem.ClaimSeven
namespace Go.Proofs.YtbecalapmhjliaaDoor
namespace Rows

/-- THE TIED CARD OF 'laws.FnExactDocText'. -/
def fnExactDocTextCard : Claim7 := { stood := { row := fnExactDocTextRow, standIns := [], harness := (true, "459d59ab36bd43963b065483857911c02a5320de9c6e21a32c4a604098134e5c"), looks := false }, kinds := [], alts := [], laidByText := true, laidKinds := [.data, .data, .data], laidTests := true, laidLooks := .later }
def FnExactDocTextCardSaid : Prop := Claim7.holds Tryd.pinned (.plain (OpenSpec.ofChange fnExactDocTextSpec)) fnExactDocTextCard

/-- THE TIED CARD OF 'laws.FnExactLedgerRight'. -/
def fnExactLedgerRightCard : Claim7 := { stood := { row := fnExactLedgerRightRow, standIns := [], harness := (true, "459d59ab36bd43963b065483857911c02a5320de9c6e21a32c4a604098134e5c"), looks := false }, kinds := [], alts := [], laidByText := true, laidKinds := [.sentinel], laidTests := true, laidLooks := .later }
def FnExactLedgerRightCardSaid : Prop := Claim7.holds Tryd.pinned (.plain (OpenSpec.ofChange fnExactLedgerRightSpec)) fnExactLedgerRightCard

/-- THE TIED CARD OF 'laws.FnExactLedgerBytes'. -/
def fnExactLedgerBytesCard : Claim7 := { stood := { row := fnExactLedgerBytesRow, standIns := [], harness := (true, "459d59ab36bd43963b065483857911c02a5320de9c6e21a32c4a604098134e5c"), looks := false }, kinds := [], alts := [], laidByText := true, laidKinds := [.sentinel], laidTests := true, laidLooks := .later }
def FnExactLedgerBytesCardSaid : Prop := Claim7.holds Tryd.pinned (.plain (OpenSpec.ofChange fnExactLedgerBytesSpec)) fnExactLedgerBytesCard

/-- THE TIED CARD OF 'laws.FnExactLess'. -/
def fnExactLessCard : Claim7 := { stood := { row := fnExactLessRow, standIns := [], harness := (true, "459d59ab36bd43963b065483857911c02a5320de9c6e21a32c4a604098134e5c"), looks := false }, kinds := [], alts := [], laidByText := true, laidKinds := [.sentinel], laidTests := true, laidLooks := .later }
def FnExactLessCardSaid : Prop := Claim7.holds Tryd.pinned (.plain (OpenSpec.ofChange fnExactLessSpec)) fnExactLessCard

/-- THE TIED CARD OF 'laws.FnExactNetOf'. -/
def fnExactNetOfCard : Claim7 := { stood := { row := fnExactNetOfRow, standIns := [], harness := (true, "459d59ab36bd43963b065483857911c02a5320de9c6e21a32c4a604098134e5c"), looks := false }, kinds := [], alts := [], laidByText := true, laidKinds := [.sentinel], laidTests := true, laidLooks := .later }
def FnExactNetOfCardSaid : Prop := Claim7.holds Tryd.pinned (.plain (OpenSpec.ofChange fnExactNetOfSpec)) fnExactNetOfCard

/-- THE SECOND FORM's CARD OF 'laws.FnExactDocText'. -/
def fnExactDocTextUptoCard : Claim7 := { stood := { row := fnExactDocTextUptoRow, standIns := [], harness := (true, "459d59ab36bd43963b065483857911c02a5320de9c6e21a32c4a604098134e5c"), looks := false }, kinds := [], alts := [], laidByText := true, laidKinds := [.data, .data, .data], laidTests := true, laidLooks := .later }
def FnExactDocTextUptoCardSaid : Prop := Claim7.holds Tryd.pinned (.plain (OpenSpec.upto fnExactDocTextSpec)) fnExactDocTextUptoCard

/-- THE SECOND FORM's CARD OF 'laws.FnExactLedgerRight'. -/
def fnExactLedgerRightUptoCard : Claim7 := { stood := { row := fnExactLedgerRightUptoRow, standIns := [], harness := (true, "459d59ab36bd43963b065483857911c02a5320de9c6e21a32c4a604098134e5c"), looks := false }, kinds := [], alts := [], laidByText := true, laidKinds := [.sentinel], laidTests := true, laidLooks := .later }
def FnExactLedgerRightUptoCardSaid : Prop := Claim7.holds Tryd.pinned (.plain (OpenSpec.upto fnExactLedgerRightSpec)) fnExactLedgerRightUptoCard

/-- THE SECOND FORM's CARD OF 'laws.FnExactLedgerBytes'. -/
def fnExactLedgerBytesUptoCard : Claim7 := { stood := { row := fnExactLedgerBytesUptoRow, standIns := [], harness := (true, "459d59ab36bd43963b065483857911c02a5320de9c6e21a32c4a604098134e5c"), looks := false }, kinds := [], alts := [], laidByText := true, laidKinds := [.sentinel], laidTests := true, laidLooks := .later }
def FnExactLedgerBytesUptoCardSaid : Prop := Claim7.holds Tryd.pinned (.plain (OpenSpec.upto fnExactLedgerBytesSpec)) fnExactLedgerBytesUptoCard

/-- THE SECOND FORM's CARD OF 'laws.FnExactLess'. -/
def fnExactLessUptoCard : Claim7 := { stood := { row := fnExactLessUptoRow, standIns := [], harness := (true, "459d59ab36bd43963b065483857911c02a5320de9c6e21a32c4a604098134e5c"), looks := false }, kinds := [], alts := [], laidByText := true, laidKinds := [.sentinel], laidTests := true, laidLooks := .later }
def FnExactLessUptoCardSaid : Prop := Claim7.holds Tryd.pinned (.plain (OpenSpec.upto fnExactLessSpec)) fnExactLessUptoCard

/-- THE SECOND FORM's CARD OF 'laws.FnExactNetOf'. -/
def fnExactNetOfUptoCard : Claim7 := { stood := { row := fnExactNetOfUptoRow, standIns := [], harness := (true, "459d59ab36bd43963b065483857911c02a5320de9c6e21a32c4a604098134e5c"), looks := false }, kinds := [], alts := [], laidByText := true, laidKinds := [.sentinel], laidTests := true, laidLooks := .later }
def FnExactNetOfUptoCardSaid : Prop := Claim7.holds Tryd.pinned (.plain (OpenSpec.upto fnExactNetOfSpec)) fnExactNetOfUptoCard
end Rows
end Go.Proofs.YtbecalapmhjliaaDoor
