/-
  DERIVED. GIVEN WITH THE SEED: THE CARDS: each row of YtnfppcndadfpcabDoorRows.lean that lists a variable, with what it lists TIED to the program's text (the seventh form; the later family's looks); each row that meets fmt, with fmt's text TOLD by the authors' own Lean function (tested against real Go, not proved from fmt's source: count such statements apart). THE CARD IS WHAT COUNTS. Prove the row's statement (the work); the ties are given (YtnfppcndadfpcabDoorTie.lean); close each card by the builder's one call (the guide's Derived/Test/ToyasCard.lean, 'card_holds'). Laid BY PROGRAM, IN A SANDBOX (cutbox-door.mjs). By AI agents, Wed Nov 11 2026. No macro, syntax, notation, axiom, sorry.
-/
import Derived.Test.YtnfppcndadfpcabDoorRows
import GoSem.ClaimSeven
namespace Go.Proofs.YtnfppcndadfpcabDoor
namespace Rows

/-- THE TIED CARD OF 'laws.FnExactValueOf'. -/
def fnExactValueOfCard : Claim7 := { stood := { row := fnExactValueOfRow, standIns := [], harness := (true, "26fac157237a76dc7c47be4d1f6345787e7607fb5295b5944f119a7c3f87dc4c"), looks := false }, kinds := [], alts := [], laidByText := true, laidKinds := [.data], laidTests := true, laidLooks := .later }
def FnExactValueOfCardSaid : Prop := Claim7.holds Tryd.pinned (.plain (OpenSpec.ofChange fnExactValueOfSpec)) fnExactValueOfCard

/-- THE TIED CARD OF 'laws.FnExactWindowBytes'. -/
def fnExactWindowBytesCard : Claim7 := { stood := { row := fnExactWindowBytesRow, standIns := [], harness := (true, "26fac157237a76dc7c47be4d1f6345787e7607fb5295b5944f119a7c3f87dc4c"), looks := false }, kinds := [], alts := [], laidByText := true, laidKinds := [.data], laidTests := true, laidLooks := .later }
def FnExactWindowBytesCardSaid : Prop := Claim7.holds Tryd.pinned (.plain (OpenSpec.ofChange fnExactWindowBytesSpec)) fnExactWindowBytesCard

/-- THE TIED CARD OF 'laws.FnExactWindowRead'. -/
def fnExactWindowReadCard : Claim7 := { stood := { row := fnExactWindowReadRow, standIns := [], harness := (true, "26fac157237a76dc7c47be4d1f6345787e7607fb5295b5944f119a7c3f87dc4c"), looks := false }, kinds := [], alts := [], laidByText := true, laidKinds := [.data], laidTests := true, laidLooks := .later }
def FnExactWindowReadCardSaid : Prop := Claim7.holds Tryd.pinned (.plain (OpenSpec.ofChange fnExactWindowReadSpec)) fnExactWindowReadCard

/-- THE SECOND FORM's CARD OF 'laws.FnExactValueOf'. -/
def fnExactValueOfUptoCard : Claim7 := { stood := { row := fnExactValueOfUptoRow, standIns := [], harness := (true, "26fac157237a76dc7c47be4d1f6345787e7607fb5295b5944f119a7c3f87dc4c"), looks := false }, kinds := [], alts := [], laidByText := true, laidKinds := [.data], laidTests := true, laidLooks := .later }
def FnExactValueOfUptoCardSaid : Prop := Claim7.holds Tryd.pinned (.plain (OpenSpec.upto fnExactValueOfSpec)) fnExactValueOfUptoCard

/-- THE SECOND FORM's CARD OF 'laws.FnExactWindowBytes'. -/
def fnExactWindowBytesUptoCard : Claim7 := { stood := { row := fnExactWindowBytesUptoRow, standIns := [], harness := (true, "26fac157237a76dc7c47be4d1f6345787e7607fb5295b5944f119a7c3f87dc4c"), looks := false }, kinds := [], alts := [], laidByText := true, laidKinds := [.data], laidTests := true, laidLooks := .later }
def FnExactWindowBytesUptoCardSaid : Prop := Claim7.holds Tryd.pinned (.plain (OpenSpec.upto fnExactWindowBytesSpec)) fnExactWindowBytesUptoCard

/-- THE SECOND FORM's CARD OF 'laws.FnExactWindowRead'. -/
def fnExactWindowReadUptoCard : Claim7 := { stood := { row := fnExactWindowReadUptoRow, standIns := [], harness := (true, "26fac157237a76dc7c47be4d1f6345787e7607fb5295b5944f119a7c3f87dc4c"), looks := false }, kinds := [], alts := [], laidByText := true, laidKinds := [.data], laidTests := true, laidLooks := .later }
def FnExactWindowReadUptoCardSaid : Prop := Claim7.holds Tryd.pinned (.plain (OpenSpec.upto fnExactWindowReadSpec)) fnExactWindowReadUptoCard
end Rows
end Go.Proofs.YtnfppcndadfpcabDoor
