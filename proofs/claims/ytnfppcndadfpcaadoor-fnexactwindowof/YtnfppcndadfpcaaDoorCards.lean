/-
  DERIVED. GIVEN WITH THE SEED: THE CARDS: each row of YtnfppcndadfpcaaDoorRows.lean that lists a variable, with what it lists TIED to the program's text (the seventh form; the later family's looks); each row that meets fmt, with fmt's text TOLD by the authors' own Lean function (tested against real Go, not proved from fmt's source: count such statements apart). THE CARD IS WHAT COUNTS. Prove the row's statement (the work); the ties are given (YtnfppcndadfpcaaDoorTie.lean); close each card by the builder's one call (the guide's Derived/Test/ToyasCard.lean, 'card_holds'). Laid BY PROGRAM, IN A SANDBOX (cutbox-door.mjs). By AI agents, Wed Nov 11 2026. No macro, syntax, notation, axiom, sorry.
-/
import Derived.Test.YtnfppcndadfpcaaDoorRows
import GoSem.ClaimSeven
namespace Go.Proofs.YtnfppcndadfpcaaDoor
namespace Rows

/-- THE TIED CARD OF 'laws.FnJoin'. -/
def fnJoinCard : Claim7 := { stood := { row := fnJoinRow, standIns := [], harness := (true, "f45c845b66b0ac6c318e2acb1026b2ed31f6d5bbb85d1b8c3834a0aeacb7521a"), looks := false }, kinds := [], alts := [], laidByText := true, laidKinds := [.data], laidTests := true, laidLooks := .later }
def FnJoinCardSaid : Prop := Claim7.holds Tryd.pinned (.plain (OpenSpec.ofChange fnJoinSpec)) fnJoinCard

/-- THE TIED CARD OF 'laws.FnExactWindowRight'. -/
def fnExactWindowRightCard : Claim7 := { stood := { row := fnExactWindowRightRow, standIns := [], harness := (true, "f45c845b66b0ac6c318e2acb1026b2ed31f6d5bbb85d1b8c3834a0aeacb7521a"), looks := false }, kinds := [], alts := [], laidByText := true, laidKinds := [.data], laidTests := true, laidLooks := .later }
def FnExactWindowRightCardSaid : Prop := Claim7.holds Tryd.pinned (.plain (OpenSpec.ofChange fnExactWindowRightSpec)) fnExactWindowRightCard

/-- THE TIED CARD OF 'laws.FnExactWindowOf'. -/
def fnExactWindowOfCard : Claim7 := { stood := { row := fnExactWindowOfRow, standIns := [], harness := (true, "f45c845b66b0ac6c318e2acb1026b2ed31f6d5bbb85d1b8c3834a0aeacb7521a"), looks := false }, kinds := [], alts := [], laidByText := true, laidKinds := [.data], laidTests := true, laidLooks := .later }
def FnExactWindowOfCardSaid : Prop := Claim7.holds Tryd.pinned (.plain (OpenSpec.ofChange fnExactWindowOfSpec)) fnExactWindowOfCard

/-- THE TIED CARD OF 'laws.FnExactWindowAdd'. -/
def fnExactWindowAddCard : Claim7 := { stood := { row := fnExactWindowAddRow, standIns := [], harness := (true, "f45c845b66b0ac6c318e2acb1026b2ed31f6d5bbb85d1b8c3834a0aeacb7521a"), looks := false }, kinds := [], alts := [], laidByText := true, laidKinds := [.data], laidTests := true, laidLooks := .later }
def FnExactWindowAddCardSaid : Prop := Claim7.holds Tryd.pinned (.plain (OpenSpec.ofChange fnExactWindowAddSpec)) fnExactWindowAddCard

/-- THE TIED CARD OF 'laws.FnExactWindowJoin'. -/
def fnExactWindowJoinCard : Claim7 := { stood := { row := fnExactWindowJoinRow, standIns := [], harness := (true, "f45c845b66b0ac6c318e2acb1026b2ed31f6d5bbb85d1b8c3834a0aeacb7521a"), looks := false }, kinds := [], alts := [], laidByText := true, laidKinds := [.data], laidTests := true, laidLooks := .later }
def FnExactWindowJoinCardSaid : Prop := Claim7.holds Tryd.pinned (.plain (OpenSpec.ofChange fnExactWindowJoinSpec)) fnExactWindowJoinCard

/-- THE SECOND FORM's CARD OF 'laws.FnJoin'. -/
def fnJoinUptoCard : Claim7 := { stood := { row := fnJoinUptoRow, standIns := [], harness := (true, "f45c845b66b0ac6c318e2acb1026b2ed31f6d5bbb85d1b8c3834a0aeacb7521a"), looks := false }, kinds := [], alts := [], laidByText := true, laidKinds := [.data], laidTests := true, laidLooks := .later }
def FnJoinUptoCardSaid : Prop := Claim7.holds Tryd.pinned (.plain (OpenSpec.upto fnJoinSpec)) fnJoinUptoCard

/-- THE SECOND FORM's CARD OF 'laws.FnExactWindowRight'. -/
def fnExactWindowRightUptoCard : Claim7 := { stood := { row := fnExactWindowRightUptoRow, standIns := [], harness := (true, "f45c845b66b0ac6c318e2acb1026b2ed31f6d5bbb85d1b8c3834a0aeacb7521a"), looks := false }, kinds := [], alts := [], laidByText := true, laidKinds := [.data], laidTests := true, laidLooks := .later }
def FnExactWindowRightUptoCardSaid : Prop := Claim7.holds Tryd.pinned (.plain (OpenSpec.upto fnExactWindowRightSpec)) fnExactWindowRightUptoCard

/-- THE SECOND FORM's CARD OF 'laws.FnExactWindowOf'. -/
def fnExactWindowOfUptoCard : Claim7 := { stood := { row := fnExactWindowOfUptoRow, standIns := [], harness := (true, "f45c845b66b0ac6c318e2acb1026b2ed31f6d5bbb85d1b8c3834a0aeacb7521a"), looks := false }, kinds := [], alts := [], laidByText := true, laidKinds := [.data], laidTests := true, laidLooks := .later }
def FnExactWindowOfUptoCardSaid : Prop := Claim7.holds Tryd.pinned (.plain (OpenSpec.upto fnExactWindowOfSpec)) fnExactWindowOfUptoCard

/-- THE SECOND FORM's CARD OF 'laws.FnExactWindowAdd'. -/
def fnExactWindowAddUptoCard : Claim7 := { stood := { row := fnExactWindowAddUptoRow, standIns := [], harness := (true, "f45c845b66b0ac6c318e2acb1026b2ed31f6d5bbb85d1b8c3834a0aeacb7521a"), looks := false }, kinds := [], alts := [], laidByText := true, laidKinds := [.data], laidTests := true, laidLooks := .later }
def FnExactWindowAddUptoCardSaid : Prop := Claim7.holds Tryd.pinned (.plain (OpenSpec.upto fnExactWindowAddSpec)) fnExactWindowAddUptoCard

/-- THE SECOND FORM's CARD OF 'laws.FnExactWindowJoin'. -/
def fnExactWindowJoinUptoCard : Claim7 := { stood := { row := fnExactWindowJoinUptoRow, standIns := [], harness := (true, "f45c845b66b0ac6c318e2acb1026b2ed31f6d5bbb85d1b8c3834a0aeacb7521a"), looks := false }, kinds := [], alts := [], laidByText := true, laidKinds := [.data], laidTests := true, laidLooks := .later }
def FnExactWindowJoinUptoCardSaid : Prop := Claim7.holds Tryd.pinned (.plain (OpenSpec.upto fnExactWindowJoinSpec)) fnExactWindowJoinUptoCard
end Rows
end Go.Proofs.YtnfppcndadfpcaaDoor
