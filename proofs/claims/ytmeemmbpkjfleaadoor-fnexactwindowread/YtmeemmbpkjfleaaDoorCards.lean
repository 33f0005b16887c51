/-
  DERIVED. GIVEN WITH THE SEED: THE CARDS: each row of YtmeemmbpkjfleaaDoorRows.lean that lists a variable, with what it lists TIED to the program's text (the seventh form; the later family's looks); each row that meets fmt, with fmt's text TOLD by the authors' own Lean function (tested against real Go, not proved from fmt's source: count such statements apart). THE CARD IS WHAT COUNTS. Prove the row's statement (the work); the ties are given (YtmeemmbpkjfleaaDoorTie.lean); close each card by the builder's one call (the guide's Derived/Test/ToyasCard.lean, 'card_holds'). Laid BY PROGRAM, IN A SANDBOX (cutbox-door.mjs). By AI agents, Wed Nov 11 2026. No macro, syntax, notation, axiom, sorry.
-/
import Derived.Test.YtmeemmbpkjfleaaDoorRows
import GoSem.ClaimSeven
namespace Go.Proofs.YtmeemmbpkjfleaaDoor
namespace Rows

/-- THE TIED CARD OF 'laws.FnExactWindowJoin'. -/
def fnExactWindowJoinCard : Claim7 := { stood := { row := fnExactWindowJoinRow, standIns := [], harness := (true, "5e3deb711040e6c66dd97b89f1290a33b053a60b3379b5d03c05e2ec1595650d"), looks := false }, kinds := [], alts := [], laidByText := true, laidKinds := [.data], laidTests := true, laidLooks := .later }
def FnExactWindowJoinCardSaid : Prop := Claim7.holds Tryd.pinned (.plain (OpenSpec.ofChange fnExactWindowJoinSpec)) fnExactWindowJoinCard

/-- THE TIED CARD OF 'laws.FnExactWindowAdd'. -/
def fnExactWindowAddCard : Claim7 := { stood := { row := fnExactWindowAddRow, standIns := [], harness := (true, "5e3deb711040e6c66dd97b89f1290a33b053a60b3379b5d03c05e2ec1595650d"), looks := false }, kinds := [], alts := [], laidByText := true, laidKinds := [.data], laidTests := true, laidLooks := .later }
def FnExactWindowAddCardSaid : Prop := Claim7.holds Tryd.pinned (.plain (OpenSpec.ofChange fnExactWindowAddSpec)) fnExactWindowAddCard

/-- THE TIED CARD OF 'laws.FnJoin'. -/
def fnJoinCard : Claim7 := { stood := { row := fnJoinRow, standIns := [], harness := (true, "5e3deb711040e6c66dd97b89f1290a33b053a60b3379b5d03c05e2ec1595650d"), looks := false }, kinds := [], alts := [], laidByText := true, laidKinds := [.data], laidTests := true, laidLooks := .later }
def FnJoinCardSaid : Prop := Claim7.holds Tryd.pinned (.plain (OpenSpec.ofChange fnJoinSpec)) fnJoinCard

/-- THE TIED CARD OF 'laws.FnExactWindowRead'. -/
def fnExactWindowReadCard : Claim7 := { stood := { row := fnExactWindowReadRow, standIns := [], harness := (true, "5e3deb711040e6c66dd97b89f1290a33b053a60b3379b5d03c05e2ec1595650d"), looks := false }, kinds := [], alts := [], laidByText := true, laidKinds := [.data], laidTests := true, laidLooks := .later }
def FnExactWindowReadCardSaid : Prop := Claim7.holds Tryd.pinned (.plain (OpenSpec.ofChange fnExactWindowReadSpec)) fnExactWindowReadCard

/-- THE SECOND FORM's CARD OF 'laws.FnExactWindowJoin'. -/
def fnExactWindowJoinUptoCard : Claim7 := { stood := { row := fnExactWindowJoinUptoRow, standIns := [], harness := (true, "5e3deb711040e6c66dd97b89f1290a33b053a60b3379b5d03c05e2ec1595650d"), looks := false }, kinds := [], alts := [], laidByText := true, laidKinds := [.data], laidTests := true, laidLooks := .later }
def FnExactWindowJoinUptoCardSaid : Prop := Claim7.holds Tryd.pinned (.plain (OpenSpec.upto fnExactWindowJoinSpec)) fnExactWindowJoinUptoCard

/-- THE SECOND FORM's CARD OF 'laws.FnExactWindowAdd'. -/
def fnExactWindowAddUptoCard : Claim7 := { stood := { row := fnExactWindowAddUptoRow, standIns := [], harness := (true, "5e3deb711040e6c66dd97b89f1290a33b053a60b3379b5d03c05e2ec1595650d"), looks := false }, kinds := [], alts := [], laidByText := true, laidKinds := [.data], laidTests := true, laidLooks := .later }
def FnExactWindowAddUptoCardSaid : Prop := Claim7.holds Tryd.pinned (.plain (OpenSpec.upto fnExactWindowAddSpec)) fnExactWindowAddUptoCard

/-- THE SECOND FORM's CARD OF 'laws.FnJoin'. -/
def fnJoinUptoCard : Claim7 := { stood := { row := fnJoinUptoRow, standIns := [], harness := (true, "5e3deb711040e6c66dd97b89f1290a33b053a60b3379b5d03c05e2ec1595650d"), looks := false }, kinds := [], alts := [], laidByText := true, laidKinds := [.data], laidTests := true, laidLooks := .later }
def FnJoinUptoCardSaid : Prop := Claim7.holds Tryd.pinned (.plain (OpenSpec.upto fnJoinSpec)) fnJoinUptoCard

/-- THE SECOND FORM's CARD OF 'laws.FnExactWindowRead'. -/
def fnExactWindowReadUptoCard : Claim7 := { stood := { row := fnExactWindowReadUptoRow, standIns := [], harness := (true, "5e3deb711040e6c66dd97b89f1290a33b053a60b3379b5d03c05e2ec1595650d"), looks := false }, kinds := [], alts := [], laidByText := true, laidKinds := [.data], laidTests := true, laidLooks := .later }
def FnExactWindowReadUptoCardSaid : Prop := Claim7.holds Tryd.pinned (.plain (OpenSpec.upto fnExactWindowReadSpec)) fnExactWindowReadUptoCard
end Rows
end Go.Proofs.YtmeemmbpkjfleaaDoor
