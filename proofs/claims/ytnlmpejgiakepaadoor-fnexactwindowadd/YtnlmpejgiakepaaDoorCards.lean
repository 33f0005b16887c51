/-
  DERIVED. GIVEN WITH THE SEED: THE CARDS: each row of YtnlmpejgiakepaaDoorRows.lean that lists a variable, with what it lists TIED to the program's text (the seventh form; the later family's looks); each row that meets fmt, with fmt's text TOLD by the authors' own Lean function (tested against real Go, not proved from fmt's source: count such statements apart). THE CARD IS WHAT COUNTS. Prove the row's statement (the work); the ties are given (YtnlmpejgiakepaaDoorTie.lean); close each card by the builder's one call (the guide's Derived/Test/ToyasCard.lean, 'card_holds'). Laid BY PROGRAM, IN A SANDBOX (cutbox-door.mjs). By AI agents, Wed Nov 11 2026. No macro, syntax, notation, axiom, sorry.
-/
import Derived.Test.YtnlmpejgiakepaaDoorRows
import GoSem.ClaimSeven
namespace Go.Proofs.YtnlmpejgiakepaaDoor
namespace Rows

/-- THE TIED CARD OF 'laws.FnExactWindowAdd'. -/
def fnExactWindowAddCard : Claim7 := { stood := { row := fnExactWindowAddRow, standIns := [], harness := (true, "c949dd4c70c45b6c4161a72506987f6a65412ac7e573a4a0a0f33f47daad6e12"), looks := false }, kinds := [], alts := [], laidByText := true, laidKinds := [.data], laidTests := true, laidLooks := .later }
def FnExactWindowAddCardSaid : Prop := Claim7.holds Tryd.pinned (.plain (OpenSpec.ofChange fnExactWindowAddSpec)) fnExactWindowAddCard

/-- THE TIED CARD OF 'laws.FnExactWindowRead'. -/
def fnExactWindowReadCard : Claim7 := { stood := { row := fnExactWindowReadRow, standIns := [], harness := (true, "c949dd4c70c45b6c4161a72506987f6a65412ac7e573a4a0a0f33f47daad6e12"), looks := false }, kinds := [], alts := [], laidByText := true, laidKinds := [.data], laidTests := true, laidLooks := .later }
def FnExactWindowReadCardSaid : Prop := Claim7.holds Tryd.pinned (.plain (OpenSpec.ofChange fnExactWindowReadSpec)) fnExactWindowReadCard

/-- THE SECOND FORM's CARD OF 'laws.FnExactWindowAdd'. -/
def fnExactWindowAddUptoCard : Claim7 := { stood := { row := fnExactWindowAddUptoRow, standIns := [], harness := (true, "c949dd4c70c45b6c4161a72506987f6a65412ac7e573a4a0a0f33f47daad6e12"), looks := false }, kinds := [], alts := [], laidByText := true, laidKinds := [.data], laidTests := true, laidLooks := .later }
def FnExactWindowAddUptoCardSaid : Prop := Claim7.holds Tryd.pinned (.plain (OpenSpec.upto fnExactWindowAddSpec)) fnExactWindowAddUptoCard

/-- THE SECOND FORM's CARD OF 'laws.FnExactWindowRead'. -/
def fnExactWindowReadUptoCard : Claim7 := { stood := { row := fnExactWindowReadUptoRow, standIns := [], harness := (true, "c949dd4c70c45b6c4161a72506987f6a65412ac7e573a4a0a0f33f47daad6e12"), looks := false }, kinds := [], alts := [], laidByText := true, laidKinds := [.data], laidTests := true, laidLooks := .later }
def FnExactWindowReadUptoCardSaid : Prop := Claim7.holds Tryd.pinned (.plain (OpenSpec.upto fnExactWindowReadSpec)) fnExactWindowReadUptoCard
end Rows
end Go.Proofs.YtnlmpejgiakepaaDoor
