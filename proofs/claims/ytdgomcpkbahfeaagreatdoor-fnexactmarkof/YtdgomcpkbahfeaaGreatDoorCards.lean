/-
  DERIVED. GIVEN WITH THE SEED: THE CARDS: each row of YtdgomcpkbahfeaaGreatDoorRows.lean that lists a variable, with what it lists TIED to the program's text (the seventh form; the later family's looks); each row that meets fmt, with fmt's text TOLD by the authors' own Lean function (tested against real Go, not proved from fmt's source: count such statements apart). THE CARD IS WHAT COUNTS. Prove the row's statement (the work); the ties are given (YtdgomcpkbahfeaaGreatDoorTie.lean); close each card by the builder's one call (the guide's Derived/Test/ToyasCard.lean, 'card_holds'). Laid BY PROGRAM, IN A SANDBOX (cutbox-door.mjs). By AI agents, Wed Nov 11 2026. No macro, syntax, notation, axiom, sorry.
-/
import Derived.Test.YtdgomcpkbahfeaaGreatDoorRows
import GoSem.ClaimSeven
namespace Go.Proofs.YtdgomcpkbahfeaaGreatDoor
namespace Rows

/-- THE TIED CARD OF 'laws.FnExactEngineRight'. -/
def fnExactEngineRightCard : Claim7 := { stood := { row := fnExactEngineRightRow, standIns := [], harness := (true, "5cefe9859dab6f3015f68a0cf2c4dcd3c04fc47f26a5787785f337a03d953387"), looks := true }, kinds := [], alts := [], laidByText := true, laidKinds := [.data, .sentinel], laidTests := true, laidLooks := .later }
def FnExactEngineRightCardSaid : Prop := Claim7.holds Tryz.pinned (.plain (OpenSpec.ofChange fnExactEngineRightSpec)) fnExactEngineRightCard

/-- THE TIED CARD OF 'laws.FnExactMarkOf'. -/
def fnExactMarkOfCard : Claim7 := { stood := { row := fnExactMarkOfRow, standIns := [], harness := (true, "5cefe9859dab6f3015f68a0cf2c4dcd3c04fc47f26a5787785f337a03d953387"), looks := true }, kinds := [], alts := [], laidByText := true, laidKinds := [.data, .sentinel], laidTests := true, laidLooks := .later }
def FnExactMarkOfCardSaid : Prop := Claim7.holds Tryz.pinned (.plain (OpenSpec.ofChange fnExactMarkOfSpec)) fnExactMarkOfCard

/-- THE SECOND FORM's CARD OF 'laws.FnExactEngineRight'. -/
def fnExactEngineRightUptoCard : Claim7 := { stood := { row := fnExactEngineRightUptoRow, standIns := [], harness := (true, "5cefe9859dab6f3015f68a0cf2c4dcd3c04fc47f26a5787785f337a03d953387"), looks := true }, kinds := [], alts := [], laidByText := true, laidKinds := [.data, .sentinel], laidTests := true, laidLooks := .later }
def FnExactEngineRightUptoCardSaid : Prop := Claim7.holds Tryz.pinned (.plain (OpenSpec.upto fnExactEngineRightSpec)) fnExactEngineRightUptoCard

/-- THE SECOND FORM's CARD OF 'laws.FnExactMarkOf'. -/
def fnExactMarkOfUptoCard : Claim7 := { stood := { row := fnExactMarkOfUptoRow, standIns := [], harness := (true, "5cefe9859dab6f3015f68a0cf2c4dcd3c04fc47f26a5787785f337a03d953387"), looks := true }, kinds := [], alts := [], laidByText := true, laidKinds := [.data, .sentinel], laidTests := true, laidLooks := .later }
def FnExactMarkOfUptoCardSaid : Prop := Claim7.holds Tryz.pinned (.plain (OpenSpec.upto fnExactMarkOfSpec)) fnExactMarkOfUptoCard
end Rows
end Go.Proofs.YtdgomcpkbahfeaaGreatDoor
