/-
  DERIVED. GIVEN WITH THE SEED: THE CARDS: each row of YtlhghjjgpdkekaaDoorRows.lean that lists a variable, with what it lists TIED to the program's text (the seventh form; the later family's looks); each row that meets fmt, with fmt's text TOLD by the authors' own Lean function (tested against real Go, not proved from fmt's source: count such statements apart). THE CARD IS WHAT COUNTS. Prove the row's statement (the work); the ties are given (YtlhghjjgpdkekaaDoorTie.lean); close each card by the builder's one call (the guide's Derived/Test/ToyasCard.lean, 'card_holds'). Laid BY PROGRAM, IN A SANDBOX (cutbox-door.mjs). By AI agents, Wed Nov 11 2026. No macro, syntax, notation, axiom, sorry.
-/
import Derived.Test.YtlhghjjgpdkekaaDoorRows
import GoSem.ClaimSeven
namespace Go.Proofs.YtlhghjjgpdkekaaDoor
namespace Rows

/-- THE TIED CARD OF 'laws.FnExactDeskEngine'. -/
def fnExactDeskEngineCard : Claim7 := { stood := { row := fnExactDeskEngineRow, standIns := [], harness := (true, "bf645d240997869785bb087f6198c2d3b06c0cc15af76dbaa2140417f5ea9e93"), looks := true }, kinds := [], alts := [], laidByText := true, laidKinds := [.sentinel], laidTests := true, laidLooks := .later }
def FnExactDeskEngineCardSaid : Prop := Claim7.holds Tryd.pinned (.plain (OpenSpec.ofChange fnExactDeskEngineSpec)) fnExactDeskEngineCard

/-- THE SECOND FORM's CARD OF 'laws.FnExactDeskEngine'. -/
def fnExactDeskEngineUptoCard : Claim7 := { stood := { row := fnExactDeskEngineUptoRow, standIns := [], harness := (true, "bf645d240997869785bb087f6198c2d3b06c0cc15af76dbaa2140417f5ea9e93"), looks := true }, kinds := [], alts := [], laidByText := true, laidKinds := [.sentinel], laidTests := true, laidLooks := .later }
def FnExactDeskEngineUptoCardSaid : Prop := Claim7.holds Tryd.pinned (.plain (OpenSpec.upto fnExactDeskEngineSpec)) fnExactDeskEngineUptoCard
end Rows
end Go.Proofs.YtlhghjjgpdkekaaDoor
