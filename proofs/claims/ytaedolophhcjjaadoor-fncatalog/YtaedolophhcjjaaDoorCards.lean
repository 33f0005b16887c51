/-
  DERIVED. GIVEN WITH THE SEED: THE CARDS: each row of YtaedolophhcjjaaDoorRows.lean that lists a variable, with what it lists TIED to the program's text (the seventh form; the later family's looks); each row that meets fmt, with fmt's text TOLD by the authors' own Lean function (tested against real Go, not proved from fmt's source: count such statements apart). THE CARD IS WHAT COUNTS. Prove the row's statement (the work); the ties are given (YtaedolophhcjjaaDoorTie.lean); close each card by the builder's one call (the guide's Derived/Test/ToyasCard.lean, 'card_holds'). Laid BY PROGRAM, IN A SANDBOX (cutbox-door.mjs). By AI agents, Wed Nov 11 2026. No macro, syntax, notation, axiom, sorry.
-/
import Derived.Test.YtaedolophhcjjaaDoorRows
import GoSem.ClaimSeven
namespace Go.Proofs.YtaedolophhcjjaaDoor
namespace Rows

/-- THE TIED CARD OF 'laws.FnCatalog'. -/
def fnCatalogCard : Claim7 := { stood := { row := fnCatalogRow, standIns := [], harness := (true, "bf022cb9c9e29408f433ec52fde72b17b7cb9a302aad9ec44ba45766f93c38ac"), looks := true }, kinds := [], alts := [], laidByText := true, laidKinds := [.sentinel], laidTests := true, laidLooks := .later }
def FnCatalogCardSaid : Prop := Claim7.holds Tryd.pinned (.plain (OpenSpec.ofChange fnCatalogSpec)) fnCatalogCard

/-- THE SECOND FORM's CARD OF 'laws.FnCatalog'. -/
def fnCatalogUptoCard : Claim7 := { stood := { row := fnCatalogUptoRow, standIns := [], harness := (true, "bf022cb9c9e29408f433ec52fde72b17b7cb9a302aad9ec44ba45766f93c38ac"), looks := true }, kinds := [], alts := [], laidByText := true, laidKinds := [.sentinel], laidTests := true, laidLooks := .later }
def FnCatalogUptoCardSaid : Prop := Claim7.holds Tryd.pinned (.plain (OpenSpec.upto fnCatalogSpec)) fnCatalogUptoCard
end Rows
end Go.Proofs.YtaedolophhcjjaaDoor
