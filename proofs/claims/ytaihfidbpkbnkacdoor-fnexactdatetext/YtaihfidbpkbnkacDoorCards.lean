/-
  DERIVED. GIVEN WITH THE SEED: THE CARDS: each row of YtaihfidbpkbnkacDoorRows.lean that lists a variable, with what it lists TIED to the program's text (the seventh form; the later family's looks); each row that meets fmt, with fmt's text TOLD by the authors' own Lean function (tested against real Go, not proved from fmt's source: count such statements apart). THE CARD IS WHAT COUNTS. Prove the row's statement (the work); the ties are given (YtaihfidbpkbnkacDoorTie.lean); close each card by the builder's one call (the guide's Derived/Test/ToyasCard.lean, 'card_holds'). Laid BY PROGRAM, IN A SANDBOX (cutbox-door.mjs). By AI agents, Wed Nov 11 2026. No macro, syntax, notation, axiom, sorry.
-/
import Derived.Test.YtaihfidbpkbnkacDoorRows
import GoSem.ClaimSeven
namespace Go.Proofs.YtaihfidbpkbnkacDoor
namespace Rows

/-- THE TIED CARD OF 'laws.FnExactDateText'. -/
def fnExactDateTextCard : Claim7 := { stood := { row := fnExactDateTextRow, standIns := [], harness := (true, "ffb8ff2ceb86c9eb2866ab188c7aa9876b6ca82156d9699773c5e06883d3cb73"), looks := true }, kinds := [], alts := [], laidByText := true, laidKinds := [.data, .data, .data, .data], laidTests := true, laidLooks := .later }
def FnExactDateTextCardSaid : Prop := Claim7.holds Tryd.pinned (.plain (OpenSpec.ofChange fnExactDateTextSpec)) fnExactDateTextCard

/-- THE TIED CARD OF 'laws.FnExactDateRead'. -/
def fnExactDateReadCard : Claim7 := { stood := { row := fnExactDateReadRow, standIns := [], harness := (true, "ffb8ff2ceb86c9eb2866ab188c7aa9876b6ca82156d9699773c5e06883d3cb73"), looks := true }, kinds := [], alts := [], laidByText := true, laidKinds := [.data, .data, .data, .sentinel, .sentinel, .data], laidTests := true, laidLooks := .later }
def FnExactDateReadCardSaid : Prop := Claim7.holds Tryd.pinned (.plain (OpenSpec.ofChange fnExactDateReadSpec)) fnExactDateReadCard

/-- THE SECOND FORM's CARD OF 'laws.FnExactDateText'. -/
def fnExactDateTextUptoCard : Claim7 := { stood := { row := fnExactDateTextUptoRow, standIns := [], harness := (true, "ffb8ff2ceb86c9eb2866ab188c7aa9876b6ca82156d9699773c5e06883d3cb73"), looks := true }, kinds := [], alts := [], laidByText := true, laidKinds := [.data, .data, .data, .data], laidTests := true, laidLooks := .later }
def FnExactDateTextUptoCardSaid : Prop := Claim7.holds Tryd.pinned (.plain (OpenSpec.upto fnExactDateTextSpec)) fnExactDateTextUptoCard

/-- THE SECOND FORM's CARD OF 'laws.FnExactDateRead'. -/
def fnExactDateReadUptoCard : Claim7 := { stood := { row := fnExactDateReadUptoRow, standIns := [], harness := (true, "ffb8ff2ceb86c9eb2866ab188c7aa9876b6ca82156d9699773c5e06883d3cb73"), looks := true }, kinds := [], alts := [], laidByText := true, laidKinds := [.data, .data, .data, .sentinel, .sentinel, .data], laidTests := true, laidLooks := .later }
def FnExactDateReadUptoCardSaid : Prop := Claim7.holds Tryd.pinned (.plain (OpenSpec.upto fnExactDateReadSpec)) fnExactDateReadUptoCard
end Rows
end Go.Proofs.YtaihfidbpkbnkacDoor
