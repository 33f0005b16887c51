/-
  DERIVED. GIVEN WITH THE SEED: THE CARDS: each row of YtfnkhohommahoaaDoorRows.lean that lists a variable, with what it lists TIED to the program's text (the seventh form; the later family's looks); each row that meets fmt, with fmt's text TOLD by the authors' own Lean function (tested against real Go, not proved from fmt's source: count such statements apart). THE CARD IS WHAT COUNTS. Prove the row's statement (the work); the ties are given (YtfnkhohommahoaaDoorTie.lean); close each card by the builder's one call (the guide's Derived/Test/ToyasCard.lean, 'card_holds'). Laid BY PROGRAM, IN A SANDBOX (cutbox-door.mjs). By AI agents, Wed Nov 11 2026. No macro, syntax, notation, axiom, sorry.
-/
import Derived.Test.YtfnkhohommahoaaDoorRows
import GoSem.ClaimSeven
namespace Go.Proofs.YtfnkhohommahoaaDoor
namespace Rows

/-- THE TIED CARD OF 'laws.FnDate'. -/
def fnDateCard : Claim7 := { stood := { row := fnDateRow, standIns := [], harness := (true, "c842c015571b101de9237bd00264a1c4acce4b87372dc91ef96703083043c494"), looks := true }, kinds := [], alts := [], laidByText := true, laidKinds := [.data, .data, .data, .sentinel, .sentinel, .data], laidTests := true, laidLooks := .later }
def FnDateCardSaid : Prop := Claim7.holds Tryd.pinned (.plain (OpenSpec.ofChange fnDateSpec)) fnDateCard

/-- THE TIED CARD OF 'laws.FnMonth'. -/
def fnMonthCard : Claim7 := { stood := { row := fnMonthRow, standIns := [], harness := (true, "c842c015571b101de9237bd00264a1c4acce4b87372dc91ef96703083043c494"), looks := true }, kinds := [], alts := [], laidByText := true, laidKinds := [.data, .data, .data, .data], laidTests := true, laidLooks := .later }
def FnMonthCardSaid : Prop := Claim7.holds Tryd.pinned (.plain (OpenSpec.ofChange fnMonthSpec)) fnMonthCard

/-- THE TIED CARD OF 'laws.FnExactDateRead'. -/
def fnExactDateReadCard : Claim7 := { stood := { row := fnExactDateReadRow, standIns := [], harness := (true, "c842c015571b101de9237bd00264a1c4acce4b87372dc91ef96703083043c494"), looks := true }, kinds := [], alts := [], laidByText := true, laidKinds := [.data, .data, .data, .sentinel, .sentinel, .data], laidTests := true, laidLooks := .later }
def FnExactDateReadCardSaid : Prop := Claim7.holds Tryd.pinned (.plain (OpenSpec.ofChange fnExactDateReadSpec)) fnExactDateReadCard

/-- THE SECOND FORM's CARD OF 'laws.FnDate'. -/
def fnDateUptoCard : Claim7 := { stood := { row := fnDateUptoRow, standIns := [], harness := (true, "c842c015571b101de9237bd00264a1c4acce4b87372dc91ef96703083043c494"), looks := true }, kinds := [], alts := [], laidByText := true, laidKinds := [.data, .data, .data, .sentinel, .sentinel, .data], laidTests := true, laidLooks := .later }
def FnDateUptoCardSaid : Prop := Claim7.holds Tryd.pinned (.plain (OpenSpec.upto fnDateSpec)) fnDateUptoCard

/-- THE SECOND FORM's CARD OF 'laws.FnMonth'. -/
def fnMonthUptoCard : Claim7 := { stood := { row := fnMonthUptoRow, standIns := [], harness := (true, "c842c015571b101de9237bd00264a1c4acce4b87372dc91ef96703083043c494"), looks := true }, kinds := [], alts := [], laidByText := true, laidKinds := [.data, .data, .data, .data], laidTests := true, laidLooks := .later }
def FnMonthUptoCardSaid : Prop := Claim7.holds Tryd.pinned (.plain (OpenSpec.upto fnMonthSpec)) fnMonthUptoCard

/-- THE SECOND FORM's CARD OF 'laws.FnExactDateRead'. -/
def fnExactDateReadUptoCard : Claim7 := { stood := { row := fnExactDateReadUptoRow, standIns := [], harness := (true, "c842c015571b101de9237bd00264a1c4acce4b87372dc91ef96703083043c494"), looks := true }, kinds := [], alts := [], laidByText := true, laidKinds := [.data, .data, .data, .sentinel, .sentinel, .data], laidTests := true, laidLooks := .later }
def FnExactDateReadUptoCardSaid : Prop := Claim7.holds Tryd.pinned (.plain (OpenSpec.upto fnExactDateReadSpec)) fnExactDateReadUptoCard
end Rows
end Go.Proofs.YtfnkhohommahoaaDoor
