/-
  DERIVED. GIVEN WITH THE SEED: THE CARDS: each row of YtfnkhohommahoabDoorRows.lean that lists a variable, with what it lists TIED to the program's text (the seventh form; the later family's looks); each row that meets fmt, with fmt's text TOLD by the authors' own Lean function (tested against real Go, not proved from fmt's source: count such statements apart). THE CARD IS WHAT COUNTS. Prove the row's statement (the work); the ties are given (YtfnkhohommahoabDoorTie.lean); close each card by the builder's one call (the guide's Derived/Test/ToyasCard.lean, 'card_holds'). Laid BY PROGRAM, IN A SANDBOX (cutbox-door.mjs). By AI agents, Wed Nov 11 2026. No macro, syntax, notation, axiom, sorry.
-/
import Derived.Test.YtfnkhohommahoabDoorRows
import GoSem.ClaimSeven
namespace Go.Proofs.YtfnkhohommahoabDoor
namespace Rows

/-- THE TIED CARD OF 'laws.FnExactMonthOf'. -/
def fnExactMonthOfCard : Claim7 := { stood := { row := fnExactMonthOfRow, standIns := [], harness := (true, "8be38fe4f4527e39c94fb8e24e089e352d22146770df585815943153c095878e"), looks := false }, kinds := [], alts := [], laidByText := true, laidKinds := [.data], laidTests := true, laidLooks := .later }
def FnExactMonthOfCardSaid : Prop := Claim7.holds Tryd.pinned (.plain (OpenSpec.ofChange fnExactMonthOfSpec)) fnExactMonthOfCard

/-- THE TIED CARD OF 'laws.FnExactMonthStart'. -/
def fnExactMonthStartCard : Claim7 := { stood := { row := fnExactMonthStartRow, standIns := [], harness := (true, "8be38fe4f4527e39c94fb8e24e089e352d22146770df585815943153c095878e"), looks := false }, kinds := [], alts := [], laidByText := true, laidKinds := [.data], laidTests := true, laidLooks := .later }
def FnExactMonthStartCardSaid : Prop := Claim7.holds Tryd.pinned (.plain (OpenSpec.ofChange fnExactMonthStartSpec)) fnExactMonthStartCard

/-- THE TIED CARD OF 'laws.FnExactMonthText'. -/
def fnExactMonthTextCard : Claim7 := { stood := { row := fnExactMonthTextRow, standIns := [], harness := (true, "8be38fe4f4527e39c94fb8e24e089e352d22146770df585815943153c095878e"), looks := false }, kinds := [], alts := [], laidByText := true, laidKinds := [.data, .data, .data], laidTests := true, laidLooks := .later }
def FnExactMonthTextCardSaid : Prop := Claim7.holds Tryd.pinned (.plain (OpenSpec.ofChange fnExactMonthTextSpec)) fnExactMonthTextCard

/-- THE SECOND FORM's CARD OF 'laws.FnExactMonthOf'. -/
def fnExactMonthOfUptoCard : Claim7 := { stood := { row := fnExactMonthOfUptoRow, standIns := [], harness := (true, "8be38fe4f4527e39c94fb8e24e089e352d22146770df585815943153c095878e"), looks := false }, kinds := [], alts := [], laidByText := true, laidKinds := [.data], laidTests := true, laidLooks := .later }
def FnExactMonthOfUptoCardSaid : Prop := Claim7.holds Tryd.pinned (.plain (OpenSpec.upto fnExactMonthOfSpec)) fnExactMonthOfUptoCard

/-- THE SECOND FORM's CARD OF 'laws.FnExactMonthStart'. -/
def fnExactMonthStartUptoCard : Claim7 := { stood := { row := fnExactMonthStartUptoRow, standIns := [], harness := (true, "8be38fe4f4527e39c94fb8e24e089e352d22146770df585815943153c095878e"), looks := false }, kinds := [], alts := [], laidByText := true, laidKinds := [.data], laidTests := true, laidLooks := .later }
def FnExactMonthStartUptoCardSaid : Prop := Claim7.holds Tryd.pinned (.plain (OpenSpec.upto fnExactMonthStartSpec)) fnExactMonthStartUptoCard

/-- THE SECOND FORM's CARD OF 'laws.FnExactMonthText'. -/
def fnExactMonthTextUptoCard : Claim7 := { stood := { row := fnExactMonthTextUptoRow, standIns := [], harness := (true, "8be38fe4f4527e39c94fb8e24e089e352d22146770df585815943153c095878e"), looks := false }, kinds := [], alts := [], laidByText := true, laidKinds := [.data, .data, .data], laidTests := true, laidLooks := .later }
def FnExactMonthTextUptoCardSaid : Prop := Claim7.holds Tryd.pinned (.plain (OpenSpec.upto fnExactMonthTextSpec)) fnExactMonthTextUptoCard
end Rows
end Go.Proofs.YtfnkhohommahoabDoor
