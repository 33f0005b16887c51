/-
  A region that draws its order, in a class of worlds that all hold some facts: one walk of the order of the text serves. No condition.
-/
import Derived.BigQuiet
import Derived.Deep.QuietTactic
import Derived.Test.YtnceeaccbcfopaaGreatDoorT98
namespace Go.Proofs.YtnceeaccbcfopaaGreatDoor
open Go.ChangeShapes Go.WideShapes Go.ChangeAt Go.RowKit
structure HW (S:World→Prop) where
 w:World
 h:S w
theorem wp_region_hw {P:Program} {id:Nat} {Q:Exit→Act→World→Prop} {a:Act} {w:World} {l:List Oper} (S:World→Prop) (hm:P.follows .mixedOrders=true) (hB:Region.lexB .any l.toArray=true) (hC:S w.drew)
 (h:wpQuiet P l.toArray (fun w'=>∃s:HW S,w'=s.w) (fun a'=>∀w',(∃s:HW S,w'=s.w)→Q .normal a' w') l a):(Code.region id l.toArray true).wp P Q a w :=
 wp_region_quiet (C:=fun w'=>∃s:HW S,w'=s.w) hm hB ⟨⟨_,hC⟩,rfl⟩ (by simpa using h)
end Go.Proofs.YtnceeaccbcfopaaGreatDoor
