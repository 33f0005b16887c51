/-
  What a right event is: both sides say the same. No condition but the lengths.
-/
import Derived.Deep.RegionHeld3
import Derived.Test.YtnceeaccbcfopaaGreatDoorT26
namespace Go.Proofs.YtnceeaccbcfopaaGreatDoor
open Go.ChangeShapes Go.WideShapes Go.ChangeAt Go.RowKit
set_option linter.unusedVariables false
namespace EvtR
open NameR WordR
def ev (i a m:ByteArray) (n k:Int) (t:ByteArray):Value:=.agg #[.string i,.string a,.string m,.int .i64 n,.int .i64 k,.string t]
def tagB (s:ByteArray):Bool:=decide (s.size≤10)&&printB s
theorem six (b1 b2 b3 b4 b5 b6:Bool):(b1=false)∨(b1=true∧b2=false)∨(b1=true∧b2=true∧b3=false)∨(b1=true∧b2=true∧b3=true∧b4=false)∨(b1=true∧b2=true∧b3=true∧b4=true∧b5=false)∨(b1=true∧b2=true∧b3=true∧b4=true∧b5=true∧b6=false)∨(b1=true∧b2=true∧b3=true∧b4=true∧b5=true∧b6=true):=by
 cases b1<;>cases b2<;>cases b3<;>cases b4<;>cases b5<;>cases b6<;>simp
theorem impl_tag (s:ByteArray) (w:World) (hs:s.size≤1048576):Calls Tryz.prog 221 #[.string s] w fun e w'=>e=.returned (.bool (tagB s))∧Below w.heap.size w w':=by
 have HP:=H_ (fun w=>impl_printed s w hs)
 unfold tagB
 generalize printB s=p at *
 by_cases h:s.size≤10
 ·have h':(s.size:Int)≤10:=by omega
  go_enter Tryz.func221,Tryz.ntmps221
  go_wp2_with (go_at_call 219;refine (HP.out _).mono ?_;rintro e w1 ⟨rfl,hb1⟩)
  go_ret
  exact ⟨ret_bool (by simp [h]),hb1⟩
 ·have h':¬(s.size:Int)≤10:=by omega
  go_enter Tryz.func221,Tryz.ntmps221
  go_wp2_with fail
  go_ret
  exact ⟨ret_bool (by first|(simp;done)|(simp;omega)),Below.refl _ _⟩
end EvtR
end Go.Proofs.YtnceeaccbcfopaaGreatDoor
