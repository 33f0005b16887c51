/-
  What a right Id and a minute are: both sides say the same. No condition but the lengths.
-/
import Derived.Test.YtnceeaccbcfopaaGreatDoorT25
namespace Go.Proofs.YtnceeaccbcfopaaGreatDoor
open Go.ChangeShapes Go.WideShapes Go.ChangeAt Go.RowKit
set_option linter.unusedVariables false
namespace EvtR
open WordR
theorem H_ {p:Prop} (h:p):Hid p:=h
def idB (s:ByteArray):Bool:=decide (1≤s.size∧s.size≤20)&&printB s
theorem impl_id (s:ByteArray) (w:World) (hs:s.size≤1048576):Calls Tryz.prog 204 #[.string s] w fun e w'=>e=.returned (.bool (idB s))∧Below w.heap.size w w':=by
 have HP:=H_ (fun w=>impl_printed s w hs)
 unfold idB
 generalize printB s=p at *
 rcases (show (¬1≤s.size)∨(1≤s.size∧¬s.size≤20)∨(1≤s.size∧s.size≤20) by omega) with h|⟨h1,h2⟩|⟨h1,h2⟩
 ·have h':¬(1:Int)≤(s.size:Int):=by omega
  go_enter Tryz.func204,Tryz.ntmps204
  go_wp2_with (go_at_call 167;go_in)
  go_ret
  exact ⟨ret_bool (by first|(simp;done)|(simp;omega)),Below.refl _ _⟩
 ·have h':(1:Int)≤(s.size:Int):=by omega
  have h'':¬(s.size:Int)≤20:=by omega
  go_enter Tryz.func204,Tryz.ntmps204
  go_wp2_with (go_at_call 167;go_in)
  go_ret
  exact ⟨ret_bool (by first|(simp;done)|(simp;omega)),Below.refl _ _⟩
 ·have h':(1:Int)≤(s.size:Int):=by omega
  have h'':(s.size:Int)≤20:=by omega
  go_enter Tryz.func204,Tryz.ntmps204
  go_wp2_with (first|(go_at_call 167;go_in)|(go_at_call 219;refine (HP.out _).mono ?_;rintro e w1 ⟨rfl,hb1⟩))
  go_ret
  exact ⟨ret_bool (by simp [h1,h2]),hb1⟩
theorem within_any (n low high:Int) (w:World) :
 Calls Tryz.prog 30 #[.int .i64 n,.int .i64 low,.int .i64 high] w fun e w'=>e=.returned (.bool (decide (low≤n∧n≤high)))∧w'=w:=by
 rcases (show (¬low≤n)∨(low≤n∧¬n≤high)∨(low≤n∧n≤high) by omega) with h|⟨h1,h2⟩|⟨h1,h2⟩
 all_goals
  go_enter Tryz.func30,Tryz.ntmps30
  go_wp2
  go_ret
  exact ⟨ret_bool (by first|(simp [*];done)|(simp;omega)),rfl⟩
theorem minute_any (n:Int) (w:World):Calls Tryz.prog 122 #[.int .i64 n] w fun e w'=>e=.returned (.bool (decide (0≤n∧n≤121000000)))∧w'=w:=by
 have H:=within_any n 0 121000000
 generalize decide (0≤n∧n≤121000000)=b at *
 go_enter Tryz.func122,Tryz.ntmps122
 go_wp2_with (go_at_call 30;refine (H _).mono ?_;rintro e w' ⟨rfl,rfl⟩)
 go_ret
 exact ⟨rfl,rfl⟩
theorem is_any (n low high:Int) (w:World) :
 Calls Tryz.prog 63 #[.int .i64 n,.int .i64 low,.int .i64 high] w fun e w'=>e=.returned (.bool (decide (low≤n∧n≤high)))∧w'=w:=by
 rcases (show (¬low≤n)∨(low≤n∧¬n≤high)∨(low≤n∧n≤high) by omega) with h|⟨h1,h2⟩|⟨h1,h2⟩
 all_goals
  go_enter Tryz.func63,Tryz.ntmps63
  go_wp2
  go_ret
  exact ⟨ret_bool (by first|(simp [*];done)|(simp;omega)),rfl⟩
theorem sminute_any (n:Int) (w:World):Calls Tryz.prog 21 #[.int .i64 n] w fun e w'=>e=.returned (.bool (decide (0≤n∧n≤121000000)))∧w'=w:=by
 have H:=is_any n 0 121000000
 generalize decide (0≤n∧n≤121000000)=b at *
 go_enter Tryz.func21,Tryz.ntmps21
 go_wp2_with (go_at_call 63;refine (H _).mono ?_;rintro e w' ⟨rfl,rfl⟩)
 go_ret
 exact ⟨rfl,rfl⟩
theorem empty_of (i:ByteArray) (h:i.size=0):i.toList=[]:=by
 rw [ByteArray.toList_eq]
 exact List.eq_nil_of_length_eq_zero h
theorem full_of (i:ByteArray) (h:i.size≠0):i.toList≠[]∧i.toList.isEmpty=false:=by
 have a:i.toList≠[]:=by
  rw [ByteArray.toList_eq]
  intro e
  exact h (show i.data.toList.length=0 by rw [e];rfl)
 exact ⟨a,by cases hl:i.toList with
  | nil=>exact absurd hl a
  | cons x l=>rfl⟩
end EvtR
end Go.Proofs.YtnceeaccbcfopaaGreatDoor
