/-
  What the program calls a right window. The conditions: texts of at most 1048576 bytes, lists of at most 1048576; the program's table stands in its variable.
-/
import Derived.Test.YtnceeaccbcfopaaGreatDoorT74
namespace Go.Proofs.YtnceeaccbcfopaaGreatDoor
open Go.ChangeShapes Go.WideShapes Go.ChangeAt Go.RowKit
set_option linter.unusedVariables false
namespace WinR
open RowG LtR
open CatR (Blk Blk.new)
open DateR (Laid)
theorem withinI (n low high:Int) (w:World) :
 Calls Tryz.prog 167 #[.int .i64 n,.int .i64 low,.int .i64 high] w fun e w'=>e=.returned (.bool (decide (low≤n∧n≤high)))∧w'=w:=by
 rcases (show (¬low≤n)∨(low≤n∧¬n≤high)∨(low≤n∧n≤high) by omega) with h|⟨h1,h2⟩|⟨h1,h2⟩
 all_goals
  go_enter Tryz.func167,Tryz.ntmps167
  go_wp2
  go_ret
  exact ⟨ret_bool (by first|(simp [*];done)|(simp;omega)),rfl⟩
theorem three (b1 b2 b3:Bool):(b1=false)∨(b1=true∧b2=false)∨(b1=true∧b2=true∧b3=false)∨(b1=true∧b2=true∧b3=true):=by
 cases b1<;>cases b2<;>cases b3<;>simp
theorem four (b1 b2 b3 b4:Bool):(b1=false)∨(b1=true∧b2=false)∨(b1=true∧b2=true∧b3=false)∨(b1=true∧b2=true∧b3=true∧b4=false)∨(b1=true∧b2=true∧b3=true∧b4=true):=by
 cases b1<;>cases b2<;>cases b3<;>cases b4<;>simp
theorem isMonth_any (n:Int) (w:World):Calls Tryz.prog 73 #[.int .i64 n] w fun e w'=>e=.returned (.bool (decide (0≤n∧n≤2760)))∧w'=w:=by
 have H:=EvtR.within_any n 0 2760
 generalize decide (0≤n∧n≤2760)=b at *
 go_enter Tryz.func73,Tryz.ntmps73
 go_wp2_with (go_at_call 30;refine (H _).mono ?_;rintro e w' ⟨rfl,rfl⟩)
 go_ret
 exact ⟨rfl,rfl⟩
set_option maxHeartbeats 4000000 in
theorem impl_named (a m:ByteArray) (mo:Int) (w:World) (ha:a.size≤1048576) (hm:m.size≤1048576) :
 Calls Tryz.prog 205 #[.agg #[.string a,.string m,.int .i64 mo]] w fun e w'=>e=.returned (.bool (namedB a m mo))∧Below w.heap.size w w':=by
 unfold namedB
 have H1:=H_ (fun w=>NameR.impl_any a w ha)
 have H2:=H_ (fun w=>NameR.impl_any m w hm)
 have H3:=H_ (fun w=>isMonth_any mo w)
 have HB:Hid (Below w.heap.size w (w.alloc (.cells #[.string a,.string m,.int .i64 mo] 185))):=H_ ((Below.refl _ _).alloc (Nat.le_refl _) _)
 have HX:Hid (∀W,W=w.alloc (.cells #[.string a,.string m,.int .i64 mo] 185)→W.cell? ⟨w.heap.size,0,none⟩=some (.string a)∧W.cell? ⟨w.heap.size,1,none⟩=some (.string m)∧W.cell? ⟨w.heap.size,2,none⟩=some (.int .i64 mo)):=H_ (fun W h=>by subst h;simp [go_sem])
 generalize NameR.nameB a=b1 at *
 generalize NameR.nameB m=b2 at *
 generalize decide (0≤mo∧mo≤2760)=b3 at *
 rcases three b1 b2 b3 with rfl|⟨rfl,rfl⟩|⟨rfl,rfl,rfl⟩|⟨rfl,rfl,rfl⟩
 ·go_enter Tryz.func205,Tryz.ntmps205
  go_wp2_with fail
  refine (H1.out _).mono ?_
  rintro e w1 ⟨rfl,rfl⟩
  go_wp2_with fail
  go_ret
  exact ⟨rfl,HB.out⟩
 ·go_enter Tryz.func205,Tryz.ntmps205
  go_wp2_with fail
  refine (H1.out _).mono ?_
  rintro e w1 ⟨rfl,rfl⟩
  go_wp2_with fail
  refine (H2.out _).mono ?_
  rintro e w1 ⟨rfl,rfl⟩
  go_wp2_with fail
  go_ret
  exact ⟨rfl,HB.out⟩
 ·go_enter Tryz.func205,Tryz.ntmps205
  go_wp2_with fail
  refine (H1.out _).mono ?_
  rintro e w1 ⟨rfl,rfl⟩
  go_wp2_with fail
  refine (H2.out _).mono ?_
  rintro e w1 ⟨rfl,rfl⟩
  go_wp2_with fail
  refine (H3.out _).mono ?_
  rintro e w1 ⟨rfl,rfl⟩
  go_wp2_with fail
  go_ret
  exact ⟨rfl,HB.out⟩
 ·go_enter Tryz.func205,Tryz.ntmps205
  go_wp2_with fail
  refine (H1.out _).mono ?_
  rintro e w1 ⟨rfl,rfl⟩
  go_wp2_with fail
  refine (H2.out _).mono ?_
  rintro e w1 ⟨rfl,rfl⟩
  go_wp2_with fail
  refine (H3.out _).mono ?_
  rintro e w1 ⟨rfl,rfl⟩
  go_wp2_with fail
  go_ret
  exact ⟨rfl,HB.out⟩
set_option maxHeartbeats 4000000 in
theorem impl_counted (ev su mx:Int) (w:World) :
 Calls Tryz.prog 206 #[.agg #[.int .i64 ev,.int .i64 su,.int .i64 mx]] w fun e w'=>e=.returned (.bool (countedB ev su mx))∧Below w.heap.size w w':=by
 unfold countedB
 have H1:=H_ (fun w=>EvtR.within_any ev 1 1000 w)
 have H2:=H_ (fun w=>EvtR.within_any su 0 1000000000000 w)
 have H3:=H_ (fun w=>EvtR.within_any mx 0 su w)
 have HB:Hid (Below w.heap.size w (w.alloc (.cells #[.int .i64 ev,.int .i64 su,.int .i64 mx] 187))):=H_ ((Below.refl _ _).alloc (Nat.le_refl _) _)
 generalize decide (1≤ev∧ev≤1000)=b1 at *
 generalize decide (0≤su∧su≤1000000000000)=b2 at *
 generalize decide (0≤mx∧mx≤su)=b3 at *
 rcases three b1 b2 b3 with rfl|⟨rfl,rfl⟩|⟨rfl,rfl,rfl⟩|⟨rfl,rfl,rfl⟩
 ·go_enter Tryz.func206,Tryz.ntmps206
  go_wp2_with fail
  refine (H1.out _).mono ?_
  rintro e w1 ⟨rfl,rfl⟩
  go_wp2_with fail
  go_ret
  exact ⟨rfl,HB.out⟩
 ·go_enter Tryz.func206,Tryz.ntmps206
  go_wp2_with fail
  refine (H1.out _).mono ?_
  rintro e w1 ⟨rfl,rfl⟩
  go_wp2_with fail
  refine (H2.out _).mono ?_
  rintro e w1 ⟨rfl,rfl⟩
  go_wp2_with fail
  go_ret
  exact ⟨rfl,HB.out⟩
 ·go_enter Tryz.func206,Tryz.ntmps206
  go_wp2_with fail
  refine (H1.out _).mono ?_
  rintro e w1 ⟨rfl,rfl⟩
  go_wp2_with fail
  refine (H2.out _).mono ?_
  rintro e w1 ⟨rfl,rfl⟩
  go_wp2_with fail
  refine (H3.out _).mono ?_
  rintro e w1 ⟨rfl,rfl⟩
  go_wp2_with fail
  go_ret
  exact ⟨rfl,HB.out⟩
 ·go_enter Tryz.func206,Tryz.ntmps206
  go_wp2_with fail
  refine (H1.out _).mono ?_
  rintro e w1 ⟨rfl,rfl⟩
  go_wp2_with fail
  refine (H2.out _).mono ?_
  rintro e w1 ⟨rfl,rfl⟩
  go_wp2_with fail
  refine (H3.out _).mono ?_
  rintro e w1 ⟨rfl,rfl⟩
  go_wp2_with fail
  go_ret
  exact ⟨rfl,HB.out⟩
end WinR
end Go.Proofs.YtnceeaccbcfopaaGreatDoor
