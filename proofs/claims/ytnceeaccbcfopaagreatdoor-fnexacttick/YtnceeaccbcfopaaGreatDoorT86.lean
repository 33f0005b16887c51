/-
  What the program and the model call a right meter: they are one. The conditions: the name has at most 1048576 bytes, the tiers are at most 1048576.
-/
import Derived.Deep.RegionHeld3
import Derived.Test.YtnceeaccbcfopaaGreatDoorT85
namespace Go.Proofs.YtnceeaccbcfopaaGreatDoor
open Go.ChangeShapes Go.WideShapes Go.ChangeAt Go.RowKit
set_option linter.unusedVariables false
namespace CatR
theorem five (b1 b2 b3 b4 b5:Bool):(b1=false)∨(b1=true∧b2=false)∨(b1=true∧b2=true∧b3=false)∨(b1=true∧b2=true∧b3=true∧b4=false)∨(b1=true∧b2=true∧b3=true∧b4=true):=by
 cases b1<;>cases b2<;>cases b3<;>cases b4<;>simp
set_option maxRecDepth 100000 in
set_option maxHeartbeats 4000000 in
theorem impl_meter (v:Value) (m:Me) (w:World) (hn:m.n.size≤1048576) (hl:m.ts.length≤1048576) (hM:IsMe v m w) :
 Calls Tryz.prog 165 #[v] w fun e w'=>e=.returned (.bool (mB m))∧Below w.heap.size w w':=by
 obtain ⟨ta,tc,rfl,hT⟩:=hM
 rw [mB_eq]
 obtain ⟨n,g,wh,f,l,ts⟩:=m
 simp only at *
 have H1:=H_ (fun w=>NameR.impl_any n w hn)
 have H2:=H_ (fun w=>within64 g 1 4 w)
 have H3:=H_ (fun w=>within64 f 0 1000000000 w)
 have H4:=H_ (fun w=>within64 l 0 1000000000000 w)
 have H5:Hid (∀W,Below w.heap.size w W→Calls Tryz.prog 198 #[.slice ta ts.length tc] W fun e w'=>e=.returned (.bool (tB ts))∧Below W.heap.size W w'):=H_ (fun W hW=>impl_tiers ta ts.length tc ts W hl (hT.below hW))
 have HB:Hid (Below w.heap.size w (w.alloc (.cells #[.string n,.int .i64 g,.bool wh,.int .i64 f,.int .i64 l,.slice ta ts.length tc] 150))):=H_ ((Below.refl _ _).alloc (Nat.le_refl _) _)
 generalize NameR.nameB n=b1 at *
 generalize decide (1≤g∧g≤4)=b2 at *
 generalize decide (0≤f∧f≤1000000000)=b3 at *
 generalize decide (0≤l∧l≤1000000000000)=b4 at *
 generalize tB ts=b5 at *
 clear hT hn hl
 generalize ts.length=tl at *
 rcases five b1 b2 b3 b4 b5 with rfl|⟨rfl,rfl⟩|⟨rfl,rfl,rfl⟩|⟨rfl,rfl,rfl,rfl⟩|⟨rfl,rfl,rfl,rfl⟩
 all_goals
  go_enter Tryz.func165,Tryz.ntmps165
  go_wp2_with (first|(go_at_call 166;refine (H1.out _).mono ?_;rintro e w' ⟨rfl,rfl⟩)|(go_at_call_of 30 (Value.int .i64 g);refine (H2.out _).mono ?_;rintro e w' ⟨rfl,rfl⟩)|(go_at_call_of 30 (Value.int .i64 f);refine (H3.out _).mono ?_;rintro e w' ⟨rfl,rfl⟩)|(go_at_call_of 30 (Value.int .i64 l);refine (H4.out _).mono ?_;rintro e w' ⟨rfl,rfl⟩)|(go_at_call 198;refine (H5.out _ HB.out).mono ?_;rintro e w2 ⟨rfl,hb2⟩))
  go_ret
  exact ⟨ret_bool (by simp),by first|exact bel_alloc hb2|exact HB.out⟩
set_option maxRecDepth 100000 in
set_option maxHeartbeats 4000000 in
theorem spec_meter (v:Value) (m:Me) (w:World) (hn:m.n.size≤1048576) (hl:m.ts.length≤1048576) (hM:IsMe v m w) :
 Calls Tryz.prog 103 #[v] w fun e w'=>e=.returned (.bool (mB m))∧Below w.heap.size w w':=by
 obtain ⟨ta,tc,rfl,hT⟩:=hM
 rw [mB_eq]
 obtain ⟨n,g,wh,f,l,ts⟩:=m
 simp only at *
 have H1:=H_ (fun w=>NameR.spec_any n w hn)
 have H2:=H_ (fun w=>isS g 1 4 w)
 have H3:=H_ (fun w=>isS f 0 1000000000 w)
 have H4:=H_ (fun w=>isS l 0 1000000000000 w)
 have H5:Hid (∀W,Below w.heap.size w W→Calls Tryz.prog 151 #[.slice ta ts.length tc] W fun e w'=>e=.returned (.bool (tB ts))∧Below W.heap.size W w'):=H_ (fun W hW=>spec_tiers ta ts.length tc ts W hl (hT.below hW))
 have HB:Hid (Below w.heap.size w (w.alloc (.cells #[.string n,.int .i64 g,.bool wh,.int .i64 f,.int .i64 l,.slice ta ts.length tc] 150))):=H_ ((Below.refl _ _).alloc (Nat.le_refl _) _)
 generalize NameR.nameB n=b1 at *
 generalize decide (1≤g∧g≤4)=b2 at *
 generalize decide (0≤f∧f≤1000000000)=b3 at *
 generalize decide (0≤l∧l≤1000000000000)=b4 at *
 generalize tB ts=b5 at *
 clear hT hn hl
 generalize ts.length=tl at *
 rcases five b1 b2 b3 b4 b5 with rfl|⟨rfl,rfl⟩|⟨rfl,rfl,rfl⟩|⟨rfl,rfl,rfl,rfl⟩|⟨rfl,rfl,rfl,rfl⟩
 all_goals
  go_enter Tryz.func103,Tryz.ntmps103
  go_wp2_with (first|(go_at_call 104;refine (H1.out _).mono ?_;rintro e w' ⟨rfl,rfl⟩)|(go_at_call_of 63 (Value.int .i64 g);refine (H2.out _).mono ?_;rintro e w' ⟨rfl,rfl⟩)|(go_at_call_of 63 (Value.int .i64 f);refine (H3.out _).mono ?_;rintro e w' ⟨rfl,rfl⟩)|(go_at_call_of 63 (Value.int .i64 l);refine (H4.out _).mono ?_;rintro e w' ⟨rfl,rfl⟩)|(go_at_call 151;refine (H5.out _ HB.out).mono ?_;rintro e w2 ⟨rfl,hb2⟩))
  go_ret
  exact ⟨ret_bool (by simp),by first|exact bel_alloc hb2|exact HB.out⟩
end CatR
end Go.Proofs.YtnceeaccbcfopaaGreatDoor
