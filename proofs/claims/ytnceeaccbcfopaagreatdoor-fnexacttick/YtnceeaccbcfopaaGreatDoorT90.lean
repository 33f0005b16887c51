/-
  What the program calls a right catalog. The conditions: all in it is small; the program's own error stands in its variable.
-/
import Derived.Test.YtnceeaccbcfopaaGreatDoorT89
namespace Go.Proofs.YtnceeaccbcfopaaGreatDoor
open Go.ChangeShapes Go.WideShapes Go.ChangeAt Go.RowKit
set_option linter.unusedVariables false
namespace CatR
set_option maxHeartbeats 4000000 in
theorem impl_ca (v:Value) (c:Ca) (w:World) (hS:c.Small) (hC:IsCa v c w) (hL:Laid w) :
 Calls Tryz.prog 70 #[v] w fun e w'=>e=.returned (.bool (caB c))∧Below w.heap.size w w':=by
 obtain ⟨ma,mc,ca,cc,rfl,hM,hR⟩:=hC
 obtain ⟨ms,cs⟩:=c
 obtain ⟨s1,s2,s3,s4⟩:=hS
 simp only at *
 obtain ⟨V,hV⟩:=mes_v hM
 have HM:Hid (∀W,Below w.heap.size w W→Calls Tryz.prog 120 #[.slice ma ms.length mc] W fun e w'=>e=.returned (.bool (msB ms))∧Below W.heap.size W w'):=H_ (fun W hW=>impl_ms ma ms.length mc ms V W rfl s1 s2 (hV.below hW) (hL.below hW))
 have HR:Hid (∀W,Below w.heap.size w W→Calls Tryz.prog 121 #[.slice ca cs.length cc] W fun e w'=>e=.returned (.bool (csB cs))∧Below W.heap.size W w'):=H_ (fun W hW=>impl_cs ca cs.length cc cs W s3 s4 (hR.below hW))
 have HV:Hid (caB ⟨ms,cs⟩=(msB ms&&csB cs)):=rfl
 clear hM hR s1 s2 s3 s4 hV hL
 generalize msB ms=r1 at *
 generalize csB cs=r2 at *
 generalize caB ⟨ms,cs⟩=R at *
 generalize ms.length=ml at *
 generalize cs.length=cl at *
 have HB:Hid (Below w.heap.size w (w.alloc (.cells #[.slice ma ml mc,.slice ca cl cc] 36))):=H_ ((Below.refl _ _).alloc (Nat.le_refl _) _)
 have hw1:∀w1,Below (w.alloc (.cells #[.slice ma ml mc,.slice ca cl cc] 36)).heap.size (w.alloc (.cells #[.slice ma ml mc,.slice ca cl cc] 36)) w1→w.heap.size<w1.heap.size∧w1.cell? ⟨w.heap.size,1,none⟩=some (.slice ca cl cc):=fun w1 hb=>⟨by have:=hb.size;simp at this;omega,(hb.cell (p:=⟨w.heap.size,1,none⟩) (by simp)).trans (by simp [go_sem])⟩
 have HW1:=H_ hw1
 clear hw1
 go_enter Tryz.func70,Tryz.ntmps70
 go_wp2_with fail
 refine (HM.out _ HB.out).mono ?_
 rintro e w1 ⟨rfl,hb1⟩
 have HB1:=H_ (HB.out.trans (hb1.mono HB.out.size))
 obtain ⟨hl,p1⟩:=HW1.out _ hb1
 clear hb1
 cases r1
 ·go_wp2_with fail
  go_ret
  exact ⟨ret_bool (by rw [HV.out];rfl),HB1.out⟩
 ·go_wp2_with fail
  refine (HR.out _ HB1.out).mono ?_
  rintro e w2 ⟨rfl,hb2⟩
  have HB2:=H_ (HB1.out.trans (hb2.mono HB1.out.size))
  clear hb2
  go_wp2_with fail
  go_ret
  exact ⟨ret_bool (by rw [HV.out];rfl),HB2.out⟩
end CatR
end Go.Proofs.YtnceeaccbcfopaaGreatDoor
