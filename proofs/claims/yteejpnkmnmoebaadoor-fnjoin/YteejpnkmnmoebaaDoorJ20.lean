/-
  Two windows joined: the program's way. The condition: what the callees ask for.
-/
import Derived.Deep.CutRange
import Derived.Test.YteejpnkmnmoebaaDoorJ19
namespace Go.Proofs.YteejpnkmnmoebaaDoor
open Go.ChangeShapes Go.WideShapes Go.ChangeAt Go.RowKit
set_option linter.unusedVariables false
namespace WinR
open RowG (MadeG Rws)
open EvtR (Pt)
open LtR (lt)
open DateR (Laid)
open CatR (Blk Blk.new)
open MemoR
theorem made_far {α:Type} {k:Nat} {cells:α→List Value} {z:α} {base:Nat} {ao:Option Addr} {xs:List α} {W W':World} {g:Nat} (h:MadeG k cells z base ao xs W) (hg:W.grownBy W' (some g)) (hlt:g<base):MadeG k cells z base ao xs W':=by
 refine ⟨Rws.grown h.rws hg (h.own.imp id (fun ⟨q,e1,e2,_⟩ b off e hb=>?_)),h.own.imp id (fun ⟨q,e1,e2,e3⟩=>⟨q,e1,e2,StR.pt_far e3 hg (by omega)⟩)⟩
 rw [e1] at e
 simp only [Option.some.injEq,Addr.mk.injEq] at e hb
 omega
theorem MadeW.far {base:Nat} {x:Wd} {v:Value} {W W':World} {g:Nat} (h:MadeW base x v W) (hg:W.grownBy W' (some g)) (hlt:g<base):MadeW base x v W':=by
 obtain ⟨ta,tc,ha,hc,e,h1,h2,h3⟩:=h
 exact ⟨ta,tc,ha,hc,e,made_far h1 hg hlt,made_far h2 hg hlt,h3⟩
def outW (v:Value) (c:Int):Value:=match v with
 | .agg cs=>.agg (cs.push (.int .i64 c))
 | _=>v
def JPost (r1 r2 r3:Bool) (same:Prop) (z:Wd) (base:Nat) (e:Ending) (w':World):Prop :=
 ((r1&&r2)=false∧e=.returned (.agg #[.string ⟨#[]⟩,.string ⟨#[]⟩,.int .i64 0,.int .i64 0,.int .i64 0,.int .i64 0,.slice none 0 0,.slice none 0 0,.int .i64 1]))∨((r1&&r2)=true∧¬same∧e=.returned (.agg #[.string ⟨#[]⟩,.string ⟨#[]⟩,.int .i64 0,.int .i64 0,.int .i64 0,.int .i64 0,.slice none 0 0,.slice none 0 0,.int .i64 10])) ∨
 ((r1&&r2)=true∧same∧r3=false∧e=.returned (.agg #[.string ⟨#[]⟩,.string ⟨#[]⟩,.int .i64 0,.int .i64 0,.int .i64 0,.int .i64 0,.slice none 0 0,.slice none 0 0,.int .i64 9]))∨((r1&&r2)=true∧same∧r3=true∧∃v,e=.returned (outW v 0)∧MadeWS base z v w')
set_option maxRecDepth 100000 in
set_option maxHeartbeats 16000000 in
theorem join_in (a1 m1:ByteArray) (mo1 ev1 su1 mx1:Int) (ta1:Option Addr) (tl1 tc1:Nat) (ha1:Option Addr) (hl1 hc1:Nat) (a2 m2:ByteArray) (mo2 ev2 su2 mx2:Int) (ta2:Option Addr) (tl2 tc2:Nat) (ha2:Option Addr) (hl2 hc2:Nat) (MT:List ByteArray) (MH:List H) (EV SU MX:Int) (r1 r2 r3:Bool) (z:Wd) (w:World) (hL:Laid w)
 (hr1:∀W,Below w.heap.size w W→Calls Tryd.prog 16 #[.agg #[.string a1,.string m1,.int .i64 mo1,.int .i64 ev1,.int .i64 su1,.int .i64 mx1,.slice ta1 tl1 tc1,.func (.func 60) #[] #[],.func (.func 61) #[] #[],.slice ha1 hl1 hc1,.func (.func 62) #[] #[],.func (.func 63) #[] #[]]] W fun e w'=>e=.returned (.bool r1)∧Below W.heap.size W w')
 (hr2:∀W,Below w.heap.size w W→Calls Tryd.prog 16 #[.agg #[.string a2,.string m2,.int .i64 mo2,.int .i64 ev2,.int .i64 su2,.int .i64 mx2,.slice ta2 tl2 tc2,.func (.func 60) #[] #[],.func (.func 61) #[] #[],.slice ha2 hl2 hc2,.func (.func 62) #[] #[],.func (.func 63) #[] #[]]] W fun e w'=>e=.returned (.bool r2)∧Below W.heap.size W w')
 (hw:r1=true→r2=true→∀W,Below w.heap.size w W→Calls Tryd.prog 17 #[.agg #[.string a1,.string m1,.int .i64 mo1,.int .i64 ev1,.int .i64 su1,.int .i64 mx1,.slice ta1 tl1 tc1,.func (.func 60) #[] #[],.func (.func 61) #[] #[],.slice ha1 hl1 hc1,.func (.func 62) #[] #[],.func (.func 63) #[] #[]],.agg #[.string a2,.string m2,.int .i64 mo2,.int .i64 ev2,.int .i64 su2,.int .i64 mx2,.slice ta2 tl2 tc2,.func (.func 60) #[] #[],.func (.func 61) #[] #[],.slice ha2 hl2 hc2,.func (.func 62) #[] #[],.func (.func 63) #[] #[]]] W fun e w'=>∃ao cc ho hcc,e=.returned (.agg #[.string a1,.string m1,.int .i64 mo1,.int .i64 EV,.int .i64 SU,.int .i64 MX,.slice ao MT.length cc,.func (.func 60) #[] #[],.func (.func 61) #[] #[],.slice ho MH.length hcc,.func (.func 62) #[] #[],.func (.func 63) #[] #[]])∧Tgs ao MT w'∧Hrs ho MH w'∧Below W.heap.size W w')
 (hr3:∀ao cc ho hcc W,Laid W→Tgs ao MT W→Hrs ho MH W→Calls Tryd.prog 16 #[.agg #[.string a1,.string m1,.int .i64 mo1,.int .i64 EV,.int .i64 SU,.int .i64 MX,.slice ao MT.length cc,.func (.func 60) #[] #[],.func (.func 61) #[] #[],.slice ho MH.length hcc,.func (.func 62) #[] #[],.func (.func 63) #[] #[]]] W fun e w'=>e=.returned (.bool r3)∧Below W.heap.size W w')
 (hwin:r3=true→∀ao cc ho hcc W,Tgs ao MT W→Hrs ho MH W→Calls Tryd.prog 18 #[.agg #[.string a1,.string m1,.int .i64 mo1,.int .i64 EV,.int .i64 SU,.int .i64 MX,.slice ao MT.length cc,.func (.func 60) #[] #[],.func (.func 61) #[] #[],.slice ho MH.length hcc,.func (.func 62) #[] #[],.func (.func 63) #[] #[]]] W fun e w'=>∃v,e=.returned v∧MadeWS W.heap.size z v w'∧Below W.heap.size W w') :
 Calls Tryd.prog 5 #[.agg #[.string a1,.string m1,.int .i64 mo1,.int .i64 ev1,.int .i64 su1,.int .i64 mx1,.slice ta1 tl1 tc1,.slice ha1 hl1 hc1],.agg #[.string a2,.string m2,.int .i64 mo2,.int .i64 ev2,.int .i64 su2,.int .i64 mx2,.slice ta2 tl2 tc2,.slice ha2 hl2 hc2]] w fun e w' =>
  JPost r1 r2 r3 (a1=a2∧m1=m2∧mo1=mo2) z w.heap.size e w'∧Below w.heap.size w w':=by
 have HL:=H_ hL
 have HR1:=H_ hr1
 have HR2:=H_ hr2
 have HR3:=H_ hr3
 have HWI:=H_ hw
 have HWN:=H_ hwin
 clear hL hr1 hr2 hr3 hw hwin
 obtain ⟨W0,hW0⟩:∃W0,W0=(((w.alloc (.cells #[.string a1,.string m1,.int .i64 mo1,.int .i64 ev1,.int .i64 su1,.int .i64 mx1,.slice ta1 tl1 tc1,.slice ha1 hl1 hc1] 26)).alloc (.cells #[.string a2,.string m2,.int .i64 mo2,.int .i64 ev2,.int .i64 su2,.int .i64 mx2,.slice ta2 tl2 tc2,.slice ha2 hl2 hc2] 26)).alloc (.cells #[.string ⟨#[]⟩,.string ⟨#[]⟩,.int .i64 0,.int .i64 0,.int .i64 0,.int .i64 0,.slice none 0 0,.slice none 0 0,.int .i64 0] 30)):=⟨_,rfl⟩
 have HB0:Hid (Below w.heap.size w W0):=H_ (by rw [hW0];exact (((Below.refl _ _).alloc (by simp;try omega) _).alloc (by simp;try omega) _).alloc (by simp;try omega) _)
 have hsz:W0.heap.size=w.heap.size+3:=by rw [hW0];simp
 have HX0:Hid (JX W0 w.heap.size (w.heap.size+1) (w.heap.size+1+1) a1 m1 mo1 ev1 su1 mx1 ta1 tl1 tc1 ha1 hl1 hc1 a2 m2 mo2 ev2 su2 mx2 ta2 tl2 tc2 ha2 hl2 hc2 W0):=H_ (by
  refine ⟨Below.refl _ _,by omega,by omega,by rw [hW0];simp [go_sem],by rw [hW0];simp [go_sem],by rw [hW0];simp [go_sem],by rw [hW0];simp [go_sem],by rw [hW0];simp [go_sem],by rw [hW0];simp [go_sem],by rw [hW0];simp [go_sem],by rw [hW0];simp [go_sem],by rw [hW0];simp [go_sem],by rw [hW0];simp [go_sem],by rw [hW0];simp [go_sem],by rw [hW0];simp [go_sem],by rw [hW0];simp [go_sem],by rw [hW0];simp [go_sem],by rw [hW0];simp [go_sem],by rw [hW0];simp [go_sem],?_⟩
  have:=StR.pt_new ((w.alloc (.cells #[.string a1,.string m1,.int .i64 mo1,.int .i64 ev1,.int .i64 su1,.int .i64 mx1,.slice ta1 tl1 tc1,.slice ha1 hl1 hc1] 26)).alloc (.cells #[.string a2,.string m2,.int .i64 mo2,.int .i64 ev2,.int .i64 su2,.int .i64 mx2,.slice ta2 tl2 tc2,.slice ha2 hl2 hc2] 26)) [.string ⟨#[]⟩,.string ⟨#[]⟩,.int .i64 0,.int .i64 0,.int .i64 0,.int .i64 0,.slice none 0 0,.slice none 0 0,.int .i64 0] 30
  rw [hW0]
  simp only [World.size_alloc] at this
  exact this)
 have HW:=H_ hW0
 have HSZ:=H_ hsz
 clear hW0 hsz
 have HX1:Hid (JX W0 w.heap.size (w.heap.size+1) (w.heap.size+1+1) a1 m1 mo1 ev1 su1 mx1 ta1 tl1 tc1 ha1 hl1 hc1 a2 m2 mo2 ev2 su2 mx2 ta2 tl2 tc2 ha2 hl2 hc2 W0.drew):=H_ HX0.out.drew
 have HUA:=H_ (fun W=>impl_usage a1 m1 mo1 ev1 su1 mx1 ta1 tl1 tc1 ha1 hl1 hc1 W)
 have HUB:=H_ (fun W=>impl_usage a2 m2 mo2 ev2 su2 mx2 ta2 tl2 tc2 ha2 hl2 hc2 W)
 go_enter Tryd.func5,Tryd.ntmps5
 go_wp2_with fail
 rw [←HW.out]
 go_cut [5,6] from 8 (fun v5 v6 wx=>∃bX bY,v5=.pointer (some ⟨bX,0,none⟩)∧v6=.pointer (some ⟨bY,0,none⟩)∧Hid (Blk bX [.string a1,.string m1,.int .i64 mo1,.int .i64 ev1,.int .i64 su1,.int .i64 mx1,.slice ta1 tl1 tc1,.func (.func 60) #[] #[],.func (.func 61) #[] #[],.slice ha1 hl1 hc1,.func (.func 62) #[] #[],.func (.func 63) #[] #[]] wx)∧Hid (Blk bY [.string a2,.string m2,.int .i64 mo2,.int .i64 ev2,.int .i64 su2,.int .i64 mx2,.slice ta2 tl2 tc2,.func (.func 60) #[] #[],.func (.func 61) #[] #[],.slice ha2 hl2 hc2,.func (.func 62) #[] #[],.func (.func 63) #[] #[]] wx)∧Hid (JX W0 w.heap.size (w.heap.size+1) (w.heap.size+1+1) a1 m1 mo1 ev1 su1 mx1 ta1 tl1 tc1 ha1 hl1 hc1 a2 m2 mo2 ev2 su2 mx2 ta2 tl2 tc2 ha2 hl2 hc2 wx))
 case first =>
  have a0:w.heap.size<W0.heap.size:=by have:=HSZ.out;omega
  have b0:w.heap.size+1<W0.heap.size:=by have:=HSZ.out;omega
  have r0:w.heap.size+1+1<W0.heap.size:=by have:=HSZ.out;omega
  refine wp_region_held_drew (S:=(fun W=>Below W0.heap.size W0 W∧w.heap.size<W.heap.size∧w.heap.size+1<W.heap.size∧W.cell? ⟨w.heap.size,0,none⟩=some (.string a1)∧W.cell? ⟨w.heap.size,1,none⟩=some (.string m1)∧W.cell? ⟨w.heap.size,2,none⟩=some (.int .i64 mo1)∧W.cell? ⟨w.heap.size,3,none⟩=some (.int .i64 ev1)∧W.cell? ⟨w.heap.size,4,none⟩=some (.int .i64 su1)∧W.cell? ⟨w.heap.size,5,none⟩=some (.int .i64 mx1)∧W.cell? ⟨w.heap.size,6,none⟩=some (.slice ta1 tl1 tc1)∧W.cell? ⟨w.heap.size,7,none⟩=some (.slice ha1 hl1 hc1)∧W.cell? ⟨w.heap.size+1,0,none⟩=some (.string a2)∧W.cell? ⟨w.heap.size+1,1,none⟩=some (.string m2)∧W.cell? ⟨w.heap.size+1,2,none⟩=some (.int .i64 mo2)∧W.cell? ⟨w.heap.size+1,3,none⟩=some (.int .i64 ev2)∧W.cell? ⟨w.heap.size+1,4,none⟩=some (.int .i64 su2)∧W.cell? ⟨w.heap.size+1,5,none⟩=some (.int .i64 mx2)∧W.cell? ⟨w.heap.size+1,6,none⟩=some (.slice ta2 tl2 tc2)∧W.cell? ⟨w.heap.size+1,7,none⟩=some (.slice ha2 hl2 hc2)∧Pt (w.heap.size+1+1) 9 W)) (by kernel_rfl) HX1.out (fun hHeld=>?_)
  generalize W0.drew=kd at *
  apply memo2 (fun bX bY W=>(Below W0.heap.size W0 W∧w.heap.size<W.heap.size∧w.heap.size+1<W.heap.size∧W.cell? ⟨w.heap.size,0,none⟩=some (.string a1)∧W.cell? ⟨w.heap.size,1,none⟩=some (.string m1)∧W.cell? ⟨w.heap.size,2,none⟩=some (.int .i64 mo1)∧W.cell? ⟨w.heap.size,3,none⟩=some (.int .i64 ev1)∧W.cell? ⟨w.heap.size,4,none⟩=some (.int .i64 su1)∧W.cell? ⟨w.heap.size,5,none⟩=some (.int .i64 mx1)∧W.cell? ⟨w.heap.size,6,none⟩=some (.slice ta1 tl1 tc1)∧W.cell? ⟨w.heap.size,7,none⟩=some (.slice ha1 hl1 hc1)∧W.cell? ⟨w.heap.size+1,0,none⟩=some (.string a2)∧W.cell? ⟨w.heap.size+1,1,none⟩=some (.string m2)∧W.cell? ⟨w.heap.size+1,2,none⟩=some (.int .i64 mo2)∧W.cell? ⟨w.heap.size+1,3,none⟩=some (.int .i64 ev2)∧W.cell? ⟨w.heap.size+1,4,none⟩=some (.int .i64 su2)∧W.cell? ⟨w.heap.size+1,5,none⟩=some (.int .i64 mx2)∧W.cell? ⟨w.heap.size+1,6,none⟩=some (.slice ta2 tl2 tc2)∧W.cell? ⟨w.heap.size+1,7,none⟩=some (.slice ha2 hl2 hc2)∧Pt (w.heap.size+1+1) 9 W)∧(W0.heap.size≤bX)∧(CatR.Blk bX [.string a1,.string m1,.int .i64 mo1,.int .i64 ev1,.int .i64 su1,.int .i64 mx1,.slice ta1 tl1 tc1,.func (.func 60) #[] #[],.func (.func 61) #[] #[],.slice ha1 hl1 hc1,.func (.func 62) #[] #[],.func (.func 63) #[] #[]] W)∧(W0.heap.size≤bY)∧(EvtR.Pt bY 12 W)∧(bX≠bY)∧True)
  intro N1_3_4_5_6
  apply memo2 (fun bX bY W=>(Below W0.heap.size W0 W∧w.heap.size<W.heap.size∧w.heap.size+1<W.heap.size∧W.cell? ⟨w.heap.size,0,none⟩=some (.string a1)∧W.cell? ⟨w.heap.size,1,none⟩=some (.string m1)∧W.cell? ⟨w.heap.size,2,none⟩=some (.int .i64 mo1)∧W.cell? ⟨w.heap.size,3,none⟩=some (.int .i64 ev1)∧W.cell? ⟨w.heap.size,4,none⟩=some (.int .i64 su1)∧W.cell? ⟨w.heap.size,5,none⟩=some (.int .i64 mx1)∧W.cell? ⟨w.heap.size,6,none⟩=some (.slice ta1 tl1 tc1)∧W.cell? ⟨w.heap.size,7,none⟩=some (.slice ha1 hl1 hc1)∧W.cell? ⟨w.heap.size+1,0,none⟩=some (.string a2)∧W.cell? ⟨w.heap.size+1,1,none⟩=some (.string m2)∧W.cell? ⟨w.heap.size+1,2,none⟩=some (.int .i64 mo2)∧W.cell? ⟨w.heap.size+1,3,none⟩=some (.int .i64 ev2)∧W.cell? ⟨w.heap.size+1,4,none⟩=some (.int .i64 su2)∧W.cell? ⟨w.heap.size+1,5,none⟩=some (.int .i64 mx2)∧W.cell? ⟨w.heap.size+1,6,none⟩=some (.slice ta2 tl2 tc2)∧W.cell? ⟨w.heap.size+1,7,none⟩=some (.slice ha2 hl2 hc2)∧Pt (w.heap.size+1+1) 9 W)∧(W0.heap.size≤bX)∧(EvtR.Pt bX 12 W)∧(W0.heap.size≤bY)∧(EvtR.Pt bY 12 W)∧(bX≠bY)∧True)
  intro N1_3_4_5
  apply memo1 (fun bX W=>(Below W0.heap.size W0 W∧w.heap.size<W.heap.size∧w.heap.size+1<W.heap.size∧W.cell? ⟨w.heap.size,0,none⟩=some (.string a1)∧W.cell? ⟨w.heap.size,1,none⟩=some (.string m1)∧W.cell? ⟨w.heap.size,2,none⟩=some (.int .i64 mo1)∧W.cell? ⟨w.heap.size,3,none⟩=some (.int .i64 ev1)∧W.cell? ⟨w.heap.size,4,none⟩=some (.int .i64 su1)∧W.cell? ⟨w.heap.size,5,none⟩=some (.int .i64 mx1)∧W.cell? ⟨w.heap.size,6,none⟩=some (.slice ta1 tl1 tc1)∧W.cell? ⟨w.heap.size,7,none⟩=some (.slice ha1 hl1 hc1)∧W.cell? ⟨w.heap.size+1,0,none⟩=some (.string a2)∧W.cell? ⟨w.heap.size+1,1,none⟩=some (.string m2)∧W.cell? ⟨w.heap.size+1,2,none⟩=some (.int .i64 mo2)∧W.cell? ⟨w.heap.size+1,3,none⟩=some (.int .i64 ev2)∧W.cell? ⟨w.heap.size+1,4,none⟩=some (.int .i64 su2)∧W.cell? ⟨w.heap.size+1,5,none⟩=some (.int .i64 mx2)∧W.cell? ⟨w.heap.size+1,6,none⟩=some (.slice ta2 tl2 tc2)∧W.cell? ⟨w.heap.size+1,7,none⟩=some (.slice ha2 hl2 hc2)∧Pt (w.heap.size+1+1) 9 W)∧(W0.heap.size≤bX)∧(EvtR.Pt bX 12 W)∧True)
  intro N1_3_4
  apply memo1 (fun bY W=>(Below W0.heap.size W0 W∧w.heap.size<W.heap.size∧w.heap.size+1<W.heap.size∧W.cell? ⟨w.heap.size,0,none⟩=some (.string a1)∧W.cell? ⟨w.heap.size,1,none⟩=some (.string m1)∧W.cell? ⟨w.heap.size,2,none⟩=some (.int .i64 mo1)∧W.cell? ⟨w.heap.size,3,none⟩=some (.int .i64 ev1)∧W.cell? ⟨w.heap.size,4,none⟩=some (.int .i64 su1)∧W.cell? ⟨w.heap.size,5,none⟩=some (.int .i64 mx1)∧W.cell? ⟨w.heap.size,6,none⟩=some (.slice ta1 tl1 tc1)∧W.cell? ⟨w.heap.size,7,none⟩=some (.slice ha1 hl1 hc1)∧W.cell? ⟨w.heap.size+1,0,none⟩=some (.string a2)∧W.cell? ⟨w.heap.size+1,1,none⟩=some (.string m2)∧W.cell? ⟨w.heap.size+1,2,none⟩=some (.int .i64 mo2)∧W.cell? ⟨w.heap.size+1,3,none⟩=some (.int .i64 ev2)∧W.cell? ⟨w.heap.size+1,4,none⟩=some (.int .i64 su2)∧W.cell? ⟨w.heap.size+1,5,none⟩=some (.int .i64 mx2)∧W.cell? ⟨w.heap.size+1,6,none⟩=some (.slice ta2 tl2 tc2)∧W.cell? ⟨w.heap.size+1,7,none⟩=some (.slice ha2 hl2 hc2)∧Pt (w.heap.size+1+1) 9 W)∧(W0.heap.size≤bY)∧(EvtR.Pt bY 12 W)∧True)
  intro N1_3_5
  apply memo2 (fun bX bY W=>(Below W0.heap.size W0 W∧w.heap.size<W.heap.size∧w.heap.size+1<W.heap.size∧W.cell? ⟨w.heap.size,0,none⟩=some (.string a1)∧W.cell? ⟨w.heap.size,1,none⟩=some (.string m1)∧W.cell? ⟨w.heap.size,2,none⟩=some (.int .i64 mo1)∧W.cell? ⟨w.heap.size,3,none⟩=some (.int .i64 ev1)∧W.cell? ⟨w.heap.size,4,none⟩=some (.int .i64 su1)∧W.cell? ⟨w.heap.size,5,none⟩=some (.int .i64 mx1)∧W.cell? ⟨w.heap.size,6,none⟩=some (.slice ta1 tl1 tc1)∧W.cell? ⟨w.heap.size,7,none⟩=some (.slice ha1 hl1 hc1)∧W.cell? ⟨w.heap.size+1,0,none⟩=some (.string a2)∧W.cell? ⟨w.heap.size+1,1,none⟩=some (.string m2)∧W.cell? ⟨w.heap.size+1,2,none⟩=some (.int .i64 mo2)∧W.cell? ⟨w.heap.size+1,3,none⟩=some (.int .i64 ev2)∧W.cell? ⟨w.heap.size+1,4,none⟩=some (.int .i64 su2)∧W.cell? ⟨w.heap.size+1,5,none⟩=some (.int .i64 mx2)∧W.cell? ⟨w.heap.size+1,6,none⟩=some (.slice ta2 tl2 tc2)∧W.cell? ⟨w.heap.size+1,7,none⟩=some (.slice ha2 hl2 hc2)∧Pt (w.heap.size+1+1) 9 W)∧(W0.heap.size≤bX)∧(EvtR.Pt bX 12 W)∧(W0.heap.size≤bY)∧(EvtR.Pt bY 12 W)∧(bX≠bY)∧True)
  intro N1_4_5
  apply memo0 (fun W=>(Below W0.heap.size W0 W∧w.heap.size<W.heap.size∧w.heap.size+1<W.heap.size∧W.cell? ⟨w.heap.size,0,none⟩=some (.string a1)∧W.cell? ⟨w.heap.size,1,none⟩=some (.string m1)∧W.cell? ⟨w.heap.size,2,none⟩=some (.int .i64 mo1)∧W.cell? ⟨w.heap.size,3,none⟩=some (.int .i64 ev1)∧W.cell? ⟨w.heap.size,4,none⟩=some (.int .i64 su1)∧W.cell? ⟨w.heap.size,5,none⟩=some (.int .i64 mx1)∧W.cell? ⟨w.heap.size,6,none⟩=some (.slice ta1 tl1 tc1)∧W.cell? ⟨w.heap.size,7,none⟩=some (.slice ha1 hl1 hc1)∧W.cell? ⟨w.heap.size+1,0,none⟩=some (.string a2)∧W.cell? ⟨w.heap.size+1,1,none⟩=some (.string m2)∧W.cell? ⟨w.heap.size+1,2,none⟩=some (.int .i64 mo2)∧W.cell? ⟨w.heap.size+1,3,none⟩=some (.int .i64 ev2)∧W.cell? ⟨w.heap.size+1,4,none⟩=some (.int .i64 su2)∧W.cell? ⟨w.heap.size+1,5,none⟩=some (.int .i64 mx2)∧W.cell? ⟨w.heap.size+1,6,none⟩=some (.slice ta2 tl2 tc2)∧W.cell? ⟨w.heap.size+1,7,none⟩=some (.slice ha2 hl2 hc2)∧Pt (w.heap.size+1+1) 9 W)∧True)
  intro N1_3
  apply memo1 (fun bX W=>(Below W0.heap.size W0 W∧w.heap.size<W.heap.size∧w.heap.size+1<W.heap.size∧W.cell? ⟨w.heap.size,0,none⟩=some (.string a1)∧W.cell? ⟨w.heap.size,1,none⟩=some (.string m1)∧W.cell? ⟨w.heap.size,2,none⟩=some (.int .i64 mo1)∧W.cell? ⟨w.heap.size,3,none⟩=some (.int .i64 ev1)∧W.cell? ⟨w.heap.size,4,none⟩=some (.int .i64 su1)∧W.cell? ⟨w.heap.size,5,none⟩=some (.int .i64 mx1)∧W.cell? ⟨w.heap.size,6,none⟩=some (.slice ta1 tl1 tc1)∧W.cell? ⟨w.heap.size,7,none⟩=some (.slice ha1 hl1 hc1)∧W.cell? ⟨w.heap.size+1,0,none⟩=some (.string a2)∧W.cell? ⟨w.heap.size+1,1,none⟩=some (.string m2)∧W.cell? ⟨w.heap.size+1,2,none⟩=some (.int .i64 mo2)∧W.cell? ⟨w.heap.size+1,3,none⟩=some (.int .i64 ev2)∧W.cell? ⟨w.heap.size+1,4,none⟩=some (.int .i64 su2)∧W.cell? ⟨w.heap.size+1,5,none⟩=some (.int .i64 mx2)∧W.cell? ⟨w.heap.size+1,6,none⟩=some (.slice ta2 tl2 tc2)∧W.cell? ⟨w.heap.size+1,7,none⟩=some (.slice ha2 hl2 hc2)∧Pt (w.heap.size+1+1) 9 W)∧(W0.heap.size≤bX)∧(EvtR.Pt bX 12 W)∧True)
  intro N1_4
  apply memo1 (fun bY W=>(Below W0.heap.size W0 W∧w.heap.size<W.heap.size∧w.heap.size+1<W.heap.size∧W.cell? ⟨w.heap.size,0,none⟩=some (.string a1)∧W.cell? ⟨w.heap.size,1,none⟩=some (.string m1)∧W.cell? ⟨w.heap.size,2,none⟩=some (.int .i64 mo1)∧W.cell? ⟨w.heap.size,3,none⟩=some (.int .i64 ev1)∧W.cell? ⟨w.heap.size,4,none⟩=some (.int .i64 su1)∧W.cell? ⟨w.heap.size,5,none⟩=some (.int .i64 mx1)∧W.cell? ⟨w.heap.size,6,none⟩=some (.slice ta1 tl1 tc1)∧W.cell? ⟨w.heap.size,7,none⟩=some (.slice ha1 hl1 hc1)∧W.cell? ⟨w.heap.size+1,0,none⟩=some (.string a2)∧W.cell? ⟨w.heap.size+1,1,none⟩=some (.string m2)∧W.cell? ⟨w.heap.size+1,2,none⟩=some (.int .i64 mo2)∧W.cell? ⟨w.heap.size+1,3,none⟩=some (.int .i64 ev2)∧W.cell? ⟨w.heap.size+1,4,none⟩=some (.int .i64 su2)∧W.cell? ⟨w.heap.size+1,5,none⟩=some (.int .i64 mx2)∧W.cell? ⟨w.heap.size+1,6,none⟩=some (.slice ta2 tl2 tc2)∧W.cell? ⟨w.heap.size+1,7,none⟩=some (.slice ha2 hl2 hc2)∧Pt (w.heap.size+1+1) 9 W)∧(W0.heap.size≤bY)∧(EvtR.Pt bY 12 W)∧True)
  intro N1_5
  apply memo2 (fun bX bY W=>(Below W0.heap.size W0 W∧w.heap.size<W.heap.size∧w.heap.size+1<W.heap.size∧W.cell? ⟨w.heap.size,0,none⟩=some (.string a1)∧W.cell? ⟨w.heap.size,1,none⟩=some (.string m1)∧W.cell? ⟨w.heap.size,2,none⟩=some (.int .i64 mo1)∧W.cell? ⟨w.heap.size,3,none⟩=some (.int .i64 ev1)∧W.cell? ⟨w.heap.size,4,none⟩=some (.int .i64 su1)∧W.cell? ⟨w.heap.size,5,none⟩=some (.int .i64 mx1)∧W.cell? ⟨w.heap.size,6,none⟩=some (.slice ta1 tl1 tc1)∧W.cell? ⟨w.heap.size,7,none⟩=some (.slice ha1 hl1 hc1)∧W.cell? ⟨w.heap.size+1,0,none⟩=some (.string a2)∧W.cell? ⟨w.heap.size+1,1,none⟩=some (.string m2)∧W.cell? ⟨w.heap.size+1,2,none⟩=some (.int .i64 mo2)∧W.cell? ⟨w.heap.size+1,3,none⟩=some (.int .i64 ev2)∧W.cell? ⟨w.heap.size+1,4,none⟩=some (.int .i64 su2)∧W.cell? ⟨w.heap.size+1,5,none⟩=some (.int .i64 mx2)∧W.cell? ⟨w.heap.size+1,6,none⟩=some (.slice ta2 tl2 tc2)∧W.cell? ⟨w.heap.size+1,7,none⟩=some (.slice ha2 hl2 hc2)∧Pt (w.heap.size+1+1) 9 W)∧(W0.heap.size≤bX)∧(EvtR.Pt bX 12 W)∧(W0.heap.size≤bY)∧(EvtR.Pt bY 12 W)∧(bX≠bY)∧True)
  intro N4_5
  apply memo0 (fun W=>(Below W0.heap.size W0 W∧w.heap.size<W.heap.size∧w.heap.size+1<W.heap.size∧W.cell? ⟨w.heap.size,0,none⟩=some (.string a1)∧W.cell? ⟨w.heap.size,1,none⟩=some (.string m1)∧W.cell? ⟨w.heap.size,2,none⟩=some (.int .i64 mo1)∧W.cell? ⟨w.heap.size,3,none⟩=some (.int .i64 ev1)∧W.cell? ⟨w.heap.size,4,none⟩=some (.int .i64 su1)∧W.cell? ⟨w.heap.size,5,none⟩=some (.int .i64 mx1)∧W.cell? ⟨w.heap.size,6,none⟩=some (.slice ta1 tl1 tc1)∧W.cell? ⟨w.heap.size,7,none⟩=some (.slice ha1 hl1 hc1)∧W.cell? ⟨w.heap.size+1,0,none⟩=some (.string a2)∧W.cell? ⟨w.heap.size+1,1,none⟩=some (.string m2)∧W.cell? ⟨w.heap.size+1,2,none⟩=some (.int .i64 mo2)∧W.cell? ⟨w.heap.size+1,3,none⟩=some (.int .i64 ev2)∧W.cell? ⟨w.heap.size+1,4,none⟩=some (.int .i64 su2)∧W.cell? ⟨w.heap.size+1,5,none⟩=some (.int .i64 mx2)∧W.cell? ⟨w.heap.size+1,6,none⟩=some (.slice ta2 tl2 tc2)∧W.cell? ⟨w.heap.size+1,7,none⟩=some (.slice ha2 hl2 hc2)∧Pt (w.heap.size+1+1) 9 W)∧True)
  intro N1
  apply memo1 (fun bX W=>(Below W0.heap.size W0 W∧w.heap.size<W.heap.size∧w.heap.size+1<W.heap.size∧W.cell? ⟨w.heap.size,0,none⟩=some (.string a1)∧W.cell? ⟨w.heap.size,1,none⟩=some (.string m1)∧W.cell? ⟨w.heap.size,2,none⟩=some (.int .i64 mo1)∧W.cell? ⟨w.heap.size,3,none⟩=some (.int .i64 ev1)∧W.cell? ⟨w.heap.size,4,none⟩=some (.int .i64 su1)∧W.cell? ⟨w.heap.size,5,none⟩=some (.int .i64 mx1)∧W.cell? ⟨w.heap.size,6,none⟩=some (.slice ta1 tl1 tc1)∧W.cell? ⟨w.heap.size,7,none⟩=some (.slice ha1 hl1 hc1)∧W.cell? ⟨w.heap.size+1,0,none⟩=some (.string a2)∧W.cell? ⟨w.heap.size+1,1,none⟩=some (.string m2)∧W.cell? ⟨w.heap.size+1,2,none⟩=some (.int .i64 mo2)∧W.cell? ⟨w.heap.size+1,3,none⟩=some (.int .i64 ev2)∧W.cell? ⟨w.heap.size+1,4,none⟩=some (.int .i64 su2)∧W.cell? ⟨w.heap.size+1,5,none⟩=some (.int .i64 mx2)∧W.cell? ⟨w.heap.size+1,6,none⟩=some (.slice ta2 tl2 tc2)∧W.cell? ⟨w.heap.size+1,7,none⟩=some (.slice ha2 hl2 hc2)∧Pt (w.heap.size+1+1) 9 W)∧(W0.heap.size≤bX)∧(EvtR.Pt bX 12 W)∧True)
  intro N4
  apply memo1 (fun bY W=>(Below W0.heap.size W0 W∧w.heap.size<W.heap.size∧w.heap.size+1<W.heap.size∧W.cell? ⟨w.heap.size,0,none⟩=some (.string a1)∧W.cell? ⟨w.heap.size,1,none⟩=some (.string m1)∧W.cell? ⟨w.heap.size,2,none⟩=some (.int .i64 mo1)∧W.cell? ⟨w.heap.size,3,none⟩=some (.int .i64 ev1)∧W.cell? ⟨w.heap.size,4,none⟩=some (.int .i64 su1)∧W.cell? ⟨w.heap.size,5,none⟩=some (.int .i64 mx1)∧W.cell? ⟨w.heap.size,6,none⟩=some (.slice ta1 tl1 tc1)∧W.cell? ⟨w.heap.size,7,none⟩=some (.slice ha1 hl1 hc1)∧W.cell? ⟨w.heap.size+1,0,none⟩=some (.string a2)∧W.cell? ⟨w.heap.size+1,1,none⟩=some (.string m2)∧W.cell? ⟨w.heap.size+1,2,none⟩=some (.int .i64 mo2)∧W.cell? ⟨w.heap.size+1,3,none⟩=some (.int .i64 ev2)∧W.cell? ⟨w.heap.size+1,4,none⟩=some (.int .i64 su2)∧W.cell? ⟨w.heap.size+1,5,none⟩=some (.int .i64 mx2)∧W.cell? ⟨w.heap.size+1,6,none⟩=some (.slice ta2 tl2 tc2)∧W.cell? ⟨w.heap.size+1,7,none⟩=some (.slice ha2 hl2 hc2)∧Pt (w.heap.size+1+1) 9 W)∧(W0.heap.size≤bY)∧(EvtR.Pt bY 12 W)∧True)
  intro N5
  ·refine tk 0 (⟨some 8,.load 26 (.tmp 2),26,"l07_window.go:262",#[],none⟩) ?_
   refine tk 2 (⟨some 10,.load 26 (.tmp 3),26,"l07_window.go:262",#[],none⟩) ?_
   refine wpAnyH_ready (rs:=[1,4,5]) (by kernel_rfl) (by simp) ?_
   refine AllReadyH.cons (o:=⟨some 9,.call {callee:=Callee.value (.func 15),args:=#[.tmp 8],argTypes:=#[26]},54,"l07_window.go:262",#[⟨0,.data⟩],none⟩) rfl (fun K hK=>?_) (AllReadyH.cons (o:=⟨some 5,.alloc 54,0,"l07_window.go:262",#[],none⟩) rfl (fun K hK=>?_) (AllReadyH.cons (o:=⟨some 6,.alloc 54,0,"l07_window.go:262",#[],none⟩) rfl (fun K hK=>?_) AllReadyH.nil))
   ·go_simp
    go_at_call 15
    refine (HUA.out _).mono ?_
    rintro e t1 ⟨rfl,hq1⟩
    try go_wp2_with fail
    have hh1:=JX.below (W0:=W0) (bA:=w.heap.size) (bB:=w.heap.size+1) (bR:=w.heap.size+1+1) (a1:=a1) (m1:=m1) (mo1:=mo1) (ev1:=ev1) (su1:=su1) (mx1:=mx1) (ta1:=ta1) (tl1:=tl1) (tc1:=tc1) (ha1:=ha1) (hl1:=hl1) (hc1:=hc1) (a2:=a2) (m2:=m2) (mo2:=mo2) (ev2:=ev2) (su2:=su2) (mx2:=mx2) (ta2:=ta2) (tl2:=tl2) (tc2:=tc2) (ha2:=ha2) (hl2:=hl2) (hc2:=hc2) HX1.out hq1
    refine hK.out _ _ hh1 (fun _=>?_)
    clear hK K
    try simp only [Act.put,SL]
    exact N1.out t1 ⟨hh1,trivial⟩
   ·go_simp
    try go_wp2_with fail
    have hloX:W0.heap.size≤kd.heap.size:=(HX1.out).1.size
    have hh1:=JX.below (W0:=W0) (bA:=w.heap.size) (bB:=w.heap.size+1) (bR:=w.heap.size+1+1) (a1:=a1) (m1:=m1) (mo1:=mo1) (ev1:=ev1) (su1:=su1) (mx1:=mx1) (ta1:=ta1) (tl1:=tl1) (tc1:=tc1) (ha1:=ha1) (hl1:=hl1) (hc1:=hc1) (a2:=a2) (m2:=m2) (mo2:=mo2) (ev2:=ev2) (su2:=su2) (mx2:=mx2) (ta2:=ta2) (tl2:=tl2) (tc2:=tc2) (ha2:=ha2) (hl2:=hl2) (hc2:=hc2) HX1.out ((Below.refl kd.heap.size kd).alloc (Nat.le_refl _) (Obj.cells #[.string ⟨#[]⟩,.string ⟨#[]⟩,.int .i64 0,.int .i64 0,.int .i64 0,.int .i64 0,.slice none 0 0,.nilFunc,.nilFunc,.slice none 0 0,.nilFunc,.nilFunc] 54))
    have ptX_1:EvtR.Pt kd.heap.size 12 (kd.alloc (Obj.cells #[.string ⟨#[]⟩,.string ⟨#[]⟩,.int .i64 0,.int .i64 0,.int .i64 0,.int .i64 0,.slice none 0 0,.nilFunc,.nilFunc,.slice none 0 0,.nilFunc,.nilFunc] 54)):=StR.pt_new kd [.string ⟨#[]⟩,.string ⟨#[]⟩,.int .i64 0,.int .i64 0,.int .i64 0,.int .i64 0,.slice none 0 0,.nilFunc,.nilFunc,.slice none 0 0,.nilFunc,.nilFunc] 54
    refine hK.out _ _ hh1 (fun _=>?_)
    clear hK K
    try simp only [Act.put,SL]
    generalize (kd.alloc (Obj.cells #[.string ⟨#[]⟩,.string ⟨#[]⟩,.int .i64 0,.int .i64 0,.int .i64 0,.int .i64 0,.slice none 0 0,.nilFunc,.nilFunc,.slice none 0 0,.nilFunc,.nilFunc] 54))=k1 at *
    obtain ⟨bX,hbXx⟩:∃z,z=kd.heap.size:=⟨_,rfl⟩
    rw [←hbXx] at hloX ptX_1 ⊢
    exact N4.out bX k1 ⟨hh1,hloX,ptX_1,trivial⟩
   ·go_simp
    try go_wp2_with fail
    have hloY:W0.heap.size≤kd.heap.size:=(HX1.out).1.size
    have hh1:=JX.below (W0:=W0) (bA:=w.heap.size) (bB:=w.heap.size+1) (bR:=w.heap.size+1+1) (a1:=a1) (m1:=m1) (mo1:=mo1) (ev1:=ev1) (su1:=su1) (mx1:=mx1) (ta1:=ta1) (tl1:=tl1) (tc1:=tc1) (ha1:=ha1) (hl1:=hl1) (hc1:=hc1) (a2:=a2) (m2:=m2) (mo2:=mo2) (ev2:=ev2) (su2:=su2) (mx2:=mx2) (ta2:=ta2) (tl2:=tl2) (tc2:=tc2) (ha2:=ha2) (hl2:=hl2) (hc2:=hc2) HX1.out ((Below.refl kd.heap.size kd).alloc (Nat.le_refl _) (Obj.cells #[.string ⟨#[]⟩,.string ⟨#[]⟩,.int .i64 0,.int .i64 0,.int .i64 0,.int .i64 0,.slice none 0 0,.nilFunc,.nilFunc,.slice none 0 0,.nilFunc,.nilFunc] 54))
    have ptY_1:EvtR.Pt kd.heap.size 12 (kd.alloc (Obj.cells #[.string ⟨#[]⟩,.string ⟨#[]⟩,.int .i64 0,.int .i64 0,.int .i64 0,.int .i64 0,.slice none 0 0,.nilFunc,.nilFunc,.slice none 0 0,.nilFunc,.nilFunc] 54)):=StR.pt_new kd [.string ⟨#[]⟩,.string ⟨#[]⟩,.int .i64 0,.int .i64 0,.int .i64 0,.int .i64 0,.slice none 0 0,.nilFunc,.nilFunc,.slice none 0 0,.nilFunc,.nilFunc] 54
    refine hK.out _ _ hh1 (fun _=>?_)
    clear hK K
    try simp only [Act.put,SL]
    generalize (kd.alloc (Obj.cells #[.string ⟨#[]⟩,.string ⟨#[]⟩,.int .i64 0,.int .i64 0,.int .i64 0,.int .i64 0,.slice none 0 0,.nilFunc,.nilFunc,.slice none 0 0,.nilFunc,.nilFunc] 54))=k1 at *
    obtain ⟨bY,hbYx⟩:∃z,z=kd.heap.size:=⟨_,rfl⟩
    rw [←hbYx] at hloY ptY_1 ⊢
    exact N5.out bY k1 ⟨hh1,hloY,ptY_1,trivial⟩
  ·rintro bY W ⟨hS0,hloY,ptY_0,_⟩
   refine wpAnyH_ready (rs:=[1,4]) (by kernel_rfl) (by simp) ?_
   refine AllReadyH.cons (o:=⟨some 9,.call {callee:=Callee.value (.func 15),args:=#[.tmp 8],argTypes:=#[26]},54,"l07_window.go:262",#[⟨0,.data⟩],none⟩) rfl (fun K hK=>?_) (AllReadyH.cons (o:=⟨some 5,.alloc 54,0,"l07_window.go:262",#[],none⟩) rfl (fun K hK=>?_) AllReadyH.nil)
   ·go_simp
    go_at_call 15
    refine (HUA.out _).mono ?_
    rintro e t1 ⟨rfl,hq1⟩
    try go_wp2_with fail
    have hh1:=JX.below (W0:=W0) (bA:=w.heap.size) (bB:=w.heap.size+1) (bR:=w.heap.size+1+1) (a1:=a1) (m1:=m1) (mo1:=mo1) (ev1:=ev1) (su1:=su1) (mx1:=mx1) (ta1:=ta1) (tl1:=tl1) (tc1:=tc1) (ha1:=ha1) (hl1:=hl1) (hc1:=hc1) (a2:=a2) (m2:=m2) (mo2:=mo2) (ev2:=ev2) (su2:=su2) (mx2:=mx2) (ta2:=ta2) (tl2:=tl2) (tc2:=tc2) (ha2:=ha2) (hl2:=hl2) (hc2:=hc2) hS0 hq1
    have ptY_1:=ptY_0.below hq1
    refine hK.out _ _ hh1 (fun _=>?_)
    clear hK K
    try simp only [Act.put,SL]
    exact N1_5.out bY t1 ⟨hh1,hloY,ptY_1,trivial⟩
   ·go_simp
    try go_wp2_with fail
    have hneYX:bY≠W.heap.size:=by have:=ptY_0.lt;omega
    have hloX:W0.heap.size≤W.heap.size:=(hS0).1.size
    have hh1:=JX.below (W0:=W0) (bA:=w.heap.size) (bB:=w.heap.size+1) (bR:=w.heap.size+1+1) (a1:=a1) (m1:=m1) (mo1:=mo1) (ev1:=ev1) (su1:=su1) (mx1:=mx1) (ta1:=ta1) (tl1:=tl1) (tc1:=tc1) (ha1:=ha1) (hl1:=hl1) (hc1:=hc1) (a2:=a2) (m2:=m2) (mo2:=mo2) (ev2:=ev2) (su2:=su2) (mx2:=mx2) (ta2:=ta2) (tl2:=tl2) (tc2:=tc2) (ha2:=ha2) (hl2:=hl2) (hc2:=hc2) hS0 ((Below.refl W.heap.size W).alloc (Nat.le_refl _) (Obj.cells #[.string ⟨#[]⟩,.string ⟨#[]⟩,.int .i64 0,.int .i64 0,.int .i64 0,.int .i64 0,.slice none 0 0,.nilFunc,.nilFunc,.slice none 0 0,.nilFunc,.nilFunc] 54))
    have ptY_1:=ptY_0.below ((Below.refl W.heap.size W).alloc (Nat.le_refl _) (Obj.cells #[.string ⟨#[]⟩,.string ⟨#[]⟩,.int .i64 0,.int .i64 0,.int .i64 0,.int .i64 0,.slice none 0 0,.nilFunc,.nilFunc,.slice none 0 0,.nilFunc,.nilFunc] 54))
    have ptX_1:EvtR.Pt W.heap.size 12 (W.alloc (Obj.cells #[.string ⟨#[]⟩,.string ⟨#[]⟩,.int .i64 0,.int .i64 0,.int .i64 0,.int .i64 0,.slice none 0 0,.nilFunc,.nilFunc,.slice none 0 0,.nilFunc,.nilFunc] 54)):=StR.pt_new W [.string ⟨#[]⟩,.string ⟨#[]⟩,.int .i64 0,.int .i64 0,.int .i64 0,.int .i64 0,.slice none 0 0,.nilFunc,.nilFunc,.slice none 0 0,.nilFunc,.nilFunc] 54
    refine hK.out _ _ hh1 (fun _=>?_)
    clear hK K
    try simp only [Act.put,SL]
    generalize (W.alloc (Obj.cells #[.string ⟨#[]⟩,.string ⟨#[]⟩,.int .i64 0,.int .i64 0,.int .i64 0,.int .i64 0,.slice none 0 0,.nilFunc,.nilFunc,.slice none 0 0,.nilFunc,.nilFunc] 54))=k1 at *
    obtain ⟨bX,hbXx⟩:∃z,z=W.heap.size:=⟨_,rfl⟩
    rw [←hbXx] at hloX ptX_1 hneYX ⊢
    exact N4_5.out bX bY k1 ⟨hh1,hloX,ptX_1,hloY,ptY_1,(fun e=>hneYX e.symm),trivial⟩
  ·rintro bX W ⟨hS0,hloX,ptX_0,_⟩
   refine wpAnyH_ready (rs:=[1,5]) (by kernel_rfl) (by simp) ?_
   refine AllReadyH.cons (o:=⟨some 9,.call {callee:=Callee.value (.func 15),args:=#[.tmp 8],argTypes:=#[26]},54,"l07_window.go:262",#[⟨0,.data⟩],none⟩) rfl (fun K hK=>?_) (AllReadyH.cons (o:=⟨some 6,.alloc 54,0,"l07_window.go:262",#[],none⟩) rfl (fun K hK=>?_) AllReadyH.nil)
   ·go_simp
    go_at_call 15
    refine (HUA.out _).mono ?_
    rintro e t1 ⟨rfl,hq1⟩
    try go_wp2_with fail
    have hh1:=JX.below (W0:=W0) (bA:=w.heap.size) (bB:=w.heap.size+1) (bR:=w.heap.size+1+1) (a1:=a1) (m1:=m1) (mo1:=mo1) (ev1:=ev1) (su1:=su1) (mx1:=mx1) (ta1:=ta1) (tl1:=tl1) (tc1:=tc1) (ha1:=ha1) (hl1:=hl1) (hc1:=hc1) (a2:=a2) (m2:=m2) (mo2:=mo2) (ev2:=ev2) (su2:=su2) (mx2:=mx2) (ta2:=ta2) (tl2:=tl2) (tc2:=tc2) (ha2:=ha2) (hl2:=hl2) (hc2:=hc2) hS0 hq1
    have ptX_1:=ptX_0.below hq1
    refine hK.out _ _ hh1 (fun _=>?_)
    clear hK K
    try simp only [Act.put,SL]
    exact N1_4.out bX t1 ⟨hh1,hloX,ptX_1,trivial⟩
   ·go_simp
    try go_wp2_with fail
    have hneXY:bX≠W.heap.size:=by have:=ptX_0.lt;omega
    have hloY:W0.heap.size≤W.heap.size:=(hS0).1.size
    have hh1:=JX.below (W0:=W0) (bA:=w.heap.size) (bB:=w.heap.size+1) (bR:=w.heap.size+1+1) (a1:=a1) (m1:=m1) (mo1:=mo1) (ev1:=ev1) (su1:=su1) (mx1:=mx1) (ta1:=ta1) (tl1:=tl1) (tc1:=tc1) (ha1:=ha1) (hl1:=hl1) (hc1:=hc1) (a2:=a2) (m2:=m2) (mo2:=mo2) (ev2:=ev2) (su2:=su2) (mx2:=mx2) (ta2:=ta2) (tl2:=tl2) (tc2:=tc2) (ha2:=ha2) (hl2:=hl2) (hc2:=hc2) hS0 ((Below.refl W.heap.size W).alloc (Nat.le_refl _) (Obj.cells #[.string ⟨#[]⟩,.string ⟨#[]⟩,.int .i64 0,.int .i64 0,.int .i64 0,.int .i64 0,.slice none 0 0,.nilFunc,.nilFunc,.slice none 0 0,.nilFunc,.nilFunc] 54))
    have ptX_1:=ptX_0.below ((Below.refl W.heap.size W).alloc (Nat.le_refl _) (Obj.cells #[.string ⟨#[]⟩,.string ⟨#[]⟩,.int .i64 0,.int .i64 0,.int .i64 0,.int .i64 0,.slice none 0 0,.nilFunc,.nilFunc,.slice none 0 0,.nilFunc,.nilFunc] 54))
    have ptY_1:EvtR.Pt W.heap.size 12 (W.alloc (Obj.cells #[.string ⟨#[]⟩,.string ⟨#[]⟩,.int .i64 0,.int .i64 0,.int .i64 0,.int .i64 0,.slice none 0 0,.nilFunc,.nilFunc,.slice none 0 0,.nilFunc,.nilFunc] 54)):=StR.pt_new W [.string ⟨#[]⟩,.string ⟨#[]⟩,.int .i64 0,.int .i64 0,.int .i64 0,.int .i64 0,.slice none 0 0,.nilFunc,.nilFunc,.slice none 0 0,.nilFunc,.nilFunc] 54
    refine hK.out _ _ hh1 (fun _=>?_)
    clear hK K
    try simp only [Act.put,SL]
    generalize (W.alloc (Obj.cells #[.string ⟨#[]⟩,.string ⟨#[]⟩,.int .i64 0,.int .i64 0,.int .i64 0,.int .i64 0,.slice none 0 0,.nilFunc,.nilFunc,.slice none 0 0,.nilFunc,.nilFunc] 54))=k1 at *
    obtain ⟨bY,hbYx⟩:∃z,z=W.heap.size:=⟨_,rfl⟩
    rw [←hbYx] at hloY ptY_1 hneXY ⊢
    exact N4_5.out bX bY k1 ⟨hh1,hloX,ptX_1,hloY,ptY_1,hneXY,trivial⟩
  ·rintro W ⟨hS0,_⟩
   refine wpAnyH_ready (rs:=[3,4,5]) (by kernel_rfl) (by simp) ?_
   refine AllReadyH.cons (o:=⟨some 11,.call {callee:=Callee.value (.func 15),args:=#[.tmp 10],argTypes:=#[26]},54,"l07_window.go:262",#[⟨2,.data⟩,⟨1,.chain⟩],none⟩) rfl (fun K hK=>?_) (AllReadyH.cons (o:=⟨some 5,.alloc 54,0,"l07_window.go:262",#[],none⟩) rfl (fun K hK=>?_) (AllReadyH.cons (o:=⟨some 6,.alloc 54,0,"l07_window.go:262",#[],none⟩) rfl (fun K hK=>?_) AllReadyH.nil))
   ·go_simp
    go_at_call 15
    refine (HUB.out _).mono ?_
    rintro e t1 ⟨rfl,hq1⟩
    try go_wp2_with fail
    have hh1:=JX.below (W0:=W0) (bA:=w.heap.size) (bB:=w.heap.size+1) (bR:=w.heap.size+1+1) (a1:=a1) (m1:=m1) (mo1:=mo1) (ev1:=ev1) (su1:=su1) (mx1:=mx1) (ta1:=ta1) (tl1:=tl1) (tc1:=tc1) (ha1:=ha1) (hl1:=hl1) (hc1:=hc1) (a2:=a2) (m2:=m2) (mo2:=mo2) (ev2:=ev2) (su2:=su2) (mx2:=mx2) (ta2:=ta2) (tl2:=tl2) (tc2:=tc2) (ha2:=ha2) (hl2:=hl2) (hc2:=hc2) hS0 hq1
    refine hK.out _ _ hh1 (fun _=>?_)
    clear hK K
    try simp only [Act.put,SL]
    exact N1_3.out t1 ⟨hh1,trivial⟩
   ·go_simp
    try go_wp2_with fail
    have hloX:W0.heap.size≤W.heap.size:=(hS0).1.size
    have hh1:=JX.below (W0:=W0) (bA:=w.heap.size) (bB:=w.heap.size+1) (bR:=w.heap.size+1+1) (a1:=a1) (m1:=m1) (mo1:=mo1) (ev1:=ev1) (su1:=su1) (mx1:=mx1) (ta1:=ta1) (tl1:=tl1) (tc1:=tc1) (ha1:=ha1) (hl1:=hl1) (hc1:=hc1) (a2:=a2) (m2:=m2) (mo2:=mo2) (ev2:=ev2) (su2:=su2) (mx2:=mx2) (ta2:=ta2) (tl2:=tl2) (tc2:=tc2) (ha2:=ha2) (hl2:=hl2) (hc2:=hc2) hS0 ((Below.refl W.heap.size W).alloc (Nat.le_refl _) (Obj.cells #[.string ⟨#[]⟩,.string ⟨#[]⟩,.int .i64 0,.int .i64 0,.int .i64 0,.int .i64 0,.slice none 0 0,.nilFunc,.nilFunc,.slice none 0 0,.nilFunc,.nilFunc] 54))
    have ptX_1:EvtR.Pt W.heap.size 12 (W.alloc (Obj.cells #[.string ⟨#[]⟩,.string ⟨#[]⟩,.int .i64 0,.int .i64 0,.int .i64 0,.int .i64 0,.slice none 0 0,.nilFunc,.nilFunc,.slice none 0 0,.nilFunc,.nilFunc] 54)):=StR.pt_new W [.string ⟨#[]⟩,.string ⟨#[]⟩,.int .i64 0,.int .i64 0,.int .i64 0,.int .i64 0,.slice none 0 0,.nilFunc,.nilFunc,.slice none 0 0,.nilFunc,.nilFunc] 54
    refine hK.out _ _ hh1 (fun _=>?_)
    clear hK K
    try simp only [Act.put,SL]
    generalize (W.alloc (Obj.cells #[.string ⟨#[]⟩,.string ⟨#[]⟩,.int .i64 0,.int .i64 0,.int .i64 0,.int .i64 0,.slice none 0 0,.nilFunc,.nilFunc,.slice none 0 0,.nilFunc,.nilFunc] 54))=k1 at *
    obtain ⟨bX,hbXx⟩:∃z,z=W.heap.size:=⟨_,rfl⟩
    rw [←hbXx] at hloX ptX_1 ⊢
    exact N1_4.out bX k1 ⟨hh1,hloX,ptX_1,trivial⟩
   ·go_simp
    try go_wp2_with fail
    have hloY:W0.heap.size≤W.heap.size:=(hS0).1.size
    have hh1:=JX.below (W0:=W0) (bA:=w.heap.size) (bB:=w.heap.size+1) (bR:=w.heap.size+1+1) (a1:=a1) (m1:=m1) (mo1:=mo1) (ev1:=ev1) (su1:=su1) (mx1:=mx1) (ta1:=ta1) (tl1:=tl1) (tc1:=tc1) (ha1:=ha1) (hl1:=hl1) (hc1:=hc1) (a2:=a2) (m2:=m2) (mo2:=mo2) (ev2:=ev2) (su2:=su2) (mx2:=mx2) (ta2:=ta2) (tl2:=tl2) (tc2:=tc2) (ha2:=ha2) (hl2:=hl2) (hc2:=hc2) hS0 ((Below.refl W.heap.size W).alloc (Nat.le_refl _) (Obj.cells #[.string ⟨#[]⟩,.string ⟨#[]⟩,.int .i64 0,.int .i64 0,.int .i64 0,.int .i64 0,.slice none 0 0,.nilFunc,.nilFunc,.slice none 0 0,.nilFunc,.nilFunc] 54))
    have ptY_1:EvtR.Pt W.heap.size 12 (W.alloc (Obj.cells #[.string ⟨#[]⟩,.string ⟨#[]⟩,.int .i64 0,.int .i64 0,.int .i64 0,.int .i64 0,.slice none 0 0,.nilFunc,.nilFunc,.slice none 0 0,.nilFunc,.nilFunc] 54)):=StR.pt_new W [.string ⟨#[]⟩,.string ⟨#[]⟩,.int .i64 0,.int .i64 0,.int .i64 0,.int .i64 0,.slice none 0 0,.nilFunc,.nilFunc,.slice none 0 0,.nilFunc,.nilFunc] 54
    refine hK.out _ _ hh1 (fun _=>?_)
    clear hK K
    try simp only [Act.put,SL]
    generalize (W.alloc (Obj.cells #[.string ⟨#[]⟩,.string ⟨#[]⟩,.int .i64 0,.int .i64 0,.int .i64 0,.int .i64 0,.slice none 0 0,.nilFunc,.nilFunc,.slice none 0 0,.nilFunc,.nilFunc] 54))=k1 at *
    obtain ⟨bY,hbYx⟩:∃z,z=W.heap.size:=⟨_,rfl⟩
    rw [←hbYx] at hloY ptY_1 ⊢
    exact N1_5.out bY k1 ⟨hh1,hloY,ptY_1,trivial⟩
  ·rintro bX bY W ⟨hS0,hloX,ptX_0,hloY,ptY_0,hneXY,_⟩
   refine rd 1 (⟨some 9,.call {callee:=Callee.value (.func 15),args:=#[.tmp 8],argTypes:=#[26]},54,"l07_window.go:262",#[⟨0,.data⟩],none⟩) (fun K hK=>?_)
   go_simp
   go_at_call 15
   refine (HUA.out _).mono ?_
   rintro e t1 ⟨rfl,hq1⟩
   try go_wp2_with fail
   have hh1:=JX.below (W0:=W0) (bA:=w.heap.size) (bB:=w.heap.size+1) (bR:=w.heap.size+1+1) (a1:=a1) (m1:=m1) (mo1:=mo1) (ev1:=ev1) (su1:=su1) (mx1:=mx1) (ta1:=ta1) (tl1:=tl1) (tc1:=tc1) (ha1:=ha1) (hl1:=hl1) (hc1:=hc1) (a2:=a2) (m2:=m2) (mo2:=mo2) (ev2:=ev2) (su2:=su2) (mx2:=mx2) (ta2:=ta2) (tl2:=tl2) (tc2:=tc2) (ha2:=ha2) (hl2:=hl2) (hc2:=hc2) hS0 hq1
   have ptX_1:=ptX_0.below hq1
   have ptY_1:=ptY_0.below hq1
   refine hK.out _ _ hh1 (fun _=>?_)
   clear hK K
   try simp only [Act.put,SL]
   exact N1_4_5.out bX bY t1 ⟨hh1,hloX,ptX_1,hloY,ptY_1,hneXY,trivial⟩
  ·rintro bY W ⟨hS0,hloY,ptY_0,_⟩
   refine wpAnyH_ready (rs:=[3,4]) (by kernel_rfl) (by simp) ?_
   refine AllReadyH.cons (o:=⟨some 11,.call {callee:=Callee.value (.func 15),args:=#[.tmp 10],argTypes:=#[26]},54,"l07_window.go:262",#[⟨2,.data⟩,⟨1,.chain⟩],none⟩) rfl (fun K hK=>?_) (AllReadyH.cons (o:=⟨some 5,.alloc 54,0,"l07_window.go:262",#[],none⟩) rfl (fun K hK=>?_) AllReadyH.nil)
   ·go_simp
    go_at_call 15
    refine (HUB.out _).mono ?_
    rintro e t1 ⟨rfl,hq1⟩
    try go_wp2_with fail
    have hh1:=JX.below (W0:=W0) (bA:=w.heap.size) (bB:=w.heap.size+1) (bR:=w.heap.size+1+1) (a1:=a1) (m1:=m1) (mo1:=mo1) (ev1:=ev1) (su1:=su1) (mx1:=mx1) (ta1:=ta1) (tl1:=tl1) (tc1:=tc1) (ha1:=ha1) (hl1:=hl1) (hc1:=hc1) (a2:=a2) (m2:=m2) (mo2:=mo2) (ev2:=ev2) (su2:=su2) (mx2:=mx2) (ta2:=ta2) (tl2:=tl2) (tc2:=tc2) (ha2:=ha2) (hl2:=hl2) (hc2:=hc2) hS0 hq1
    have ptY_1:=ptY_0.below hq1
    refine hK.out _ _ hh1 (fun _=>?_)
    clear hK K
    try simp only [Act.put,SL]
    exact N1_3_5.out bY t1 ⟨hh1,hloY,ptY_1,trivial⟩
   ·go_simp
    try go_wp2_with fail
    have hneYX:bY≠W.heap.size:=by have:=ptY_0.lt;omega
    have hloX:W0.heap.size≤W.heap.size:=(hS0).1.size
    have hh1:=JX.below (W0:=W0) (bA:=w.heap.size) (bB:=w.heap.size+1) (bR:=w.heap.size+1+1) (a1:=a1) (m1:=m1) (mo1:=mo1) (ev1:=ev1) (su1:=su1) (mx1:=mx1) (ta1:=ta1) (tl1:=tl1) (tc1:=tc1) (ha1:=ha1) (hl1:=hl1) (hc1:=hc1) (a2:=a2) (m2:=m2) (mo2:=mo2) (ev2:=ev2) (su2:=su2) (mx2:=mx2) (ta2:=ta2) (tl2:=tl2) (tc2:=tc2) (ha2:=ha2) (hl2:=hl2) (hc2:=hc2) hS0 ((Below.refl W.heap.size W).alloc (Nat.le_refl _) (Obj.cells #[.string ⟨#[]⟩,.string ⟨#[]⟩,.int .i64 0,.int .i64 0,.int .i64 0,.int .i64 0,.slice none 0 0,.nilFunc,.nilFunc,.slice none 0 0,.nilFunc,.nilFunc] 54))
    have ptY_1:=ptY_0.below ((Below.refl W.heap.size W).alloc (Nat.le_refl _) (Obj.cells #[.string ⟨#[]⟩,.string ⟨#[]⟩,.int .i64 0,.int .i64 0,.int .i64 0,.int .i64 0,.slice none 0 0,.nilFunc,.nilFunc,.slice none 0 0,.nilFunc,.nilFunc] 54))
    have ptX_1:EvtR.Pt W.heap.size 12 (W.alloc (Obj.cells #[.string ⟨#[]⟩,.string ⟨#[]⟩,.int .i64 0,.int .i64 0,.int .i64 0,.int .i64 0,.slice none 0 0,.nilFunc,.nilFunc,.slice none 0 0,.nilFunc,.nilFunc] 54)):=StR.pt_new W [.string ⟨#[]⟩,.string ⟨#[]⟩,.int .i64 0,.int .i64 0,.int .i64 0,.int .i64 0,.slice none 0 0,.nilFunc,.nilFunc,.slice none 0 0,.nilFunc,.nilFunc] 54
    refine hK.out _ _ hh1 (fun _=>?_)
    clear hK K
    try simp only [Act.put,SL]
    generalize (W.alloc (Obj.cells #[.string ⟨#[]⟩,.string ⟨#[]⟩,.int .i64 0,.int .i64 0,.int .i64 0,.int .i64 0,.slice none 0 0,.nilFunc,.nilFunc,.slice none 0 0,.nilFunc,.nilFunc] 54))=k1 at *
    obtain ⟨bX,hbXx⟩:∃z,z=W.heap.size:=⟨_,rfl⟩
    rw [←hbXx] at hloX ptX_1 hneYX ⊢
    exact N1_4_5.out bX bY k1 ⟨hh1,hloX,ptX_1,hloY,ptY_1,(fun e=>hneYX e.symm),trivial⟩
  ·rintro bX W ⟨hS0,hloX,ptX_0,_⟩
   refine wpAnyH_ready (rs:=[3,5]) (by kernel_rfl) (by simp) ?_
   refine AllReadyH.cons (o:=⟨some 11,.call {callee:=Callee.value (.func 15),args:=#[.tmp 10],argTypes:=#[26]},54,"l07_window.go:262",#[⟨2,.data⟩,⟨1,.chain⟩],none⟩) rfl (fun K hK=>?_) (AllReadyH.cons (o:=⟨some 6,.alloc 54,0,"l07_window.go:262",#[],none⟩) rfl (fun K hK=>?_) AllReadyH.nil)
   ·go_simp
    go_at_call 15
    refine (HUB.out _).mono ?_
    rintro e t1 ⟨rfl,hq1⟩
    try go_wp2_with fail
    have hh1:=JX.below (W0:=W0) (bA:=w.heap.size) (bB:=w.heap.size+1) (bR:=w.heap.size+1+1) (a1:=a1) (m1:=m1) (mo1:=mo1) (ev1:=ev1) (su1:=su1) (mx1:=mx1) (ta1:=ta1) (tl1:=tl1) (tc1:=tc1) (ha1:=ha1) (hl1:=hl1) (hc1:=hc1) (a2:=a2) (m2:=m2) (mo2:=mo2) (ev2:=ev2) (su2:=su2) (mx2:=mx2) (ta2:=ta2) (tl2:=tl2) (tc2:=tc2) (ha2:=ha2) (hl2:=hl2) (hc2:=hc2) hS0 hq1
    have ptX_1:=ptX_0.below hq1
    refine hK.out _ _ hh1 (fun _=>?_)
    clear hK K
    try simp only [Act.put,SL]
    exact N1_3_4.out bX t1 ⟨hh1,hloX,ptX_1,trivial⟩
   ·go_simp
    try go_wp2_with fail
    have hneXY:bX≠W.heap.size:=by have:=ptX_0.lt;omega
    have hloY:W0.heap.size≤W.heap.size:=(hS0).1.size
    have hh1:=JX.below (W0:=W0) (bA:=w.heap.size) (bB:=w.heap.size+1) (bR:=w.heap.size+1+1) (a1:=a1) (m1:=m1) (mo1:=mo1) (ev1:=ev1) (su1:=su1) (mx1:=mx1) (ta1:=ta1) (tl1:=tl1) (tc1:=tc1) (ha1:=ha1) (hl1:=hl1) (hc1:=hc1) (a2:=a2) (m2:=m2) (mo2:=mo2) (ev2:=ev2) (su2:=su2) (mx2:=mx2) (ta2:=ta2) (tl2:=tl2) (tc2:=tc2) (ha2:=ha2) (hl2:=hl2) (hc2:=hc2) hS0 ((Below.refl W.heap.size W).alloc (Nat.le_refl _) (Obj.cells #[.string ⟨#[]⟩,.string ⟨#[]⟩,.int .i64 0,.int .i64 0,.int .i64 0,.int .i64 0,.slice none 0 0,.nilFunc,.nilFunc,.slice none 0 0,.nilFunc,.nilFunc] 54))
    have ptX_1:=ptX_0.below ((Below.refl W.heap.size W).alloc (Nat.le_refl _) (Obj.cells #[.string ⟨#[]⟩,.string ⟨#[]⟩,.int .i64 0,.int .i64 0,.int .i64 0,.int .i64 0,.slice none 0 0,.nilFunc,.nilFunc,.slice none 0 0,.nilFunc,.nilFunc] 54))
    have ptY_1:EvtR.Pt W.heap.size 12 (W.alloc (Obj.cells #[.string ⟨#[]⟩,.string ⟨#[]⟩,.int .i64 0,.int .i64 0,.int .i64 0,.int .i64 0,.slice none 0 0,.nilFunc,.nilFunc,.slice none 0 0,.nilFunc,.nilFunc] 54)):=StR.pt_new W [.string ⟨#[]⟩,.string ⟨#[]⟩,.int .i64 0,.int .i64 0,.int .i64 0,.int .i64 0,.slice none 0 0,.nilFunc,.nilFunc,.slice none 0 0,.nilFunc,.nilFunc] 54
    refine hK.out _ _ hh1 (fun _=>?_)
    clear hK K
    try simp only [Act.put,SL]
    generalize (W.alloc (Obj.cells #[.string ⟨#[]⟩,.string ⟨#[]⟩,.int .i64 0,.int .i64 0,.int .i64 0,.int .i64 0,.slice none 0 0,.nilFunc,.nilFunc,.slice none 0 0,.nilFunc,.nilFunc] 54))=k1 at *
    obtain ⟨bY,hbYx⟩:∃z,z=W.heap.size:=⟨_,rfl⟩
    rw [←hbYx] at hloY ptY_1 hneXY ⊢
    exact N1_4_5.out bX bY k1 ⟨hh1,hloX,ptX_1,hloY,ptY_1,hneXY,trivial⟩
  ·rintro W ⟨hS0,_⟩
   refine wpAnyH_ready (rs:=[4,5]) (by kernel_rfl) (by simp) ?_
   refine AllReadyH.cons (o:=⟨some 5,.alloc 54,0,"l07_window.go:262",#[],none⟩) rfl (fun K hK=>?_) (AllReadyH.cons (o:=⟨some 6,.alloc 54,0,"l07_window.go:262",#[],none⟩) rfl (fun K hK=>?_) AllReadyH.nil)
   ·go_simp
    try go_wp2_with fail
    have hloX:W0.heap.size≤W.heap.size:=(hS0).1.size
    have hh1:=JX.below (W0:=W0) (bA:=w.heap.size) (bB:=w.heap.size+1) (bR:=w.heap.size+1+1) (a1:=a1) (m1:=m1) (mo1:=mo1) (ev1:=ev1) (su1:=su1) (mx1:=mx1) (ta1:=ta1) (tl1:=tl1) (tc1:=tc1) (ha1:=ha1) (hl1:=hl1) (hc1:=hc1) (a2:=a2) (m2:=m2) (mo2:=mo2) (ev2:=ev2) (su2:=su2) (mx2:=mx2) (ta2:=ta2) (tl2:=tl2) (tc2:=tc2) (ha2:=ha2) (hl2:=hl2) (hc2:=hc2) hS0 ((Below.refl W.heap.size W).alloc (Nat.le_refl _) (Obj.cells #[.string ⟨#[]⟩,.string ⟨#[]⟩,.int .i64 0,.int .i64 0,.int .i64 0,.int .i64 0,.slice none 0 0,.nilFunc,.nilFunc,.slice none 0 0,.nilFunc,.nilFunc] 54))
    have ptX_1:EvtR.Pt W.heap.size 12 (W.alloc (Obj.cells #[.string ⟨#[]⟩,.string ⟨#[]⟩,.int .i64 0,.int .i64 0,.int .i64 0,.int .i64 0,.slice none 0 0,.nilFunc,.nilFunc,.slice none 0 0,.nilFunc,.nilFunc] 54)):=StR.pt_new W [.string ⟨#[]⟩,.string ⟨#[]⟩,.int .i64 0,.int .i64 0,.int .i64 0,.int .i64 0,.slice none 0 0,.nilFunc,.nilFunc,.slice none 0 0,.nilFunc,.nilFunc] 54
    refine hK.out _ _ hh1 (fun _=>?_)
    clear hK K
    try simp only [Act.put,SL]
    generalize (W.alloc (Obj.cells #[.string ⟨#[]⟩,.string ⟨#[]⟩,.int .i64 0,.int .i64 0,.int .i64 0,.int .i64 0,.slice none 0 0,.nilFunc,.nilFunc,.slice none 0 0,.nilFunc,.nilFunc] 54))=k1 at *
    obtain ⟨bX,hbXx⟩:∃z,z=W.heap.size:=⟨_,rfl⟩
    rw [←hbXx] at hloX ptX_1 ⊢
    exact N1_3_4.out bX k1 ⟨hh1,hloX,ptX_1,trivial⟩
   ·go_simp
    try go_wp2_with fail
    have hloY:W0.heap.size≤W.heap.size:=(hS0).1.size
    have hh1:=JX.below (W0:=W0) (bA:=w.heap.size) (bB:=w.heap.size+1) (bR:=w.heap.size+1+1) (a1:=a1) (m1:=m1) (mo1:=mo1) (ev1:=ev1) (su1:=su1) (mx1:=mx1) (ta1:=ta1) (tl1:=tl1) (tc1:=tc1) (ha1:=ha1) (hl1:=hl1) (hc1:=hc1) (a2:=a2) (m2:=m2) (mo2:=mo2) (ev2:=ev2) (su2:=su2) (mx2:=mx2) (ta2:=ta2) (tl2:=tl2) (tc2:=tc2) (ha2:=ha2) (hl2:=hl2) (hc2:=hc2) hS0 ((Below.refl W.heap.size W).alloc (Nat.le_refl _) (Obj.cells #[.string ⟨#[]⟩,.string ⟨#[]⟩,.int .i64 0,.int .i64 0,.int .i64 0,.int .i64 0,.slice none 0 0,.nilFunc,.nilFunc,.slice none 0 0,.nilFunc,.nilFunc] 54))
    have ptY_1:EvtR.Pt W.heap.size 12 (W.alloc (Obj.cells #[.string ⟨#[]⟩,.string ⟨#[]⟩,.int .i64 0,.int .i64 0,.int .i64 0,.int .i64 0,.slice none 0 0,.nilFunc,.nilFunc,.slice none 0 0,.nilFunc,.nilFunc] 54)):=StR.pt_new W [.string ⟨#[]⟩,.string ⟨#[]⟩,.int .i64 0,.int .i64 0,.int .i64 0,.int .i64 0,.slice none 0 0,.nilFunc,.nilFunc,.slice none 0 0,.nilFunc,.nilFunc] 54
    refine hK.out _ _ hh1 (fun _=>?_)
    clear hK K
    try simp only [Act.put,SL]
    generalize (W.alloc (Obj.cells #[.string ⟨#[]⟩,.string ⟨#[]⟩,.int .i64 0,.int .i64 0,.int .i64 0,.int .i64 0,.slice none 0 0,.nilFunc,.nilFunc,.slice none 0 0,.nilFunc,.nilFunc] 54))=k1 at *
    obtain ⟨bY,hbYx⟩:∃z,z=W.heap.size:=⟨_,rfl⟩
    rw [←hbYx] at hloY ptY_1 ⊢
    exact N1_3_5.out bY k1 ⟨hh1,hloY,ptY_1,trivial⟩
  ·rintro bX bY W ⟨hS0,hloX,ptX_0,hloY,ptY_0,hneXY,_⟩
   refine rd 3 (⟨some 11,.call {callee:=Callee.value (.func 15),args:=#[.tmp 10],argTypes:=#[26]},54,"l07_window.go:262",#[⟨2,.data⟩,⟨1,.chain⟩],none⟩) (fun K hK=>?_)
   go_simp
   go_at_call 15
   refine (HUB.out _).mono ?_
   rintro e t1 ⟨rfl,hq1⟩
   try go_wp2_with fail
   have hh1:=JX.below (W0:=W0) (bA:=w.heap.size) (bB:=w.heap.size+1) (bR:=w.heap.size+1+1) (a1:=a1) (m1:=m1) (mo1:=mo1) (ev1:=ev1) (su1:=su1) (mx1:=mx1) (ta1:=ta1) (tl1:=tl1) (tc1:=tc1) (ha1:=ha1) (hl1:=hl1) (hc1:=hc1) (a2:=a2) (m2:=m2) (mo2:=mo2) (ev2:=ev2) (su2:=su2) (mx2:=mx2) (ta2:=ta2) (tl2:=tl2) (tc2:=tc2) (ha2:=ha2) (hl2:=hl2) (hc2:=hc2) hS0 hq1
   have ptX_1:=ptX_0.below hq1
   have ptY_1:=ptY_0.below hq1
   refine hK.out _ _ hh1 (fun _=>?_)
   clear hK K
   try simp only [Act.put,SL]
   exact N1_3_4_5.out bX bY t1 ⟨hh1,hloX,ptX_1,hloY,ptY_1,hneXY,trivial⟩
  ·rintro bY W ⟨hS0,hloY,ptY_0,_⟩
   refine rd 4 (⟨some 5,.alloc 54,0,"l07_window.go:262",#[],none⟩) (fun K hK=>?_)
   go_simp
   try go_wp2_with fail
   have hneYX:bY≠W.heap.size:=by have:=ptY_0.lt;omega
   have hloX:W0.heap.size≤W.heap.size:=(hS0).1.size
   have hh1:=JX.below (W0:=W0) (bA:=w.heap.size) (bB:=w.heap.size+1) (bR:=w.heap.size+1+1) (a1:=a1) (m1:=m1) (mo1:=mo1) (ev1:=ev1) (su1:=su1) (mx1:=mx1) (ta1:=ta1) (tl1:=tl1) (tc1:=tc1) (ha1:=ha1) (hl1:=hl1) (hc1:=hc1) (a2:=a2) (m2:=m2) (mo2:=mo2) (ev2:=ev2) (su2:=su2) (mx2:=mx2) (ta2:=ta2) (tl2:=tl2) (tc2:=tc2) (ha2:=ha2) (hl2:=hl2) (hc2:=hc2) hS0 ((Below.refl W.heap.size W).alloc (Nat.le_refl _) (Obj.cells #[.string ⟨#[]⟩,.string ⟨#[]⟩,.int .i64 0,.int .i64 0,.int .i64 0,.int .i64 0,.slice none 0 0,.nilFunc,.nilFunc,.slice none 0 0,.nilFunc,.nilFunc] 54))
   have ptY_1:=ptY_0.below ((Below.refl W.heap.size W).alloc (Nat.le_refl _) (Obj.cells #[.string ⟨#[]⟩,.string ⟨#[]⟩,.int .i64 0,.int .i64 0,.int .i64 0,.int .i64 0,.slice none 0 0,.nilFunc,.nilFunc,.slice none 0 0,.nilFunc,.nilFunc] 54))
   have ptX_1:EvtR.Pt W.heap.size 12 (W.alloc (Obj.cells #[.string ⟨#[]⟩,.string ⟨#[]⟩,.int .i64 0,.int .i64 0,.int .i64 0,.int .i64 0,.slice none 0 0,.nilFunc,.nilFunc,.slice none 0 0,.nilFunc,.nilFunc] 54)):=StR.pt_new W [.string ⟨#[]⟩,.string ⟨#[]⟩,.int .i64 0,.int .i64 0,.int .i64 0,.int .i64 0,.slice none 0 0,.nilFunc,.nilFunc,.slice none 0 0,.nilFunc,.nilFunc] 54
   refine hK.out _ _ hh1 (fun _=>?_)
   clear hK K
   try simp only [Act.put,SL]
   generalize (W.alloc (Obj.cells #[.string ⟨#[]⟩,.string ⟨#[]⟩,.int .i64 0,.int .i64 0,.int .i64 0,.int .i64 0,.slice none 0 0,.nilFunc,.nilFunc,.slice none 0 0,.nilFunc,.nilFunc] 54))=k1 at *
   obtain ⟨bX,hbXx⟩:∃z,z=W.heap.size:=⟨_,rfl⟩
   rw [←hbXx] at hloX ptX_1 hneYX ⊢
   exact N1_3_4_5.out bX bY k1 ⟨hh1,hloX,ptX_1,hloY,ptY_1,(fun e=>hneYX e.symm),trivial⟩
  ·rintro bX W ⟨hS0,hloX,ptX_0,_⟩
   refine rd 5 (⟨some 6,.alloc 54,0,"l07_window.go:262",#[],none⟩) (fun K hK=>?_)
   go_simp
   try go_wp2_with fail
   have hneXY:bX≠W.heap.size:=by have:=ptX_0.lt;omega
   have hloY:W0.heap.size≤W.heap.size:=(hS0).1.size
   have hh1:=JX.below (W0:=W0) (bA:=w.heap.size) (bB:=w.heap.size+1) (bR:=w.heap.size+1+1) (a1:=a1) (m1:=m1) (mo1:=mo1) (ev1:=ev1) (su1:=su1) (mx1:=mx1) (ta1:=ta1) (tl1:=tl1) (tc1:=tc1) (ha1:=ha1) (hl1:=hl1) (hc1:=hc1) (a2:=a2) (m2:=m2) (mo2:=mo2) (ev2:=ev2) (su2:=su2) (mx2:=mx2) (ta2:=ta2) (tl2:=tl2) (tc2:=tc2) (ha2:=ha2) (hl2:=hl2) (hc2:=hc2) hS0 ((Below.refl W.heap.size W).alloc (Nat.le_refl _) (Obj.cells #[.string ⟨#[]⟩,.string ⟨#[]⟩,.int .i64 0,.int .i64 0,.int .i64 0,.int .i64 0,.slice none 0 0,.nilFunc,.nilFunc,.slice none 0 0,.nilFunc,.nilFunc] 54))
   have ptX_1:=ptX_0.below ((Below.refl W.heap.size W).alloc (Nat.le_refl _) (Obj.cells #[.string ⟨#[]⟩,.string ⟨#[]⟩,.int .i64 0,.int .i64 0,.int .i64 0,.int .i64 0,.slice none 0 0,.nilFunc,.nilFunc,.slice none 0 0,.nilFunc,.nilFunc] 54))
   have ptY_1:EvtR.Pt W.heap.size 12 (W.alloc (Obj.cells #[.string ⟨#[]⟩,.string ⟨#[]⟩,.int .i64 0,.int .i64 0,.int .i64 0,.int .i64 0,.slice none 0 0,.nilFunc,.nilFunc,.slice none 0 0,.nilFunc,.nilFunc] 54)):=StR.pt_new W [.string ⟨#[]⟩,.string ⟨#[]⟩,.int .i64 0,.int .i64 0,.int .i64 0,.int .i64 0,.slice none 0 0,.nilFunc,.nilFunc,.slice none 0 0,.nilFunc,.nilFunc] 54
   refine hK.out _ _ hh1 (fun _=>?_)
   clear hK K
   try simp only [Act.put,SL]
   generalize (W.alloc (Obj.cells #[.string ⟨#[]⟩,.string ⟨#[]⟩,.int .i64 0,.int .i64 0,.int .i64 0,.int .i64 0,.slice none 0 0,.nilFunc,.nilFunc,.slice none 0 0,.nilFunc,.nilFunc] 54))=k1 at *
   obtain ⟨bY,hbYx⟩:∃z,z=W.heap.size:=⟨_,rfl⟩
   rw [←hbYx] at hloY ptY_1 hneXY ⊢
   exact N1_3_4_5.out bX bY k1 ⟨hh1,hloX,ptX_1,hloY,ptY_1,hneXY,trivial⟩
  ·rintro bX bY W ⟨hS0,hloX,ptX_0,hloY,ptY_0,hneXY,_⟩
   refine rd 6 (⟨none,.store 54 (.tmp 5) (.tmp 9),0,"l07_window.go:262",#[⟨4,.data⟩,⟨1,.data⟩,⟨3,.chain⟩,⟨0,.phase⟩,⟨1,.phase⟩,{on:=2,ground:=Ground.textOnly Departure.lateStores},{on:=3,ground:=Ground.textOnly Departure.lateStoresUnsure},⟨4,.phase⟩,⟨5,.phase⟩],none⟩) (fun K hK=>?_)
   have zl1:=ptX_0.lt
   obtain ⟨e1_0,u1_0⟩:=ptX_0.has 0 (by omega)
   have w1_0:=ptX_0.free 0 (by omega)
   obtain ⟨e1_1,u1_1⟩:=ptX_0.has 1 (by omega)
   have w1_1:=ptX_0.free 1 (by omega)
   obtain ⟨e1_2,u1_2⟩:=ptX_0.has 2 (by omega)
   have w1_2:=ptX_0.free 2 (by omega)
   obtain ⟨e1_3,u1_3⟩:=ptX_0.has 3 (by omega)
   have w1_3:=ptX_0.free 3 (by omega)
   obtain ⟨e1_4,u1_4⟩:=ptX_0.has 4 (by omega)
   have w1_4:=ptX_0.free 4 (by omega)
   obtain ⟨e1_5,u1_5⟩:=ptX_0.has 5 (by omega)
   have w1_5:=ptX_0.free 5 (by omega)
   obtain ⟨e1_6,u1_6⟩:=ptX_0.has 6 (by omega)
   have w1_6:=ptX_0.free 6 (by omega)
   obtain ⟨e1_7,u1_7⟩:=ptX_0.has 7 (by omega)
   have w1_7:=ptX_0.free 7 (by omega)
   obtain ⟨e1_8,u1_8⟩:=ptX_0.has 8 (by omega)
   have w1_8:=ptX_0.free 8 (by omega)
   obtain ⟨e1_9,u1_9⟩:=ptX_0.has 9 (by omega)
   have w1_9:=ptX_0.free 9 (by omega)
   obtain ⟨e1_10,u1_10⟩:=ptX_0.has 10 (by omega)
   have w1_10:=ptX_0.free 10 (by omega)
   obtain ⟨e1_11,u1_11⟩:=ptX_0.has 11 (by omega)
   have w1_11:=ptX_0.free 11 (by omega)
   go_simp
   try go_wp2_with fail
   have hg1:=StR.stL_grown bX [.string a1,.string m1,.int .i64 mo1,.int .i64 ev1,.int .i64 su1,.int .i64 mx1,.slice ta1 tl1 tc1,.func (.func 60) #[] #[],.func (.func 61) #[] #[],.slice ha1 hl1 hc1,.func (.func 62) #[] #[],.func (.func 63) #[] #[]] 0 W
   have hbX_1:=StR.stL_blk (vs:=[.string a1,.string m1,.int .i64 mo1,.int .i64 ev1,.int .i64 su1,.int .i64 mx1,.slice ta1 tl1 tc1,.func (.func 60) #[] #[],.func (.func 61) #[] #[],.slice ha1 hl1 hc1,.func (.func 62) #[] #[],.func (.func 63) #[] #[]]) (W:=W) ptX_0 (by simp)
   have hh1:=@JX.grown W0 (w.heap.size) (w.heap.size+1) (w.heap.size+1+1) a1 m1 mo1 ev1 su1 mx1 ta1 tl1 tc1 ha1 hl1 hc1 a2 m2 mo2 ev2 su2 mx2 ta2 tl2 tc2 ha2 hl2 hc2 _ _ _ hS0 hloX a0 b0 r0 hg1
   have ptY_1:=StR.pt_far ptY_0 hg1 (fun e=>hneXY e.symm)
   simp only [StR.stL,Nat.zero_add,Nat.reduceAdd] at hh1 hg1 hbX_1 ptY_1
   refine hK.out _ _ hh1 (fun _=>?_)
   clear hK K
   try simp only [Act.put,SL]
   generalize ((((((((((((W.setCell ⟨bX,0,none⟩ (.string a1)).setCell ⟨bX,1,none⟩ (.string m1)).setCell ⟨bX,2,none⟩ (.int .i64 mo1)).setCell ⟨bX,3,none⟩ (.int .i64 ev1)).setCell ⟨bX,4,none⟩ (.int .i64 su1)).setCell ⟨bX,5,none⟩ (.int .i64 mx1)).setCell ⟨bX,6,none⟩ (.slice ta1 tl1 tc1)).setCell ⟨bX,7,none⟩ (.func (.func 60) #[] #[])).setCell ⟨bX,8,none⟩ (.func (.func 61) #[] #[])).setCell ⟨bX,9,none⟩ (.slice ha1 hl1 hc1)).setCell ⟨bX,10,none⟩ (.func (.func 62) #[] #[])).setCell ⟨bX,11,none⟩ (.func (.func 63) #[] #[]))=k1 at *
   exact N1_3_4_5_6.out bX bY k1 ⟨hh1,hloX,hbX_1,hloY,ptY_1,hneXY,trivial⟩
  ·rintro bX bY W ⟨hS0,hloX,blkX_0,hloY,ptY_0,hneXY,_⟩
   refine rd 7 (⟨none,.store 54 (.tmp 6) (.tmp 11),0,"l07_window.go:262",#[⟨5,.data⟩,⟨3,.data⟩,⟨6,.chain⟩,⟨0,.phase⟩,⟨1,.phase⟩,⟨2,.phase⟩,⟨3,.phase⟩,⟨4,.phase⟩,⟨5,.phase⟩,⟨6,.phase⟩],none⟩) (fun K hK=>?_)
   have zl1:=ptY_0.lt
   obtain ⟨e1_0,u1_0⟩:=ptY_0.has 0 (by omega)
   have w1_0:=ptY_0.free 0 (by omega)
   obtain ⟨e1_1,u1_1⟩:=ptY_0.has 1 (by omega)
   have w1_1:=ptY_0.free 1 (by omega)
   obtain ⟨e1_2,u1_2⟩:=ptY_0.has 2 (by omega)
   have w1_2:=ptY_0.free 2 (by omega)
   obtain ⟨e1_3,u1_3⟩:=ptY_0.has 3 (by omega)
   have w1_3:=ptY_0.free 3 (by omega)
   obtain ⟨e1_4,u1_4⟩:=ptY_0.has 4 (by omega)
   have w1_4:=ptY_0.free 4 (by omega)
   obtain ⟨e1_5,u1_5⟩:=ptY_0.has 5 (by omega)
   have w1_5:=ptY_0.free 5 (by omega)
   obtain ⟨e1_6,u1_6⟩:=ptY_0.has 6 (by omega)
   have w1_6:=ptY_0.free 6 (by omega)
   obtain ⟨e1_7,u1_7⟩:=ptY_0.has 7 (by omega)
   have w1_7:=ptY_0.free 7 (by omega)
   obtain ⟨e1_8,u1_8⟩:=ptY_0.has 8 (by omega)
   have w1_8:=ptY_0.free 8 (by omega)
   obtain ⟨e1_9,u1_9⟩:=ptY_0.has 9 (by omega)
   have w1_9:=ptY_0.free 9 (by omega)
   obtain ⟨e1_10,u1_10⟩:=ptY_0.has 10 (by omega)
   have w1_10:=ptY_0.free 10 (by omega)
   obtain ⟨e1_11,u1_11⟩:=ptY_0.has 11 (by omega)
   have w1_11:=ptY_0.free 11 (by omega)
   go_simp
   try go_wp2_with fail
   have hg1:=StR.stL_grown bY [.string a2,.string m2,.int .i64 mo2,.int .i64 ev2,.int .i64 su2,.int .i64 mx2,.slice ta2 tl2 tc2,.func (.func 60) #[] #[],.func (.func 61) #[] #[],.slice ha2 hl2 hc2,.func (.func 62) #[] #[],.func (.func 63) #[] #[]] 0 W
   have hbY_1:=StR.stL_blk (vs:=[.string a2,.string m2,.int .i64 mo2,.int .i64 ev2,.int .i64 su2,.int .i64 mx2,.slice ta2 tl2 tc2,.func (.func 60) #[] #[],.func (.func 61) #[] #[],.slice ha2 hl2 hc2,.func (.func 62) #[] #[],.func (.func 63) #[] #[]]) (W:=W) ptY_0 (by simp)
   have hh1:=@JX.grown W0 (w.heap.size) (w.heap.size+1) (w.heap.size+1+1) a1 m1 mo1 ev1 su1 mx1 ta1 tl1 tc1 ha1 hl1 hc1 a2 m2 mo2 ev2 su2 mx2 ta2 tl2 tc2 ha2 hl2 hc2 _ _ _ hS0 hloY a0 b0 r0 hg1
   have blkX_1:=StR.blk_far blkX_0 hg1 hneXY
   simp only [StR.stL,Nat.zero_add,Nat.reduceAdd] at hh1 hg1 hbY_1 blkX_1
   refine hK.out _ _ hh1 (fun _=>?_)
   clear hK K
   try simp only [Act.put,SL]
   generalize ((((((((((((W.setCell ⟨bY,0,none⟩ (.string a2)).setCell ⟨bY,1,none⟩ (.string m2)).setCell ⟨bY,2,none⟩ (.int .i64 mo2)).setCell ⟨bY,3,none⟩ (.int .i64 ev2)).setCell ⟨bY,4,none⟩ (.int .i64 su2)).setCell ⟨bY,5,none⟩ (.int .i64 mx2)).setCell ⟨bY,6,none⟩ (.slice ta2 tl2 tc2)).setCell ⟨bY,7,none⟩ (.func (.func 60) #[] #[])).setCell ⟨bY,8,none⟩ (.func (.func 61) #[] #[])).setCell ⟨bY,9,none⟩ (.slice ha2 hl2 hc2)).setCell ⟨bY,10,none⟩ (.func (.func 62) #[] #[])).setCell ⟨bY,11,none⟩ (.func (.func 63) #[] #[]))=k1 at *
   refine wpAnyH_done (by kernel_rfl) ?_ _
   have HBX:=H_ blkX_1
   have HBY:=H_ hbY_1
   have HE:=H_ (show JX W0 w.heap.size (w.heap.size+1) (w.heap.size+1+1) a1 m1 mo1 ev1 su1 mx1 ta1 tl1 tc1 ha1 hl1 hc1 a2 m2 mo2 ev2 su2 mx2 ta2 tl2 tc2 ha2 hl2 hc2 k1 from hh1)
   try clear u1_11
   try clear u1_10
   try clear u1_9
   try clear u1_8
   try clear u1_7
   try clear u1_6
   try clear u1_5
   try clear u1_4
   try clear u1_3
   try clear u1_2
   try clear u1_1
   try clear u1_0
   try clear blkX_1
   try clear hh1
   try clear hbY_1
   try clear hg1
   try clear w1_11
   try clear w1_10
   try clear w1_9
   try clear w1_8
   try clear w1_7
   try clear w1_6
   try clear w1_5
   try clear w1_4
   try clear w1_3
   try clear w1_2
   try clear w1_1
   try clear w1_0
   try clear zl1
   go_wp2_with fail
   go_meet
   case rel=>exact ⟨_,_,rfl,rfl,HBX,HBY,HE⟩
 case rest =>
  obtain ⟨bX,bY,rfl,rfl,HBX,HBY,HE⟩:=hcut
  clear HX0 HX1 HUA HUB HW
  have HBW:=H_ (HB0.out.trans (HE.out.1.mono HB0.out.size))
  have x0:wc.cell? ⟨bX,0,none⟩=some (.string a1):=HBX.out.2 0 (by simp)
  have x1:wc.cell? ⟨bX,1,none⟩=some (.string m1):=HBX.out.2 1 (by simp)
  have x2:wc.cell? ⟨bX,2,none⟩=some (.int .i64 mo1):=HBX.out.2 2 (by simp)
  have x3:wc.cell? ⟨bX,3,none⟩=some (.int .i64 ev1):=HBX.out.2 3 (by simp)
  have x4:wc.cell? ⟨bX,4,none⟩=some (.int .i64 su1):=HBX.out.2 4 (by simp)
  have x5:wc.cell? ⟨bX,5,none⟩=some (.int .i64 mx1):=HBX.out.2 5 (by simp)
  have x6:wc.cell? ⟨bX,6,none⟩=some (.slice ta1 tl1 tc1):=HBX.out.2 6 (by simp)
  have x7:wc.cell? ⟨bX,7,none⟩=some (.func (.func 60) #[] #[]):=HBX.out.2 7 (by simp)
  have x8:wc.cell? ⟨bX,8,none⟩=some (.func (.func 61) #[] #[]):=HBX.out.2 8 (by simp)
  have x9:wc.cell? ⟨bX,9,none⟩=some (.slice ha1 hl1 hc1):=HBX.out.2 9 (by simp)
  have x10:wc.cell? ⟨bX,10,none⟩=some (.func (.func 62) #[] #[]):=HBX.out.2 10 (by simp)
  have x11:wc.cell? ⟨bX,11,none⟩=some (.func (.func 63) #[] #[]):=HBX.out.2 11 (by simp)
  have lx:=HBX.out.1
  cases r1
  ·go_wp2_with fail
   refine (HR1.out _ HBW.out).mono ?_
   rintro e w1 ⟨rfl,hb1⟩
   have HB1:=H_ (HBW.out.trans (hb1.mono HBW.out.size))
   have HE1:=H_ (HE.out.below hb1)
   clear hb1 HE
   clear x0 x1 x2 x3 x4 x5 x6 x7 x8 x9 x10 x11 lx
   have hp9:=HE1.out.pt
   have hl9:=hp9.lt
   obtain ⟨o0,r0⟩:=hp9.has 0 (by omega)
   have f0:=hp9.free 0 (by omega)
   obtain ⟨o1,r1⟩:=hp9.has 1 (by omega)
   have f1:=hp9.free 1 (by omega)
   obtain ⟨o2,r2⟩:=hp9.has 2 (by omega)
   have f2:=hp9.free 2 (by omega)
   obtain ⟨o3,r3⟩:=hp9.has 3 (by omega)
   have f3:=hp9.free 3 (by omega)
   obtain ⟨o4,r4⟩:=hp9.has 4 (by omega)
   have f4:=hp9.free 4 (by omega)
   obtain ⟨o5,r5⟩:=hp9.has 5 (by omega)
   have f5:=hp9.free 5 (by omega)
   obtain ⟨o6,r6⟩:=hp9.has 6 (by omega)
   have f6:=hp9.free 6 (by omega)
   obtain ⟨o7,r7⟩:=hp9.has 7 (by omega)
   have f7:=hp9.free 7 (by omega)
   obtain ⟨o8,r8⟩:=hp9.has 8 (by omega)
   have f8:=hp9.free 8 (by omega)
   have hgf:=StR.stL_grown (w.heap.size+1+1) [.string ⟨#[]⟩,.string ⟨#[]⟩,.int .i64 0,.int .i64 0,.int .i64 0,.int .i64 0,.slice none 0 0,.slice none 0 0,.int .i64 1] 0 w1
   have HBF:=H_ (HB1.out.grown hgf HB1.out.size (fun k e=>by simp only [Option.some.injEq] at e;omega))
   have HGF:=H_ hgf
   simp only [StR.stL,Nat.zero_add,Nat.reduceAdd] at HBF HGF
   clear hgf hp9
   go_wp2_with fail
   refine bodyPost_ret (v:=.agg #[.string ⟨#[]⟩,.string ⟨#[]⟩,.int .i64 0,.int .i64 0,.int .i64 0,.int .i64 0,.slice none 0 0,.slice none 0 0,.int .i64 1]) (by simp [results,Tryd.results5,go_sem,r0,r1,r2,r3,r4,r5,r6,r7,r8]) rfl ⟨.inl ⟨rfl,rfl⟩,HBF.out⟩
  go_wp2_with fail
  refine (HR1.out _ HBW.out).mono ?_
  rintro e w1 ⟨rfl,hb1⟩
  have HB1:=H_ (HBW.out.trans (hb1.mono HBW.out.size))
  have HE1:=H_ (HE.out.below hb1)
  have HX1':=H_ (HBX.out.below hb1)
  have HY1':=H_ (HBY.out.below hb1)
  clear hb1 HE HBX HBY HBW
  clear x0 x1 x2 x3 x4 x5 x6 x7 x8 x9 x10 x11 lx
  have y0:w1.cell? ⟨bY,0,none⟩=some (.string a2):=HY1'.out.2 0 (by simp)
  have y1:w1.cell? ⟨bY,1,none⟩=some (.string m2):=HY1'.out.2 1 (by simp)
  have y2:w1.cell? ⟨bY,2,none⟩=some (.int .i64 mo2):=HY1'.out.2 2 (by simp)
  have y3:w1.cell? ⟨bY,3,none⟩=some (.int .i64 ev2):=HY1'.out.2 3 (by simp)
  have y4:w1.cell? ⟨bY,4,none⟩=some (.int .i64 su2):=HY1'.out.2 4 (by simp)
  have y5:w1.cell? ⟨bY,5,none⟩=some (.int .i64 mx2):=HY1'.out.2 5 (by simp)
  have y6:w1.cell? ⟨bY,6,none⟩=some (.slice ta2 tl2 tc2):=HY1'.out.2 6 (by simp)
  have y7:w1.cell? ⟨bY,7,none⟩=some (.func (.func 60) #[] #[]):=HY1'.out.2 7 (by simp)
  have y8:w1.cell? ⟨bY,8,none⟩=some (.func (.func 61) #[] #[]):=HY1'.out.2 8 (by simp)
  have y9:w1.cell? ⟨bY,9,none⟩=some (.slice ha2 hl2 hc2):=HY1'.out.2 9 (by simp)
  have y10:w1.cell? ⟨bY,10,none⟩=some (.func (.func 62) #[] #[]):=HY1'.out.2 10 (by simp)
  have y11:w1.cell? ⟨bY,11,none⟩=some (.func (.func 63) #[] #[]):=HY1'.out.2 11 (by simp)
  have ly:=HY1'.out.1
  cases r2
  ·go_wp2_with fail
   refine (HR2.out _ HB1.out).mono ?_
   rintro e w2 ⟨rfl,hb2⟩
   have HB2:=H_ (HB1.out.trans (hb2.mono HB1.out.size))
   have HE2:=H_ (HE1.out.below hb2)
   clear hb2 HE1
   clear y0 y1 y2 y3 y4 y5 y6 y7 y8 y9 y10 y11 ly
   have hp9:=HE2.out.pt
   have hl9:=hp9.lt
   obtain ⟨o0,r0⟩:=hp9.has 0 (by omega)
   have f0:=hp9.free 0 (by omega)
   obtain ⟨o1,r1⟩:=hp9.has 1 (by omega)
   have f1:=hp9.free 1 (by omega)
   obtain ⟨o2,r2⟩:=hp9.has 2 (by omega)
   have f2:=hp9.free 2 (by omega)
   obtain ⟨o3,r3⟩:=hp9.has 3 (by omega)
   have f3:=hp9.free 3 (by omega)
   obtain ⟨o4,r4⟩:=hp9.has 4 (by omega)
   have f4:=hp9.free 4 (by omega)
   obtain ⟨o5,r5⟩:=hp9.has 5 (by omega)
   have f5:=hp9.free 5 (by omega)
   obtain ⟨o6,r6⟩:=hp9.has 6 (by omega)
   have f6:=hp9.free 6 (by omega)
   obtain ⟨o7,r7⟩:=hp9.has 7 (by omega)
   have f7:=hp9.free 7 (by omega)
   obtain ⟨o8,r8⟩:=hp9.has 8 (by omega)
   have f8:=hp9.free 8 (by omega)
   have hgf:=StR.stL_grown (w.heap.size+1+1) [.string ⟨#[]⟩,.string ⟨#[]⟩,.int .i64 0,.int .i64 0,.int .i64 0,.int .i64 0,.slice none 0 0,.slice none 0 0,.int .i64 1] 0 w2
   have HBF:=H_ (HB2.out.grown hgf HB2.out.size (fun k e=>by simp only [Option.some.injEq] at e;omega))
   have HGF:=H_ hgf
   simp only [StR.stL,Nat.zero_add,Nat.reduceAdd] at HBF HGF
   clear hgf hp9
   go_wp2_with fail
   refine bodyPost_ret (v:=.agg #[.string ⟨#[]⟩,.string ⟨#[]⟩,.int .i64 0,.int .i64 0,.int .i64 0,.int .i64 0,.slice none 0 0,.slice none 0 0,.int .i64 1]) (by simp [results,Tryd.results5,go_sem,r0,r1,r2,r3,r4,r5,r6,r7,r8]) rfl ⟨.inl ⟨rfl,rfl⟩,HBF.out⟩
  go_wp2_with fail
  refine (HR2.out _ HB1.out).mono ?_
  rintro e w2 ⟨rfl,hb2⟩
  have HB2:=H_ (HB1.out.trans (hb2.mono HB1.out.size))
  have HE2:=H_ (HE1.out.below hb2)
  have HX2:=H_ (HX1'.out.below hb2)
  have HY2:=H_ (HY1'.out.below hb2)
  clear hb2 HE1 HX1' HY1' HB1 HR1 HR2
  clear y0 y1 y2 y3 y4 y5 y6 y7 y8 y9 y10 y11 ly
  have x0:w2.cell? ⟨bX,0,none⟩=some (.string a1):=HX2.out.2 0 (by simp)
  have x1:w2.cell? ⟨bX,1,none⟩=some (.string m1):=HX2.out.2 1 (by simp)
  have x2:w2.cell? ⟨bX,2,none⟩=some (.int .i64 mo1):=HX2.out.2 2 (by simp)
  have x3:w2.cell? ⟨bX,3,none⟩=some (.int .i64 ev1):=HX2.out.2 3 (by simp)
  have x4:w2.cell? ⟨bX,4,none⟩=some (.int .i64 su1):=HX2.out.2 4 (by simp)
  have x5:w2.cell? ⟨bX,5,none⟩=some (.int .i64 mx1):=HX2.out.2 5 (by simp)
  have x6:w2.cell? ⟨bX,6,none⟩=some (.slice ta1 tl1 tc1):=HX2.out.2 6 (by simp)
  have x7:w2.cell? ⟨bX,7,none⟩=some (.func (.func 60) #[] #[]):=HX2.out.2 7 (by simp)
  have x8:w2.cell? ⟨bX,8,none⟩=some (.func (.func 61) #[] #[]):=HX2.out.2 8 (by simp)
  have x9:w2.cell? ⟨bX,9,none⟩=some (.slice ha1 hl1 hc1):=HX2.out.2 9 (by simp)
  have x10:w2.cell? ⟨bX,10,none⟩=some (.func (.func 62) #[] #[]):=HX2.out.2 10 (by simp)
  have x11:w2.cell? ⟨bX,11,none⟩=some (.func (.func 63) #[] #[]):=HX2.out.2 11 (by simp)
  have lx:=HX2.out.1
  have y0:w2.cell? ⟨bY,0,none⟩=some (.string a2):=HY2.out.2 0 (by simp)
  have y1:w2.cell? ⟨bY,1,none⟩=some (.string m2):=HY2.out.2 1 (by simp)
  have y2:w2.cell? ⟨bY,2,none⟩=some (.int .i64 mo2):=HY2.out.2 2 (by simp)
  have y3:w2.cell? ⟨bY,3,none⟩=some (.int .i64 ev2):=HY2.out.2 3 (by simp)
  have y4:w2.cell? ⟨bY,4,none⟩=some (.int .i64 su2):=HY2.out.2 4 (by simp)
  have y5:w2.cell? ⟨bY,5,none⟩=some (.int .i64 mx2):=HY2.out.2 5 (by simp)
  have y6:w2.cell? ⟨bY,6,none⟩=some (.slice ta2 tl2 tc2):=HY2.out.2 6 (by simp)
  have y7:w2.cell? ⟨bY,7,none⟩=some (.func (.func 60) #[] #[]):=HY2.out.2 7 (by simp)
  have y8:w2.cell? ⟨bY,8,none⟩=some (.func (.func 61) #[] #[]):=HY2.out.2 8 (by simp)
  have y9:w2.cell? ⟨bY,9,none⟩=some (.slice ha2 hl2 hc2):=HY2.out.2 9 (by simp)
  have y10:w2.cell? ⟨bY,10,none⟩=some (.func (.func 62) #[] #[]):=HY2.out.2 10 (by simp)
  have y11:w2.cell? ⟨bY,11,none⟩=some (.func (.func 63) #[] #[]):=HY2.out.2 11 (by simp)
  have ly:=HY2.out.1
  have HWJ:=H_ (HWI.out (by simp) (by simp))
  clear HWI
  by_cases hsa:a1=a2
  rotate_left
  ·have na:a1.toList≠a2.toList:=fun q=>hsa (LtR.toList_inj q)
   have na2:(a1.toList==a2.toList)=false:=by simpa using na
   have HSN:Hid (¬(a1=a2∧m1=m2∧mo1=mo2)):=H_ (fun q=>hsa q.1)
   have hp9:=HE2.out.pt
   have hl9:=hp9.lt
   obtain ⟨o0,r0⟩:=hp9.has 0 (by omega)
   have f0:=hp9.free 0 (by omega)
   obtain ⟨o1,r1⟩:=hp9.has 1 (by omega)
   have f1:=hp9.free 1 (by omega)
   obtain ⟨o2,r2⟩:=hp9.has 2 (by omega)
   have f2:=hp9.free 2 (by omega)
   obtain ⟨o3,r3⟩:=hp9.has 3 (by omega)
   have f3:=hp9.free 3 (by omega)
   obtain ⟨o4,r4⟩:=hp9.has 4 (by omega)
   have f4:=hp9.free 4 (by omega)
   obtain ⟨o5,r5⟩:=hp9.has 5 (by omega)
   have f5:=hp9.free 5 (by omega)
   obtain ⟨o6,r6⟩:=hp9.has 6 (by omega)
   have f6:=hp9.free 6 (by omega)
   obtain ⟨o7,r7⟩:=hp9.has 7 (by omega)
   have f7:=hp9.free 7 (by omega)
   obtain ⟨o8,r8⟩:=hp9.has 8 (by omega)
   have f8:=hp9.free 8 (by omega)
   have hgf:=StR.stL_grown (w.heap.size+1+1) [.string ⟨#[]⟩,.string ⟨#[]⟩,.int .i64 0,.int .i64 0,.int .i64 0,.int .i64 0,.slice none 0 0,.slice none 0 0,.int .i64 10] 0 w2
   have HBF:=H_ (HB2.out.grown hgf HB2.out.size (fun k e=>by simp only [Option.some.injEq] at e;omega))
   have HGF:=H_ hgf
   simp only [StR.stL,Nat.zero_add,Nat.reduceAdd] at HBF HGF
   clear hgf hp9
   go_wp2_with fail
   refine bodyPost_ret (v:=.agg #[.string ⟨#[]⟩,.string ⟨#[]⟩,.int .i64 0,.int .i64 0,.int .i64 0,.int .i64 0,.slice none 0 0,.slice none 0 0,.int .i64 10]) (by simp [results,Tryd.results5,go_sem,r0,r1,r2,r3,r4,r5,r6,r7,r8]) rfl ⟨.inr (.inl ⟨rfl,(by first|exact HSN.out|(simp;done)|simpa using HSN.out),rfl⟩),HBF.out⟩
  subst hsa
  by_cases hsb:m1=m2
  rotate_left
  ·have na:m1.toList≠m2.toList:=fun q=>hsb (LtR.toList_inj q)
   have na2:(m1.toList==m2.toList)=false:=by simpa using na
   have HSN:Hid (¬(a1=a1∧m1=m2∧mo1=mo2)):=H_ (fun q=>hsb q.2.1)
   have hp9:=HE2.out.pt
   have hl9:=hp9.lt
   obtain ⟨o0,r0⟩:=hp9.has 0 (by omega)
   have f0:=hp9.free 0 (by omega)
   obtain ⟨o1,r1⟩:=hp9.has 1 (by omega)
   have f1:=hp9.free 1 (by omega)
   obtain ⟨o2,r2⟩:=hp9.has 2 (by omega)
   have f2:=hp9.free 2 (by omega)
   obtain ⟨o3,r3⟩:=hp9.has 3 (by omega)
   have f3:=hp9.free 3 (by omega)
   obtain ⟨o4,r4⟩:=hp9.has 4 (by omega)
   have f4:=hp9.free 4 (by omega)
   obtain ⟨o5,r5⟩:=hp9.has 5 (by omega)
   have f5:=hp9.free 5 (by omega)
   obtain ⟨o6,r6⟩:=hp9.has 6 (by omega)
   have f6:=hp9.free 6 (by omega)
   obtain ⟨o7,r7⟩:=hp9.has 7 (by omega)
   have f7:=hp9.free 7 (by omega)
   obtain ⟨o8,r8⟩:=hp9.has 8 (by omega)
   have f8:=hp9.free 8 (by omega)
   have hgf:=StR.stL_grown (w.heap.size+1+1) [.string ⟨#[]⟩,.string ⟨#[]⟩,.int .i64 0,.int .i64 0,.int .i64 0,.int .i64 0,.slice none 0 0,.slice none 0 0,.int .i64 10] 0 w2
   have HBF:=H_ (HB2.out.grown hgf HB2.out.size (fun k e=>by simp only [Option.some.injEq] at e;omega))
   have HGF:=H_ hgf
   simp only [StR.stL,Nat.zero_add,Nat.reduceAdd] at HBF HGF
   clear hgf hp9
   go_wp2_with fail
   refine bodyPost_ret (v:=.agg #[.string ⟨#[]⟩,.string ⟨#[]⟩,.int .i64 0,.int .i64 0,.int .i64 0,.int .i64 0,.slice none 0 0,.slice none 0 0,.int .i64 10]) (by simp [results,Tryd.results5,go_sem,r0,r1,r2,r3,r4,r5,r6,r7,r8]) rfl ⟨.inr (.inl ⟨rfl,(by first|exact HSN.out|(simp;done)|simpa using HSN.out),rfl⟩),HBF.out⟩
  subst hsb
  by_cases hsc:mo1=mo2
  rotate_left
  ·have na2:(mo1==mo2)=false:=by simpa using hsc
   have HSN:Hid (¬(a1=a1∧m1=m1∧mo1=mo2)):=H_ (fun q=>hsc q.2.2)
   have hp9:=HE2.out.pt
   have hl9:=hp9.lt
   obtain ⟨o0,r0⟩:=hp9.has 0 (by omega)
   have f0:=hp9.free 0 (by omega)
   obtain ⟨o1,r1⟩:=hp9.has 1 (by omega)
   have f1:=hp9.free 1 (by omega)
   obtain ⟨o2,r2⟩:=hp9.has 2 (by omega)
   have f2:=hp9.free 2 (by omega)
   obtain ⟨o3,r3⟩:=hp9.has 3 (by omega)
   have f3:=hp9.free 3 (by omega)
   obtain ⟨o4,r4⟩:=hp9.has 4 (by omega)
   have f4:=hp9.free 4 (by omega)
   obtain ⟨o5,r5⟩:=hp9.has 5 (by omega)
   have f5:=hp9.free 5 (by omega)
   obtain ⟨o6,r6⟩:=hp9.has 6 (by omega)
   have f6:=hp9.free 6 (by omega)
   obtain ⟨o7,r7⟩:=hp9.has 7 (by omega)
   have f7:=hp9.free 7 (by omega)
   obtain ⟨o8,r8⟩:=hp9.has 8 (by omega)
   have f8:=hp9.free 8 (by omega)
   have hgf:=StR.stL_grown (w.heap.size+1+1) [.string ⟨#[]⟩,.string ⟨#[]⟩,.int .i64 0,.int .i64 0,.int .i64 0,.int .i64 0,.slice none 0 0,.slice none 0 0,.int .i64 10] 0 w2
   have HBF:=H_ (HB2.out.grown hgf HB2.out.size (fun k e=>by simp only [Option.some.injEq] at e;omega))
   have HGF:=H_ hgf
   simp only [StR.stL,Nat.zero_add,Nat.reduceAdd] at HBF HGF
   clear hgf hp9
   go_wp2_with fail
   refine bodyPost_ret (v:=.agg #[.string ⟨#[]⟩,.string ⟨#[]⟩,.int .i64 0,.int .i64 0,.int .i64 0,.int .i64 0,.slice none 0 0,.slice none 0 0,.int .i64 10]) (by simp [results,Tryd.results5,go_sem,r0,r1,r2,r3,r4,r5,r6,r7,r8]) rfl ⟨.inr (.inl ⟨rfl,(by first|exact HSN.out|(simp;done)|simpa using HSN.out),rfl⟩),HBF.out⟩
  subst hsc
  go_wp2_with fail
  refine (HWJ.out _ HB2.out).mono ?_
  rintro e w3 ⟨ao,cc,ho,hcc,rfl,hT,hH,hb3⟩
  have HB3:=H_ ((HB2.out.trans (hb3.mono HB2.out.size)).alloc (HB2.out.trans (hb3.mono HB2.out.size)).size (.cells #[.string a1,.string m1,.int .i64 mo1,.int .i64 EV,.int .i64 SU,.int .i64 MX,.slice ao MT.length cc,.func (.func 60) #[] #[],.func (.func 61) #[] #[],.slice ho MH.length hcc,.func (.func 62) #[] #[],.func (.func 63) #[] #[]] 54))
  have HE3:=H_ ((HE2.out.below hb3).below ((Below.refl w3.heap.size w3).alloc (Nat.le_refl _) (.cells #[.string a1,.string m1,.int .i64 mo1,.int .i64 EV,.int .i64 SU,.int .i64 MX,.slice ao MT.length cc,.func (.func 60) #[] #[],.func (.func 61) #[] #[],.slice ho MH.length hcc,.func (.func 62) #[] #[],.func (.func 63) #[] #[]] 54)))
  have HT3:=H_ (hT.below ((Below.refl w3.heap.size w3).alloc (Nat.le_refl _) (.cells #[.string a1,.string m1,.int .i64 mo1,.int .i64 EV,.int .i64 SU,.int .i64 MX,.slice ao MT.length cc,.func (.func 60) #[] #[],.func (.func 61) #[] #[],.slice ho MH.length hcc,.func (.func 62) #[] #[],.func (.func 63) #[] #[]] 54)))
  have HH3:=H_ (hH.below ((Below.refl w3.heap.size w3).alloc (Nat.le_refl _) (.cells #[.string a1,.string m1,.int .i64 mo1,.int .i64 EV,.int .i64 SU,.int .i64 MX,.slice ao MT.length cc,.func (.func 60) #[] #[],.func (.func 61) #[] #[],.slice ho MH.length hcc,.func (.func 62) #[] #[],.func (.func 63) #[] #[]] 54)))
  have HU3:Hid (Blk w3.heap.size [.string a1,.string m1,.int .i64 mo1,.int .i64 EV,.int .i64 SU,.int .i64 MX,.slice ao MT.length cc,.func (.func 60) #[] #[],.func (.func 61) #[] #[],.slice ho MH.length hcc,.func (.func 62) #[] #[],.func (.func 63) #[] #[]] (w3.alloc (.cells #[.string a1,.string m1,.int .i64 mo1,.int .i64 EV,.int .i64 SU,.int .i64 MX,.slice ao MT.length cc,.func (.func 60) #[] #[],.func (.func 61) #[] #[],.slice ho MH.length hcc,.func (.func 62) #[] #[],.func (.func 63) #[] #[]] 54))):=H_ (Blk.new w3 _ _)
  have HC3:=H_ (HR3.out ao cc ho hcc _ (HL.out.below HB3.out) HT3.out HH3.out)
  clear hT hH hb3 HE2 HX2 HY2 HR3
  go_wp2_with fail
  generalize (w3.alloc (.cells #[.string a1,.string m1,.int .i64 mo1,.int .i64 EV,.int .i64 SU,.int .i64 MX,.slice ao MT.length cc,.func (.func 60) #[] #[],.func (.func 61) #[] #[],.slice ho MH.length hcc,.func (.func 62) #[] #[],.func (.func 63) #[] #[]] 54))=w4 at *
  clear x0 x1 x2 x3 x4 x5 x6 x7 x8 x9 x10 x11 lx
  clear y0 y1 y2 y3 y4 y5 y6 y7 y8 y9 y10 y11 ly
  refine HC3.out.mono ?_
  rintro e w5 ⟨rfl,hb5⟩
  have HB5:=H_ (HB3.out.trans (hb5.mono HB3.out.size))
  have HE5:=H_ (HE3.out.below hb5)
  have HT5:=H_ (HT3.out.below hb5)
  have HH5:=H_ (HH3.out.below hb5)
  have HU5:=H_ (HU3.out.below hb5)
  clear hb5 HE3 HT3 HH3 HU3 HC3 HB3
  cases r3
  ·have hp9:=HE5.out.pt
   have hl9:=hp9.lt
   obtain ⟨o0,r0⟩:=hp9.has 0 (by omega)
   have f0:=hp9.free 0 (by omega)
   obtain ⟨o1,r1⟩:=hp9.has 1 (by omega)
   have f1:=hp9.free 1 (by omega)
   obtain ⟨o2,r2⟩:=hp9.has 2 (by omega)
   have f2:=hp9.free 2 (by omega)
   obtain ⟨o3,r3⟩:=hp9.has 3 (by omega)
   have f3:=hp9.free 3 (by omega)
   obtain ⟨o4,r4⟩:=hp9.has 4 (by omega)
   have f4:=hp9.free 4 (by omega)
   obtain ⟨o5,r5⟩:=hp9.has 5 (by omega)
   have f5:=hp9.free 5 (by omega)
   obtain ⟨o6,r6⟩:=hp9.has 6 (by omega)
   have f6:=hp9.free 6 (by omega)
   obtain ⟨o7,r7⟩:=hp9.has 7 (by omega)
   have f7:=hp9.free 7 (by omega)
   obtain ⟨o8,r8⟩:=hp9.has 8 (by omega)
   have f8:=hp9.free 8 (by omega)
   have hgf:=StR.stL_grown (w.heap.size+1+1) [.string ⟨#[]⟩,.string ⟨#[]⟩,.int .i64 0,.int .i64 0,.int .i64 0,.int .i64 0,.slice none 0 0,.slice none 0 0,.int .i64 9] 0 w5
   have HBF:=H_ (HB5.out.grown hgf HB5.out.size (fun k e=>by simp only [Option.some.injEq] at e;omega))
   have HGF:=H_ hgf
   simp only [StR.stL,Nat.zero_add,Nat.reduceAdd] at HBF HGF
   clear hgf hp9
   go_wp2_with fail
   refine bodyPost_ret (v:=.agg #[.string ⟨#[]⟩,.string ⟨#[]⟩,.int .i64 0,.int .i64 0,.int .i64 0,.int .i64 0,.slice none 0 0,.slice none 0 0,.int .i64 9]) (by simp [results,Tryd.results5,go_sem,r0,r1,r2,r3,r4,r5,r6,r7,r8]) rfl ⟨.inr (.inr (.inl ⟨rfl,(by first|exact ⟨rfl,rfl,rfl⟩|trivial),rfl,rfl⟩)),HBF.out⟩
  have HWN2:=H_ (HWN.out (by simp) ao cc ho hcc w5 HT5.out HH5.out)
  have x0:w5.cell? ⟨w3.heap.size,0,none⟩=some (.string a1):=HU5.out.2 0 (by simp)
  have x1:w5.cell? ⟨w3.heap.size,1,none⟩=some (.string m1):=HU5.out.2 1 (by simp)
  have x2:w5.cell? ⟨w3.heap.size,2,none⟩=some (.int .i64 mo1):=HU5.out.2 2 (by simp)
  have x3:w5.cell? ⟨w3.heap.size,3,none⟩=some (.int .i64 EV):=HU5.out.2 3 (by simp)
  have x4:w5.cell? ⟨w3.heap.size,4,none⟩=some (.int .i64 SU):=HU5.out.2 4 (by simp)
  have x5:w5.cell? ⟨w3.heap.size,5,none⟩=some (.int .i64 MX):=HU5.out.2 5 (by simp)
  have x6:w5.cell? ⟨w3.heap.size,6,none⟩=some (.slice ao MT.length cc):=HU5.out.2 6 (by simp)
  have x7:w5.cell? ⟨w3.heap.size,7,none⟩=some (.func (.func 60) #[] #[]):=HU5.out.2 7 (by simp)
  have x8:w5.cell? ⟨w3.heap.size,8,none⟩=some (.func (.func 61) #[] #[]):=HU5.out.2 8 (by simp)
  have x9:w5.cell? ⟨w3.heap.size,9,none⟩=some (.slice ho MH.length hcc):=HU5.out.2 9 (by simp)
  have x10:w5.cell? ⟨w3.heap.size,10,none⟩=some (.func (.func 62) #[] #[]):=HU5.out.2 10 (by simp)
  have x11:w5.cell? ⟨w3.heap.size,11,none⟩=some (.func (.func 63) #[] #[]):=HU5.out.2 11 (by simp)
  have lx:=HU5.out.1
  go_wp2_with fail
  refine HWN2.out.mono ?_
  rintro e w6 ⟨v,rfl,hm,hb6⟩
  clear x0 x1 x2 x3 x4 x5 x6 x7 x8 x9 x10 x11 lx
  have hs5:w.heap.size+1+1<w5.heap.size:=HE5.out.pt.lt
  obtain ⟨⟨ta,tc,ha,hc,rfl,k1,k2,k3⟩,k4⟩:=hm
  have HM6:=H_ (show MadeWS w5.heap.size z (.agg (wcells z ta tc ha hc)) w6 from ⟨⟨ta,tc,ha,hc,rfl,k1,k2,k3⟩,k4⟩)
  have HB6:=H_ (HB5.out.trans (hb6.mono HB5.out.size))
  have HE6:=H_ (HE5.out.below hb6)
  clear hb6 k1 k2 k3 k4 HE5 HT5 HH5 HU5 HWN2 HWN
  unfold wcells
  have hp9:=HE6.out.pt
  have hl9:=hp9.lt
  obtain ⟨o0,r0⟩:=hp9.has 0 (by omega)
  have f0:=hp9.free 0 (by omega)
  obtain ⟨o1,r1⟩:=hp9.has 1 (by omega)
  have f1:=hp9.free 1 (by omega)
  obtain ⟨o2,r2⟩:=hp9.has 2 (by omega)
  have f2:=hp9.free 2 (by omega)
  obtain ⟨o3,r3⟩:=hp9.has 3 (by omega)
  have f3:=hp9.free 3 (by omega)
  obtain ⟨o4,r4⟩:=hp9.has 4 (by omega)
  have f4:=hp9.free 4 (by omega)
  obtain ⟨o5,r5⟩:=hp9.has 5 (by omega)
  have f5:=hp9.free 5 (by omega)
  obtain ⟨o6,r6⟩:=hp9.has 6 (by omega)
  have f6:=hp9.free 6 (by omega)
  obtain ⟨o7,r7⟩:=hp9.has 7 (by omega)
  have f7:=hp9.free 7 (by omega)
  obtain ⟨o8,r8⟩:=hp9.has 8 (by omega)
  have f8:=hp9.free 8 (by omega)
  have hgf:=StR.stL_grown (w.heap.size+1+1) [.string z.a,.string z.m,.int .i64 z.mo,.int .i64 z.ev,.int .i64 z.su,.int .i64 z.mx,.slice ta z.ts.length tc,.slice ha z.hs.length hc,.int .i64 0] 0 w6
  have HBF:=H_ (HB6.out.grown hgf HB6.out.size (fun k e=>by simp only [Option.some.injEq] at e;omega))
  have HGF:=H_ hgf
  simp only [StR.stL,Nat.zero_add,Nat.reduceAdd] at HBF HGF
  clear hgf hp9
  go_wp2_with fail
  refine bodyPost_ret (v:=.agg #[.string z.a,.string z.m,.int .i64 z.mo,.int .i64 z.ev,.int .i64 z.su,.int .i64 z.mx,.slice ta z.ts.length tc,.slice ha z.hs.length hc,.int .i64 0]) (by simp [results,Tryd.results5,go_sem,r0,r1,r2,r3,r4,r5,r6,r7,r8]) rfl ⟨.inr (.inr (.inr ⟨rfl,(by first|exact ⟨rfl,rfl,rfl⟩|trivial),rfl,.agg (wcells z ta tc ha hc),rfl,⟨(HM6.out.1.far HGF.out hs5).low HB5.out.size,HM6.out.2⟩⟩)),HBF.out⟩
end WinR
end Go.Proofs.YteejpnkmnmoebaaDoor
