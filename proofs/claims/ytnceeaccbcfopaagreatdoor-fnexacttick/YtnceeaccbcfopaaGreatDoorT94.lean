/-
  copyDoc: a document in new memory. The conditions: sizes of at most 1048576.
-/
import Derived.Test.YtnceeaccbcfopaaGreatDoorT93
namespace Go.Proofs.YtnceeaccbcfopaaGreatDoor
open Go.ChangeShapes Go.WideShapes Go.ChangeAt Go.RowKit
set_option linter.unusedVariables false
namespace LedR
open LinR DocR
open RowG (cellsAll H_)
set_option maxRecDepth 100000 in
set_option maxHeartbeats 4000000 in
theorem icopy (d:D) (la:Option Addr) (lc:Nat) (w:World) (ha:d.a.size≤1048576) (hlen:d.ls.length≤1048576) (hS:∀e∈d.ls,e.i.size≤1048576) (hI:Lis la d.ls w) :
 Calls Tryz.prog 138 #[.agg #[.string d.a,.int .i64 d.mo,.int .i64 d.sq,.slice la d.ls.length lc]] w fun e w'=>∃v,e=.returned (.agg #[.string d.a,.int .i64 d.mo,.int .i64 d.sq,v])∧w'.ownsRow w.heap.size 209 2 v (d.ls.filter nz).length (cellsAll N.cells (d.ls.filter nz))∧Below w.heap.size w w':=by
 obtain ⟨a,mo,sq,ls⟩:=d
 dsimp only at *
 have HCL:=H_ (fun w=>CloneR.clone_any a w (by omega))
 have HPL:=H_ (fun w' (hI':Lis la ls w')=>put_any la lc ls w' hlen hS hI')
 have HI:=H_ hI
 obtain ⟨len,hl⟩:∃len,len=ls.length:=⟨_,rfl⟩
 rw [←hl] at HPL ⊢
 obtain ⟨W0,hW0⟩:∃W0,W0=(w.alloc (.cells #[.string a,.int .i64 mo,.int .i64 sq,.slice la len lc] 122)).alloc (.cells #[.string ⟨#[]⟩,.int .i64 0,.int .i64 0,.slice none 0 0] 122):=⟨_,rfl⟩
 have HB0:Hid (Below w.heap.size w W0):=H_ (by rw [hW0];exact ((Below.refl _ _).alloc (Nat.le_refl _) _).alloc (by simp) _)
 have HV0:Hid (BlkW w.heap.size [.string a,.int .i64 mo,.int .i64 sq,.slice la len lc] W0):=H_ (by rw [hW0];exact (BlkW.new w [.string a,.int .i64 mo,.int .i64 sq,.slice la len lc] 122).below ((Below.refl _ _).alloc (Nat.le_refl _) _))
 have HR0:Hid (BlkW (w.heap.size+1) [.string ⟨#[]⟩,.int .i64 0,.int .i64 0,.slice none 0 0] W0):=H_ (by
  rw [hW0]
  have:=BlkW.new (w.alloc (.cells #[.string a,.int .i64 mo,.int .i64 sq,.slice la len lc] 122)) [.string ⟨#[]⟩,.int .i64 0,.int .i64 0,.slice none 0 0] 122
  simpa using this)
 have HW:=H_ hW0
 clear hI hS hl hW0
 go_enter Tryz.func138,Tryz.ntmps138
 have c0:W0.cell? ⟨w.heap.size,0,none⟩=some (.string a):=HV0.out.1.2 0 (by simp)
 go_wp2_with fail
 refine (HCL.out _).mono ?_
 rw [←HW.out]
 rintro e w1 ⟨rfl,hb1⟩
 have HB1:=H_ (HB0.out.trans (hb1.mono HB0.out.size))
 have HV1:=H_ (HV0.out.below hb1)
 have HR1:=H_ (HR0.out.below hb1)
 have l1:=HV1.out.1.1
 have f0:=HV1.out.2 0 (by simp)
 have c0:=HV1.out.1.2 0 (by simp)
 have c3:=HV1.out.1.2 3 (by simp)
 simp only [List.getElem?_cons_zero,List.getElem?_cons_succ] at c0 c3
 clear hb1 HW HB0 HV0 HR0
 go_wp2_with fail
 have HB2:=H_ (HB1.out.setCell (p:=⟨w.heap.size,0,none⟩) (Nat.le_refl _) (.string a))
 have HV2:=H_ (HV1.out.set 0 (.string a) (by simp))
 have HR2:=H_ (HR1.out.other w.heap.size 0 (.string a) (by omega))
 simp only [List.set_cons_zero] at HV2
 clear HB1 HV1 HR1 l1 f0 c0 c3
 generalize (w1.setCell {block:=w.heap.size,off:=0} (Value.string a))=W2 at *
 refine (HPL.out _ (HI.out.below HB2.out)).mono ?_
 rintro e w3 ⟨v,rfl,ho,hb3⟩
 have HB3:=H_ (HB2.out.trans (hb3.mono HB2.out.size))
 have HV3:=H_ (HV2.out.below hb3)
 have HR3:=H_ (HR2.out.below hb3)
 have hlw:=HR2.out.1.1
 obtain ⟨ao,cap,rfl,hm⟩:=RowG.own_made (z:=N.zero) N.len ho
 generalize hnf:(ls.filter nz).length=nf at *
 have HOF:=H_ (own_low (OwG.own_keepG (OwG.own_keepG ho (RowG.grown_set w3 w.heap.size 3 (.slice ao nf cap)) (by omega)) (StR.stL_grown (w.heap.size+1) [.string a,.int .i64 mo,.int .i64 sq,.slice ao nf cap] 0 _) (by omega)) HB2.out.size)
 have HBF:=H_ ((HB3.out.setCell (p:=⟨w.heap.size,3,none⟩) (Nat.le_refl _) (.slice ao nf cap)).grown (StR.stL_grown (w.heap.size+1) [.string a,.int .i64 mo,.int .i64 sq,.slice ao nf cap] 0 _) (by have:=HB3.out.size;simpa using this) (fun k h=>by cases h;omega))
 simp only [StR.stL,Nat.zero_add,Nat.reduceAdd] at HOF HBF
 have l1:=HV3.out.1.1
 have l2:=HR3.out.1.1
 have f3:=HV3.out.2 3 (by simp)
 have c0:=HV3.out.1.2 0 (by simp)
 have c1:=HV3.out.1.2 1 (by simp)
 have c2:=HV3.out.1.2 2 (by simp)
 have c3:=HV3.out.1.2 3 (by simp)
 have r0:=HR3.out.1.2 0 (by simp)
 have r1:=HR3.out.1.2 1 (by simp)
 have r2:=HR3.out.1.2 2 (by simp)
 have r3:=HR3.out.1.2 3 (by simp)
 have g0:=HR3.out.2 0 (by simp)
 have g1:=HR3.out.2 1 (by simp)
 have g2:=HR3.out.2 2 (by simp)
 have g3:=HR3.out.2 3 (by simp)
 simp only [List.getElem?_cons_zero,List.getElem?_cons_succ] at c0 c1 c2 c3 r0 r1 r2 r3
 clear ho hb3 hm
 go_wp2_with fail
 refine bodyPost_ret (v:=.agg #[.string a,.int .i64 mo,.int .i64 sq,.slice ao nf cap]) (by simp [results,Tryz.results138,go_sem,r0,r1,r2,r3]) rfl ⟨_,rfl,by rw [hnf];exact HOF.out,HBF.out⟩
end LedR
end Go.Proofs.YtnceeaccbcfopaaGreatDoor
