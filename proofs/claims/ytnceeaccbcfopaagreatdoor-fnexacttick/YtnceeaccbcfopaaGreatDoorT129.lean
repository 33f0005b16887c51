/-
  The model's copies: of a document, of documents. The conditions: sizes of at most 1048576.
-/
import Derived.Test.YtnceeaccbcfopaaGreatDoorT128
namespace Go.Proofs.YtnceeaccbcfopaaGreatDoor
open Go.ChangeShapes Go.WideShapes Go.ChangeAt Go.RowKit
set_option linter.unusedVariables false
namespace LedR
open LinR DocR NetR
open RowG
theorem lis_src {la:Option Addr} {L:List N} {w:World} (h:Lis la L w):∀W,Below w.heap.size w W→(L.length=0∨∃ad,la=some ad∧∀j u,(cellsAll N.cells L)[j]? = some u→W.cell? (ad.add j)=some u):=by
 intro W hW
 rcases h.below hW with h0|⟨b,off,rfl,hb,hc⟩
 ·exact .inl h0
 ·refine .inr ⟨⟨b,off,none⟩,rfl,fun j u hj=>?_⟩
  have h1:=rws_sub (i:=0) (n:=L.length) N.len (.inr ⟨b,off,rfl,hb,hc⟩:RowG.Rws 2 N.cells N.zero (some ⟨b,off,none⟩) L W) j u (by simpa using hj)
  rw [Nat.zero_mul,Nat.add_zero] at h1
  exact h1
set_option maxRecDepth 100000 in
set_option maxHeartbeats 4000000 in
theorem sdoc (d:D) (la:Option Addr) (lc:Nat) (w:World) (hlen:d.ls.length≤1048576) (hI:Lis la d.ls w) :
 Calls Tryz.prog 114 #[.agg #[.string d.a,.int .i64 d.mo,.int .i64 d.sq,.slice la d.ls.length lc]] w fun e w'=>∃ao cap,e=.returned (.agg #[.string d.a,.int .i64 d.mo,.int .i64 d.sq,.slice ao d.ls.length cap])∧w'.ownsRow w.heap.size 209 2 (.slice ao d.ls.length cap) d.ls.length (cellsAll N.cells d.ls)∧Below w.heap.size w w':=by
 obtain ⟨a,mo,sq,ls⟩:=d
 dsimp only at *
 obtain ⟨i0,hi,hz0,hz1,hz2⟩:=info_parts infoN
 have HI:=H_ (lis_src hI)
 have HO1:=H_ (lis_one ls)
 have HLC:Hid ((cellsAll N.cells ls).length=ls.length*2):=H_ (by rw [cellsAll_len N.len])
 have HOM:=H_ (fun (W:World) base v (h:W.ownsRow base 209 2 v ls.length (cellsAll N.cells ls))=>RowG.own_made (z:=N.zero) N.len h)
 generalize cellsAll N.cells ls=C at *
 obtain ⟨len,hl⟩:∃len,len=ls.length:=⟨_,rfl⟩
 rw [←hl] at HI HLC HOM hlen ⊢
 obtain ⟨W0,hW0⟩:∃W0,W0=((w.alloc (.cells #[.string a,.int .i64 mo,.int .i64 sq,.slice la len lc] 122)).alloc (.cells #[.string ⟨#[]⟩,.int .i64 0,.int .i64 0,.slice none 0 0] 122)).alloc (.cells #[] 209):=⟨_,rfl⟩
 have HB0:Hid (Below w.heap.size w W0):=H_ (by rw [hW0];exact (((Below.refl _ _).alloc (Nat.le_refl _) _).alloc (by simp) _).alloc (by simp;omega) _)
 have HV0:Hid (BlkW w.heap.size [.string a,.int .i64 mo,.int .i64 sq,.slice la len lc] W0):=H_ (by rw [hW0];exact ((BlkW.new w [.string a,.int .i64 mo,.int .i64 sq,.slice la len lc] 122).below ((Below.refl _ _).alloc (Nat.le_refl _) _)).below ((Below.refl _ _).alloc (Nat.le_refl _) _))
 have HR0:Hid (BlkW (w.heap.size+1) [.string ⟨#[]⟩,.int .i64 0,.int .i64 0,.slice none 0 0] W0):=H_ (by
  rw [hW0]
  have:=(BlkW.new (w.alloc (.cells #[.string a,.int .i64 mo,.int .i64 sq,.slice la len lc] 122)) [.string ⟨#[]⟩,.int .i64 0,.int .i64 0,.slice none 0 0] 122).below ((Below.refl _ _).alloc (Nat.le_refl _) (.cells #[] 209))
  simpa using this)
 have HE0:Hid (W0.ownsRow (w.heap.size+2) 209 2 (.slice (some ⟨w.heap.size+1+1,0,none⟩) 0 0) 0 []):=H_ (by
  rw [hW0]
  have:=own_empty ((w.alloc (.cells #[.string a,.int .i64 mo,.int .i64 sq,.slice la len lc] 122)).alloc (.cells #[.string ⟨#[]⟩,.int .i64 0,.int .i64 0,.slice none 0 0] 122)) (w.heap.size+2) 209 2 (by simp)
  simpa using this)
 have hS0:W0.heap.size=w.heap.size+3:=by rw [hW0];simp
 have HW:=H_ hW0
 have HSZ:=H_ hS0
 clear hI hl hW0 hS0
 go_enter Tryz.func114,Tryz.ntmps114
 go_wp2_with (at_builtin;rw [←HW.out];refine RowG.wpList_append_whole _ rfl _ _ 120 rfl (w.heap.size+2) 209 i0 (.agg #[.string ⟨#[]⟩,.int .i64 0]) 2 24 Tryz.underlying120 hi hz0 hz1 hz2 rfl (by decide) (w.heap.size+1+1) rfl HE0.out la len lc C rfl HLC.out (HI.out _ HB0.out) HO1.out (by unfold maxLen;omega) (by omega) (by rw [HSZ.out];omega) ?_)
 intro v1 w2 hown hgrow hne
 have HB2:=H_ (HB0.out.grown hgrow HB0.out.size (fun k e=>by simp only [Option.some.injEq] at e;omega))
 have HV2:=H_ (OwG.blkW_grown HV0.out hgrow (by simp only [ne_eq,Option.some.injEq];omega))
 have HR2:=H_ (OwG.blkW_grown HR0.out hgrow (by simp only [ne_eq,Option.some.injEq];omega))
 obtain ⟨ao,cap,rfl,-⟩:=HOM.out w2 _ v1 hown
 have HOF:=H_ (own_low (OwG.own_keepG (OwG.own_keepG hown (RowG.grown_set w2 w.heap.size 3 (.slice ao len cap)) (by omega)) (StR.stL_grown (w.heap.size+1) [.string a,.int .i64 mo,.int .i64 sq,.slice ao len cap] 0 _) (by omega)) (show w.heap.size≤w.heap.size+2 by omega))
 have HBF:=H_ ((HB2.out.setCell (p:=⟨w.heap.size,3,none⟩) (Nat.le_refl _) (.slice ao len cap)).grown (StR.stL_grown (w.heap.size+1) [.string a,.int .i64 mo,.int .i64 sq,.slice ao len cap] 0 _) (by have:=HB2.out.size;simpa using this) (fun k h=>by cases h;omega))
 simp only [StR.stL,Nat.zero_add,Nat.reduceAdd] at HOF HBF
 have l1:=HV2.out.1.1
 have l2:=HR2.out.1.1
 have f3:=HV2.out.2 3 (by simp)
 have c0:=HV2.out.1.2 0 (by simp)
 have c1:=HV2.out.1.2 1 (by simp)
 have c2:=HV2.out.1.2 2 (by simp)
 have c3:=HV2.out.1.2 3 (by simp)
 have r0:=HR2.out.1.2 0 (by simp)
 have r1:=HR2.out.1.2 1 (by simp)
 have r2:=HR2.out.1.2 2 (by simp)
 have r3:=HR2.out.1.2 3 (by simp)
 have g0:=HR2.out.2 0 (by simp)
 have g1:=HR2.out.2 1 (by simp)
 have g2:=HR2.out.2 2 (by simp)
 have g3:=HR2.out.2 3 (by simp)
 simp only [List.getElem?_cons_zero,List.getElem?_cons_succ] at c0 c1 c2 c3 r0 r1 r2 r3
 clear hown hgrow hne
 go_wp2_with fail
 refine bodyPost_ret (v:=.agg #[.string a,.int .i64 mo,.int .i64 sq,.slice ao len cap]) (by simp [results,Tryz.results114,go_sem,r0,r1,r2,r3]) rfl ⟨ao,cap,rfl,HOF.out,HBF.out⟩
end LedR
end Go.Proofs.YtnceeaccbcfopaaGreatDoor
