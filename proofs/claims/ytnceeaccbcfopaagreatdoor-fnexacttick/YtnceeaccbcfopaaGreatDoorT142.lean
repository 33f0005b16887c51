/-
  The program's copy of an engine, and its Tick. The conditions: sizes; the program's variables hold what its text lays.
-/
import Derived.Test.YtnceeaccbcfopaaGreatDoorT141
namespace Go.Proofs.YtnceeaccbcfopaaGreatDoor
open Go.ChangeShapes Go.WideShapes Go.ChangeAt Go.RowKit
set_option linter.unusedVariables false
namespace EngR
open OwG CatR ChG DocR
open RowG (cellsAll grown_set MadeG Rws)
open EvtR (Pt)
theorem s7E {p:Nat} {a b c d e f g:Value} {W:World} (h:Blk p [a,b,c,d,e,f,g] W):p<W.heap.size∧W.cell? ⟨p,0,none⟩=some a∧W.cell? ⟨p,1,none⟩=some b∧W.cell? ⟨p,2,none⟩=some c∧W.cell? ⟨p,3,none⟩=some d∧W.cell? ⟨p,4,none⟩=some e∧W.cell? ⟨p,5,none⟩=some f∧W.cell? ⟨p,6,none⟩=some g:=⟨h.1,h.2 0 (by simp),h.2 1 (by simp),h.2 2 (by simp),h.2 3 (by simp),h.2 4 (by simp),h.2 5 (by simp),h.2 6 (by simp)⟩
set_option maxRecDepth 100000 in
set_option maxHeartbeats 8000000 in
theorem icopy_in (ma:Option Addr) (ml mc:Nat) (ca:Option Addr) (cl cc:Nat) (sa:Option Addr) (sl sc:Nat) (ea:Option Addr) (el ec:Nat) (ua:Option Addr) (ul uc:Nat) (da:Option Addr) (dl dc:Nat) (fr:Int) (A1 A2 A3 A4 A5:Nat→Nat→Value→World→Prop) (w:World)
 (kb1:∀lo hi v W W',A1 lo hi v W→Below W.heap.size W W'→A1 lo hi v W') (kg1:∀lo hi v W W' g,A1 lo hi v W→W.grownBy W' (some g)→g<lo→A1 lo hi v W')
 (kb2:∀lo hi v W W',A2 lo hi v W→Below W.heap.size W W'→A2 lo hi v W') (kg2:∀lo hi v W W' g,A2 lo hi v W→W.grownBy W' (some g)→g<lo→A2 lo hi v W')
 (kb3:∀lo hi v W W',A3 lo hi v W→Below W.heap.size W W'→A3 lo hi v W') (kg3:∀lo hi v W W' g,A3 lo hi v W→W.grownBy W' (some g)→g<lo→A3 lo hi v W')
 (kb4:∀lo hi v W W',A4 lo hi v W→Below W.heap.size W W'→A4 lo hi v W') (kg4:∀lo hi v W W' g,A4 lo hi v W→W.grownBy W' (some g)→g<lo→A4 lo hi v W')
 (kb5:∀lo hi v W W',A5 lo hi v W→Below W.heap.size W W'→A5 lo hi v W') (kg5:∀lo hi v W W' g,A5 lo hi v W→W.grownBy W' (some g)→g<lo→A5 lo hi v W')
 (c1:∀W,Below w.heap.size w W→Calls Tryz.prog 76 #[.agg #[.slice ma ml mc,.slice ca cl cc]] W fun e w'=>∃(xa:Option Addr) (xc:Nat) (ya:Option Addr) (yc:Nat),e=.returned (.agg #[.slice xa ml xc,.slice ya cl yc])∧A1 W.heap.size w'.heap.size (.agg #[.slice xa ml xc,.slice ya cl yc]) w'∧Below W.heap.size W w')
 (c2:∀W,Below w.heap.size w W→Calls Tryz.prog 77 #[.slice sa sl sc] W fun e w'=>∃(za:Option Addr) (zc:Nat),e=.returned (.slice za sl zc)∧A2 W.heap.size w'.heap.size (.slice za sl zc) w'∧Below W.heap.size W w')
 (c3:∀W,Below w.heap.size w W→Calls Tryz.prog 78 #[.slice ea el ec] W fun e w'=>∃(pa:Option Addr) (pc:Nat),e=.returned (.slice pa el pc)∧A3 W.heap.size w'.heap.size (.slice pa el pc) w'∧Below W.heap.size W w')
 (c4:∀W,Below w.heap.size w W→Calls Tryz.prog 79 #[.slice ua ul uc] W fun e w'=>∃(ra:Option Addr) (rc:Nat),e=.returned (.slice ra ul rc)∧A4 W.heap.size w'.heap.size (.slice ra ul rc) w'∧Below W.heap.size W w')
 (c5:∀W,Below w.heap.size w W→Calls Tryz.prog 80 #[.slice da dl dc] W fun e w'=>∃(ta:Option Addr) (tc:Nat),e=.returned (.slice ta dl tc)∧A5 W.heap.size w'.heap.size (.slice ta dl tc) w'∧Below W.heap.size W w') :
 Calls Tryz.prog 31 #[.agg #[.slice ma ml mc,.slice ca cl cc,.slice sa sl sc,.slice ea el ec,.slice ua ul uc,.slice da dl dc,.int .i64 fr]] w fun e w'=>∃(xa:Option Addr) (xc:Nat) (ya:Option Addr) (yc:Nat) (za:Option Addr) (zc:Nat) (pa:Option Addr) (pc:Nat) (ra:Option Addr) (rc:Nat) (ta:Option Addr) (tc:Nat),e=.returned (.agg #[.slice xa ml xc,.slice ya cl yc,.slice za sl zc,.slice pa el pc,.slice ra ul rc,.slice ta dl tc,.int .i64 fr])∧∃l1 h1 l2 h2 l3 h3 l4 h4 l5 h5,A1 l1 h1 (.agg #[.slice xa ml xc,.slice ya cl yc]) w'∧A2 l2 h2 (.slice za sl zc) w'∧A3 l3 h3 (.slice pa el pc) w'∧A4 l4 h4 (.slice ra ul rc) w'∧A5 l5 h5 (.slice ta dl tc) w'∧(w.heap.size≤l1∧l1≤h1∧h1≤l2∧l2≤h2∧h2≤l3∧l3≤h3∧h3≤l4∧l4≤h4∧h4≤l5∧l5≤h5∧h5≤w'.heap.size)∧Below w.heap.size w w':=by
 have C1:=H_ c1
 have KB1:=H_ kb1
 have KG1:=H_ kg1
 have C2:=H_ c2
 have KB2:=H_ kb2
 have KG2:=H_ kg2
 have C3:=H_ c3
 have KB3:=H_ kb3
 have KG3:=H_ kg3
 have C4:=H_ c4
 have KB4:=H_ kb4
 have KG4:=H_ kg4
 have C5:=H_ c5
 have KB5:=H_ kb5
 have KG5:=H_ kg5
 clear c1 kb1 kg1 c2 kb2 kg2 c3 kb3 kg3 c4 kb4 kg4 c5 kb5 kg5
 obtain ⟨W0,hW0⟩:∃z,z=(w.alloc (.cells #[.slice ma ml mc,.slice ca cl cc,.slice sa sl sc,.slice ea el ec,.slice ua ul uc,.slice da dl dc,.int .i64 fr] 42)).alloc (.cells #[.slice none 0 0,.slice none 0 0,.slice none 0 0,.slice none 0 0,.slice none 0 0,.slice none 0 0,.int .i64 0] 42):=⟨_,rfl⟩
 have hb0:Below w.heap.size w W0:=by rw [hW0];exact ((Below.refl _ _).alloc (Nat.le_refl _) _).alloc (by simp) _
 have ha0:BlkW w.heap.size [.slice ma ml mc,.slice ca cl cc,.slice sa sl sc,.slice ea el ec,.slice ua ul uc,.slice da dl dc,.int .i64 fr] W0:=by rw [hW0];exact blkW_alloc (BlkW.new w [.slice ma ml mc,.slice ca cl cc,.slice sa sl sc,.slice ea el ec,.slice ua ul uc,.slice da dl dc,.int .i64 fr] 42) _
 have hr0:BlkW (w.heap.size+1) [.slice none 0 0,.slice none 0 0,.slice none 0 0,.slice none 0 0,.slice none 0 0,.slice none 0 0,.int .i64 0] W0:=by
  rw [hW0]
  have:=BlkW.new (w.alloc (.cells #[.slice ma ml mc,.slice ca cl cc,.slice sa sl sc,.slice ea el ec,.slice ua ul uc,.slice da dl dc,.int .i64 fr] 42)) [.slice none 0 0,.slice none 0 0,.slice none 0 0,.slice none 0 0,.slice none 0 0,.slice none 0 0,.int .i64 0] 42
  simpa using this
 obtain ⟨bR,hbR⟩:∃z,z=w.heap.size+1:=⟨_,rfl⟩
 rw [←hbR] at hr0
 have hlo:w.heap.size<bR:=by omega
 have HW:=H_ hW0
 have HBR:=H_ hbR
 clear hW0 hbR
 go_enter Tryz.func31,Tryz.ntmps31
 go_wp2_with fail
 rw [←HW.out,←HBR.out]
 clear HW HBR
 obtain ⟨W1,hW1⟩:∃z,z=W0.drew:=⟨_,rfl⟩
 have hd:Below W0.heap.size W0 W1:=by rw [hW1];exact (Below.refl _ _).drew
 have hB0:=hb0.trans (hd.mono hb0.size)
 have hA0:=ha0.below hd
 have hR0:=hr0.below hd
 have hS0:=s7E hA0.1
 have hl1:bR<W1.heap.size:=hR0.1.1
 refine wp_region_held_drew (S:=(fun W=>w.heap.size<W.heap.size∧W.cell? ⟨w.heap.size,0,none⟩=some (.slice ma ml mc)∧W.cell? ⟨w.heap.size,1,none⟩=some (.slice ca cl cc)∧W.cell? ⟨w.heap.size,2,none⟩=some (.slice sa sl sc)∧W.cell? ⟨w.heap.size,3,none⟩=some (.slice ea el ec)∧W.cell? ⟨w.heap.size,4,none⟩=some (.slice ua ul uc)∧W.cell? ⟨w.heap.size,5,none⟩=some (.slice da dl dc)∧W.cell? ⟨w.heap.size,6,none⟩=some (.int .i64 fr))) (by kernel_rfl) (by rw [←hW1];exact hS0) (fun hHeld=>?_)
 rw [←hW1]
 clear hW1 hd hb0 ha0 hr0
 refine tk 0 (⟨some 3,.fieldAddr 42 (.tmp 1) 0,0,"l10_engine.go:177",#[],none⟩) ?_
 refine tk 1 (⟨some 4,.load 36 (.tmp 3),36,"l10_engine.go:177",#[⟨0,.data⟩],none⟩) ?_
 refine tk 3 (⟨some 6,.fieldAddr 42 (.tmp 1) 1,0,"l10_engine.go:177",#[],none⟩) ?_
 refine tk 4 (⟨some 7,.load 37 (.tmp 6),37,"l10_engine.go:177",#[⟨3,.data⟩],none⟩) ?_
 refine tk 6 (⟨some 9,.fieldAddr 42 (.tmp 1) 2,0,"l10_engine.go:177",#[],none⟩) ?_
 refine tk 7 (⟨some 10,.load 38 (.tmp 9),38,"l10_engine.go:177",#[⟨6,.data⟩],none⟩) ?_
 refine tk 9 (⟨some 12,.fieldAddr 42 (.tmp 1) 3,0,"l10_engine.go:177",#[],none⟩) ?_
 refine tk 10 (⟨some 13,.load 39 (.tmp 12),39,"l10_engine.go:177",#[⟨9,.data⟩],none⟩) ?_
 refine tk 12 (⟨some 15,.fieldAddr 42 (.tmp 1) 4,0,"l10_engine.go:177",#[],none⟩) ?_
 refine tk 13 (⟨some 16,.load 40 (.tmp 15),40,"l10_engine.go:177",#[⟨12,.data⟩],none⟩) ?_
 refine tk 15 (⟨some 18,.fieldAddr 42 (.tmp 1) 5,0,"l10_engine.go:177",#[],none⟩) ?_
 refine tk 16 (⟨some 19,.load 2 (.tmp 18),2,"l10_engine.go:177",#[⟨15,.data⟩],none⟩) ?_
 refine rd 2 (⟨some 5,.call {callee:=Callee.value (.func 76),args:=#[.tmp 4],argTypes:=#[36]},36,"l10_engine.go:178",#[⟨1,.data⟩],none⟩) (fun K hK=>?_)
 go_simp
 go_at_call 76
 refine (C1.out _ hB0).mono ?_
 rintro e q1 ⟨xa,xc,ya,yc,rfl,hP1,hb1⟩
 try go_wp2_with fail
 have hB1:=hB0.trans (hb1.mono hB0.size)
 have hA1:=hA0.below hb1
 have hR1:=hR0.below hb1
 have hz1:=hb1.size
 have hS1:=s7E hA1.1
 clear hb1
 refine hK.out _ _ hS1 (fun _=>?_)
 clear hK K
 try simp only [Act.put,SL]
 refine rd 5 (⟨some 8,.call {callee:=Callee.value (.func 77),args:=#[.tmp 7],argTypes:=#[37]},37,"l10_engine.go:179",#[⟨4,.data⟩,⟨2,.chain⟩],none⟩) (fun K hK=>?_)
 go_simp
 go_at_call 77
 refine (C2.out _ hB1).mono ?_
 rintro e q2 ⟨za,zc,rfl,hP2,hb2⟩
 try go_wp2_with fail
 have hB2:=hB1.trans (hb2.mono hB1.size)
 have hA2:=hA1.below hb2
 have hR2:=hR1.below hb2
 have hz2:=hb2.size
 have hS2:=s7E hA2.1
 replace hP1:=KB1.out _ _ _ _ _ hP1 hb2
 clear hb2
 refine hK.out _ _ hS2 (fun _=>?_)
 clear hK K
 try simp only [Act.put,SL]
 refine rd 8 (⟨some 11,.call {callee:=Callee.value (.func 78),args:=#[.tmp 10],argTypes:=#[38]},38,"l10_engine.go:180",#[⟨7,.data⟩,⟨5,.chain⟩],none⟩) (fun K hK=>?_)
 go_simp
 go_at_call 78
 refine (C3.out _ hB2).mono ?_
 rintro e q3 ⟨pa,pc,rfl,hP3,hb3⟩
 try go_wp2_with fail
 have hB3:=hB2.trans (hb3.mono hB2.size)
 have hA3:=hA2.below hb3
 have hR3:=hR2.below hb3
 have hz3:=hb3.size
 have hS3:=s7E hA3.1
 replace hP1:=KB1.out _ _ _ _ _ hP1 hb3
 replace hP2:=KB2.out _ _ _ _ _ hP2 hb3
 clear hb3
 refine hK.out _ _ hS3 (fun _=>?_)
 clear hK K
 try simp only [Act.put,SL]
 refine rd 11 (⟨some 14,.call {callee:=Callee.value (.func 79),args:=#[.tmp 13],argTypes:=#[39]},39,"l10_engine.go:181",#[⟨10,.data⟩,⟨8,.chain⟩],none⟩) (fun K hK=>?_)
 go_simp
 go_at_call 79
 refine (C4.out _ hB3).mono ?_
 rintro e q4 ⟨ra,rc,rfl,hP4,hb4⟩
 try go_wp2_with fail
 have hB4:=hB3.trans (hb4.mono hB3.size)
 have hA4:=hA3.below hb4
 have hR4:=hR3.below hb4
 have hz4:=hb4.size
 have hS4:=s7E hA4.1
 replace hP1:=KB1.out _ _ _ _ _ hP1 hb4
 replace hP2:=KB2.out _ _ _ _ _ hP2 hb4
 replace hP3:=KB3.out _ _ _ _ _ hP3 hb4
 clear hb4
 refine hK.out _ _ hS4 (fun _=>?_)
 clear hK K
 try simp only [Act.put,SL]
 refine rd 14 (⟨some 17,.call {callee:=Callee.value (.func 80),args:=#[.tmp 16],argTypes:=#[40]},40,"l10_engine.go:182",#[⟨13,.data⟩,⟨11,.chain⟩],none⟩) (fun K hK=>?_)
 go_simp
 go_at_call 80
 refine (C5.out _ hB4).mono ?_
 rintro e q5 ⟨ta,tc,rfl,hP5,hb5⟩
 try go_wp2_with fail
 have hB5:=hB4.trans (hb5.mono hB4.size)
 have hA5:=hA4.below hb5
 have hR5:=hR4.below hb5
 have hz5:=hb5.size
 have hS5:=s7E hA5.1
 replace hP1:=KB1.out _ _ _ _ _ hP1 hb5
 replace hP2:=KB2.out _ _ _ _ _ hP2 hb5
 replace hP3:=KB3.out _ _ _ _ _ hP3 hb5
 replace hP4:=KB4.out _ _ _ _ _ hP4 hb5
 clear hb5
 refine hK.out _ _ hS5 (fun _=>?_)
 clear hK K
 try simp only [Act.put,SL]
 refine tk 17 (⟨some 20,.build 42 #[(0,.tmp 5),(1,.tmp 8),(2,.tmp 11),(3,.tmp 14),(4,.tmp 17),(5,.tmp 19)],42,"l10_engine.go:177",#[⟨2,.data⟩,⟨5,.data⟩,⟨8,.data⟩,⟨11,.data⟩,⟨14,.data⟩,⟨16,.data⟩],none⟩) ?_
 refine rd 18 (⟨none,.store 42 (.tmp 2) (.tmp 20),0,"l10_engine.go:177",#[⟨17,.data⟩,⟨14,.chain⟩,⟨0,.phase⟩,⟨1,.phase⟩,⟨2,.phase⟩,⟨3,.phase⟩,⟨4,.phase⟩,⟨5,.phase⟩,⟨6,.phase⟩,⟨7,.phase⟩,⟨8,.phase⟩,⟨9,.phase⟩,⟨10,.phase⟩,⟨11,.phase⟩,⟨12,.phase⟩,⟨13,.phase⟩,⟨14,.phase⟩,⟨15,.phase⟩,⟨16,.phase⟩,⟨17,.phase⟩],none⟩) (fun K hK=>?_)
 have rl:=hR5.1.1
 have r0:q5.cell? ⟨bR,0,none⟩=some (.slice none 0 0):=hR5.1.2 0 (by simp)
 have f0:q5.frozen? ⟨bR,0,none⟩=false:=hR5.2 0 (by simp)
 have r1:q5.cell? ⟨bR,1,none⟩=some (.slice none 0 0):=hR5.1.2 1 (by simp)
 have f1:q5.frozen? ⟨bR,1,none⟩=false:=hR5.2 1 (by simp)
 have r2:q5.cell? ⟨bR,2,none⟩=some (.slice none 0 0):=hR5.1.2 2 (by simp)
 have f2:q5.frozen? ⟨bR,2,none⟩=false:=hR5.2 2 (by simp)
 have r3:q5.cell? ⟨bR,3,none⟩=some (.slice none 0 0):=hR5.1.2 3 (by simp)
 have f3:q5.frozen? ⟨bR,3,none⟩=false:=hR5.2 3 (by simp)
 have r4:q5.cell? ⟨bR,4,none⟩=some (.slice none 0 0):=hR5.1.2 4 (by simp)
 have f4:q5.frozen? ⟨bR,4,none⟩=false:=hR5.2 4 (by simp)
 have r5:q5.cell? ⟨bR,5,none⟩=some (.slice none 0 0):=hR5.1.2 5 (by simp)
 have f5:q5.frozen? ⟨bR,5,none⟩=false:=hR5.2 5 (by simp)
 have r6:q5.cell? ⟨bR,6,none⟩=some (.int .i64 0):=hR5.1.2 6 (by simp)
 have f6:q5.frozen? ⟨bR,6,none⟩=false:=hR5.2 6 (by simp)
 have hg:=StR.stL_grown bR [.slice xa ml xc,.slice ya cl yc,.slice za sl zc,.slice pa el pc,.slice ra ul rc,.slice ta dl tc,.int .i64 fr] 0 q5
 simp only [StR.stL,Nat.zero_add,Nat.reduceAdd] at hg
 have hA9:=blkW_grown hA5 hg (by simp;omega)
 have hS9:=s7E hA9.1
 go_simp
 try go_wp2_with fail
 refine hK.out _ _ hS9 (fun _=>?_)
 clear hK K
 try simp only [Act.put,SL]
 refine wpAnyH_done (by kernel_rfl) ?_ _
 have hB9:=hB5.grown hg hB5.size (fun _ e=>by cases e;omega)
 have G1:=KG1.out _ _ _ _ _ _ hP1 hg (by omega)
 have G2:=KG2.out _ _ _ _ _ _ hP2 hg (by omega)
 have G3:=KG3.out _ _ _ _ _ _ hP3 hg (by omega)
 have G4:=KG4.out _ _ _ _ _ _ hP4 hg (by omega)
 have G5:=KG5.out _ _ _ _ _ _ hP5 hg (by omega)
 have HG1:=H_ G1
 have HG2:=H_ G2
 have HG3:=H_ G3
 have HG4:=H_ G4
 have HG5:=H_ G5
 have HB9:=H_ hB9
 have HZ:Hid (w.heap.size≤W1.heap.size∧W1.heap.size≤q1.heap.size∧q1.heap.size≤q2.heap.size∧q2.heap.size≤q3.heap.size∧q3.heap.size≤q4.heap.size∧q4.heap.size≤q5.heap.size):=H_ ⟨hB0.size,hz1,hz2,hz3,hz4,hz5⟩
 have hsz:=hg.size
 have HSZ:=H_ hsz
 clear hsz hg hB9 G1 hP1 G2 hP2 G3 hP3 G4 hP4 G5 hP5 hA9 hS9 hz1 hz2 hz3 hz4 hz5
 go_wp2_with fail
 refine bodyPost_ret (v:=.agg #[.slice xa ml xc,.slice ya cl yc,.slice za sl zc,.slice pa el pc,.slice ra ul rc,.slice ta dl tc,.int .i64 fr]) (by simp [results,Tryz.results31,go_sem,r0,r1,r2,r3,r4,r5,r6]) rfl ?_
 exact ⟨_,_,_,_,_,_,_,_,_,_,_,_,rfl,W1.heap.size,q1.heap.size,q1.heap.size,q2.heap.size,q2.heap.size,q3.heap.size,q3.heap.size,q4.heap.size,q4.heap.size,q5.heap.size,HG1.out,HG2.out,HG3.out,HG4.out,HG5.out,⟨HZ.out.1,HZ.out.2.1,Nat.le_refl _,HZ.out.2.2.1,Nat.le_refl _,HZ.out.2.2.2.1,Nat.le_refl _,HZ.out.2.2.2.2.1,Nat.le_refl _,HZ.out.2.2.2.2.2,HSZ.out⟩,HB9.out⟩
end EngR
end Go.Proofs.YtnceeaccbcfopaaGreatDoor
