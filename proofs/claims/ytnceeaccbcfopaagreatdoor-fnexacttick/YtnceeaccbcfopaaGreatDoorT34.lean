/-
  impl.EngineRight.
  The program's copy of an engine, and its Tick.
  What Tick answers, in numbers; what a right engine's parts are bounded by.
  The conditions stand in what each theorem says.
-/
import Derived.Test.YtnceeaccbcfopaaGreatDoorT33
set_option maxRecDepth 100000
set_option maxHeartbeats 16000000
namespace Go.Proofs.YtnceeaccbcfopaaGreatDoor
open Go.ChangeShapes Go.WideShapes Go.ChangeAt Go.RowKit
set_option linter.unusedVariables false
namespace EngR
open CatR
theorem eright_in (ma:Option Addr) (ml mc:Nat) (ca:Option Addr) (cl cc:Nat) (sa:Option Addr) (sl sc:Nat) (ea:Option Addr) (el ec:Nat) (ua:Option Addr) (ul uc:Nat) (da:Option Addr) (dl dc:Nat) (fr:Int) (b1 b2 b3 b4 b5 b6:Bool) (w:World)
 (h1:∀W,Below w.heap.size w W→Calls Tryz.prog 70 #[.agg #[.slice ma ml mc,.slice ca cl cc]] W fun e w'=>e=.returned (.bool b1)∧Below W.heap.size W w')
 (h2:∀W,Below w.heap.size w W→Calls Tryz.prog 71 #[.slice sa sl sc] W fun e w'=>e=.returned (.bool b2)∧Below W.heap.size W w')
 (h3:∀W,Below w.heap.size w W→Calls Tryz.prog 72 #[.slice da dl dc] W fun e w'=>e=.returned (.bool b3)∧Below W.heap.size W w')
 (h4:∀W,Calls Tryz.prog 73 #[.int .i64 fr] W fun e w'=>e=.returned (.bool b4)∧w'=W)
 (h5:b4=true→∀W,Below w.heap.size w W→Calls Tryz.prog 74 #[.agg #[.slice ma ml mc,.slice ca cl cc,.slice sa sl sc,.slice ea el ec,.slice ua ul uc,.slice da dl dc,.int .i64 fr]] W fun e w'=>e=.returned (.bool b5)∧Below W.heap.size W w')
 (h6:∀W,Below w.heap.size w W→Calls Tryz.prog 75 #[.agg #[.slice ma ml mc,.slice ca cl cc,.slice sa sl sc,.slice ea el ec,.slice ua ul uc,.slice da dl dc,.int .i64 fr]] W fun e w'=>e=.returned (.bool b6)∧Below W.heap.size W w') :
 Calls Tryz.prog 27 #[.agg #[.slice ma ml mc,.slice ca cl cc,.slice sa sl sc,.slice ea el ec,.slice ua ul uc,.slice da dl dc,.int .i64 fr]] w fun e w'=>e=.returned (.bool (b1&&b2&&b3&&b4&&b5&&b6))∧Below w.heap.size w w':=by
 have H1:=H_ h1
 have H2:=H_ h2
 have H3:=H_ h3
 have H4:=H_ h4
 have H5:=H_ h5
 have H6:=H_ h6
 obtain ⟨W0,hW0⟩:∃z,z=w.alloc (.cells #[.slice ma ml mc,.slice ca cl cc,.slice sa sl sc,.slice ea el ec,.slice ua ul uc,.slice da dl dc,.int .i64 fr] 42):=⟨_,rfl⟩
 have hal:Below w.heap.size w W0:=by rw [hW0];exact (Below.refl _ _).alloc (Nat.le_refl _) _
 have hA:Blk w.heap.size [.slice ma ml mc,.slice ca cl cc,.slice sa sl sc,.slice ea el ec,.slice ua ul uc,.slice da dl dc,.int .i64 fr] W0:=by rw [hW0];exact Blk.new w _ _
 have HB0:=H_ hal
 have HA0:=H_ hA
 have HW:=H_ hW0
 clear h1 h2 h3 h4 h5 h6 hal hA hW0
 go_enter Tryz.func27,Tryz.ntmps27
 go_wp2_with fail
 rw [←HW.out]
 clear HW
 refine (H1.out _ HB0.out).mono ?_
 rintro e w1 ⟨rfl,hb⟩
 have HB1:=HT_ HB0 hb
 have HA1:=H_ (HA0.out.below hb)
 clear hb
 cases b1
 ·go_wp2_with fail
  go_ret
  exact ⟨rfl,HB1.out⟩
 have al:=HA1.out.1
 have c2:=q_ HA1.out.2 2
 go_wp2_with fail
 refine (H2.out _ HB1.out).mono ?_
 rintro e w2 ⟨rfl,hb⟩
 have HB2:=HT_ HB1 hb
 have HA2:=H_ (HA1.out.below hb)
 clear hb
 clear al c2
 cases b2
 ·go_wp2_with fail
  go_ret
  exact ⟨rfl,HB2.out⟩
 have al:=HA2.out.1
 have c5:=q_ HA2.out.2 5
 go_wp2_with fail
 refine (H3.out _ HB2.out).mono ?_
 rintro e w3 ⟨rfl,hb⟩
 have HB3:=HT_ HB2 hb
 have HA3:=H_ (HA2.out.below hb)
 clear hb
 clear al c5
 cases b3
 ·go_wp2_with fail
  go_ret
  exact ⟨rfl,HB3.out⟩
 have al:=HA3.out.1
 have c6:=q_ HA3.out.2 6
 go_wp2_with fail
 refine (H4.out _).mono ?_
 rintro e w4 ⟨rfl,hw⟩
 rw [hw]
 clear hw w4
 clear al
 clear c6
 cases b4
 ·go_wp2_with fail
  go_ret
  exact ⟨rfl,HB3.out⟩
 have al:=HA3.out.1
 have c0:=q_ HA3.out.2 0
 have c1:=q_ HA3.out.2 1
 have c2:=q_ HA3.out.2 2
 have c3:=q_ HA3.out.2 3
 have c4:=q_ HA3.out.2 4
 have c5:=q_ HA3.out.2 5
 have c6:=q_ HA3.out.2 6
 go_wp2_with fail
 refine (H5.out (by trivial) _ HB3.out).mono ?_
 rintro e w5 ⟨rfl,hb⟩
 have HB5:=HT_ HB3 hb
 have HA5:=H_ (HA3.out.below hb)
 clear hb
 clear al c0 c1 c2 c3 c4 c5 c6
 cases b5
 ·go_wp2_with fail
  go_ret
  exact ⟨rfl,HB5.out⟩
 have al:=HA5.out.1
 have c0:=q_ HA5.out.2 0
 have c1:=q_ HA5.out.2 1
 have c2:=q_ HA5.out.2 2
 have c3:=q_ HA5.out.2 3
 have c4:=q_ HA5.out.2 4
 have c5:=q_ HA5.out.2 5
 have c6:=q_ HA5.out.2 6
 go_wp2_with fail
 refine (H6.out _ HB5.out).mono ?_
 rintro e w6 ⟨rfl,hb⟩
 have HB6:=HT_ HB5 hb
 clear hb
 clear al c0 c1 c2 c3 c4 c5 c6
 go_wp2_with fail
 go_ret
 exact ⟨ret_bool (by simp),HB6.out⟩
def engB (x:Eng) (v:Int):Bool:=caB x.c&&srcB x.ss&&LedR.lB x.ds&&decide (0≤x.fr∧x.fr≤2760)&&(SeenR.sB x.es && !goneB x.es v)&&winB x.ws x.c.ms x.fr
theorem impl_eng (val:Value) (x:Eng) (v:Int) (w:World) (hS:x.Small) (hE:IsEng val x w) (hwf:∀d∈x.ds,(Lit.int .i64 d.mo).wf=true) (hL:∀W,Below w.heap.size w W→CatR.Laid W) (hL2:∀W,Below w.heap.size w W→DateR.Laid W)
 (hv:0≤x.fr→x.fr≤2760→∀W,Below w.heap.size w W→Calls Tryz.prog 125 #[.int .i64 x.fr] W fun e w'=>e=.returned (.int .i64 v)∧Below W.heap.size W w') :
 Calls Tryz.prog 27 #[val] w fun e w'=>e=.returned (.bool (engB x v))∧Below w.heap.size w w':=by
 obtain ⟨ma,mc,ca,cc,sa,sc,ea,ec,ua,uc,da,dc,rfl,q1,q2,q3,q4,q5,q6⟩:=hE
 refine eright_in ma _ mc ca _ cc sa _ sc ea _ ec ua _ uc da _ dc x.fr (caB x.c) (srcB x.ss) (LedR.lB x.ds) (decide (0≤x.fr∧x.fr≤2760)) (SeenR.sB x.es && !goneB x.es v) (winB x.ws x.c.ms x.fr) w ?_ ?_ ?_ ?_ ?_ ?_
 ·intro W hW
  exact CatR.impl_ca _ x.c W hS.c ⟨ma,mc,ca,cc,rfl,q1.below hW,q2.below hW⟩ (hL W hW)
 ·intro W hW
  exact impl_srcs sa sc x.ss W hS.sl hS.ss (q3.below hW)
 ·intro W hW
  exact LedR.impl_ledger da dc x.ds W hS.dl hS.ds hwf (q6.below hW)
 ·intro W
  exact DocR.iMon x.fr W
 ·intro h4 W hW
  have h4':=of_decide_eq_true h4
  refine eseen_in ma _ mc ca _ cc sa _ sc ea _ ec ua _ uc da _ dc x.fr v _ _ W (fun W2 h2=>hv h4'.1 h4'.2 W2 (hW.trans (h2.mono hW.size))) (fun W2 h2=>?_) (fun W2 B h2 hB hc=>?_)
  ·exact SeenR.impl_seen ea ec x.es W2 hS.el hS.es (q4.below (hW.trans (h2.mono hW.size)))
  ·exact icont ea ec x.es v B W2 (q4.below (hW.trans (h2.mono hW.size))) hS.el hB hc
 ·intro W hW
  refine ewin_in ma _ mc ca _ cc sa _ sc ea _ ec ua uc da _ dc x.fr x.ws x.c.ms W (q5.below hW) hS.wl (fun k hk ta tc ha hc W2 h2 hT hH=>?_) (fun t W2 h2=>?_)
  ·have hk':=hS.ws k hk
   exact WinR.impl_window_right _ ta tc ha hc W2 hk'.1 hk'.2.1 hk'.2.2.1 hk'.2.2.2.1 hk'.2.2.2.2 (hL2 W2 (hW.trans (h2.mono hW.size))) hT hH
  ·exact isells ma ca mc _ cc x.c.ms t W2 (q1.below (hW.trans (h2.mono hW.size))) hS.c.ml
end EngR
namespace EngR
open OwG CatR ChG DocR
open RowG (cellsAll grown_set MadeG Rws)
open EvtR (Pt)
theorem s7E {p:Nat} {a b c d e f g:Value} {W:World} (h:Blk p [a,b,c,d,e,f,g] W):p<W.heap.size∧W.cell? ⟨p,0,none⟩=some a∧W.cell? ⟨p,1,none⟩=some b∧W.cell? ⟨p,2,none⟩=some c∧W.cell? ⟨p,3,none⟩=some d∧W.cell? ⟨p,4,none⟩=some e∧W.cell? ⟨p,5,none⟩=some f∧W.cell? ⟨p,6,none⟩=some g:=⟨h.1,h.2 0 (by simp),h.2 1 (by simp),h.2 2 (by simp),h.2 3 (by simp),h.2 4 (by simp),h.2 5 (by simp),h.2 6 (by simp)⟩
theorem icopy_in (ma:Option Addr) (ml mc:Nat) (ca:Option Addr) (cl cc:Nat) (sa:Option Addr) (sl sc:Nat) (ea:Option Addr) (el ec:Nat) (ua:Option Addr) (ul uc:Nat) (da:Option Addr) (dl dc:Nat) (fr:Int) (A1 A2 A3 A4 A5:Nat→Nat→Value→World→Prop) (w:World)
 (kb1:∀lo hi v W W',A1 lo hi v W→Below W.heap.size W W'→A1 lo hi v W') (kg1:∀lo hi v W W' g,A1 lo hi v W→W.grownBy W' (some g)→g<lo→A1 lo hi v W')
 (kb2:∀lo hi v W W',A2 lo hi v W→Below W.heap.size W W'→A2 lo hi v W') (kg2:∀lo hi v W W' g,A2 lo hi v W→W.grownBy W' (some g)→g<lo→A2 lo hi v W')
 (kb3:∀lo hi v W W',A3 lo hi v W→Below W.heap.size W W'→A3 lo hi v W') (kg3:∀lo hi v W W' g,A3 lo hi v W→W.grownBy W' (some g)→g<lo→A3 lo hi v W')
 (kb4:∀lo hi v W W',A4 lo hi v W→Below W.heap.size W W'→A4 lo hi v W') (kg4:∀lo hi v W W' g,A4 lo hi v W→W.grownBy W' (some g)→g<lo→A4 lo hi v W')
 (kb5:∀lo hi v W W',A5 lo hi v W→Below W.heap.size W W'→A5 lo hi v W') (kg5:∀lo hi v W W' g,A5 lo hi v W→W.grownBy W' (some g)→g<lo→A5 lo hi v W')
 (c1:∀W,Below w.heap.size w W→Calls Tryz.prog 76 #[.agg #[.slice ma ml mc,.slice ca cl cc]] W fun e w'=>∃(xa:Option Addr) (xc:Nat) (ya:Option Addr) (yc:Nat),e=.returned (.agg #[.slice xa ml xc,.slice ya cl yc])∧A1 W.heap.size w'.heap.size (.agg #[.slice xa ml xc,.slice ya cl yc]) w'∧Below W.heap.size W w')
 (c2:∀W,Below w.heap.size w W→Calls Tryz.prog 77 #[.slice sa sl sc] W fun e w'=>∃(za:Option Addr) (zc:Nat),e=.returned (.slice za sl zc)∧A2 W.heap.size w'.heap.size (.slice za sl zc) w'∧Below W.heap.size W w')
 (c3:∀W,Below w.heap.size w W→Calls Tryz.prog 78 #[.slice ea el ec] W fun e w'=>∃(pa:Option Addr) (pc:Nat),e=.returned (.slice pa el pc)∧A3 W.heap.size w'.heap.size (.slice pa el pc) w'∧Below W.heap.size W w')
 (c4:∀W,Below w.heap.size w W→Calls Tryz.prog 79 #[.slice ua ul uc] W fun e w'=>∃(ra:Option Addr) (rc:Nat),e=.returned (.slice ra ul rc)∧A4 W.heap.size w'.heap.size (.slice ra ul rc) w'∧Below W.heap.size W w')
 (c5:∀W,Below w.heap.size w W→Calls Tryz.prog 80 #[.slice da dl dc] W fun e w'=>∃(ta:Option Addr) (tc:Nat),e=.returned (.slice ta dl tc)∧A5 W.heap.size w'.heap.size (.slice ta dl tc) w'∧Below W.heap.size W w') :
 Calls Tryz.prog 31 #[.agg #[.slice ma ml mc,.slice ca cl cc,.slice sa sl sc,.slice ea el ec,.slice ua ul uc,.slice da dl dc,.int .i64 fr]] w fun e w'=>∃(xa:Option Addr) (xc:Nat) (ya:Option Addr) (yc:Nat) (za:Option Addr) (zc:Nat) (pa:Option Addr) (pc:Nat) (ra:Option Addr) (rc:Nat) (ta:Option Addr) (tc:Nat),e=.returned (.agg #[.slice xa ml xc,.slice ya cl yc,.slice za sl zc,.slice pa el pc,.slice ra ul rc,.slice ta dl tc,.int .i64 fr])∧∃l1 h1 l2 h2 l3 h3 l4 h4 l5 h5,A1 l1 h1 (.agg #[.slice xa ml xc,.slice ya cl yc]) w'∧A2 l2 h2 (.slice za sl zc) w'∧A3 l3 h3 (.slice pa el pc) w'∧A4 l4 h4 (.slice ra ul rc) w'∧A5 l5 h5 (.slice ta dl tc) w'∧(w.heap.size≤l1∧l1≤h1∧h1≤l2∧l2≤h2∧h2≤l3∧l3≤h3∧h3≤l4∧l4≤h4∧h4≤l5∧l5≤h5∧h5≤w'.heap.size)∧Below w.heap.size w w':=by
 have C1:=H_ c1
 have KB1:=H_ kb1
 have KG1:=H_ kg1
 have C2:=H_ c2
 have KB2:=H_ kb2
 have KG2:=H_ kg2
 have C3:=H_ c3
 have KB3:=H_ kb3
 have KG3:=H_ kg3
 have C4:=H_ c4
 have KB4:=H_ kb4
 have KG4:=H_ kg4
 have C5:=H_ c5
 have KB5:=H_ kb5
 have KG5:=H_ kg5
 clear c1 kb1 kg1 c2 kb2 kg2 c3 kb3 kg3 c4 kb4 kg4 c5 kb5 kg5
 obtain ⟨W0,hW0⟩:∃z,z=(w.alloc (.cells #[.slice ma ml mc,.slice ca cl cc,.slice sa sl sc,.slice ea el ec,.slice ua ul uc,.slice da dl dc,.int .i64 fr] 42)).alloc (.cells #[.slice none 0 0,.slice none 0 0,.slice none 0 0,.slice none 0 0,.slice none 0 0,.slice none 0 0,.int .i64 0] 42):=⟨_,rfl⟩
 have hb0:Below w.heap.size w W0:=by rw [hW0];exact (al_ _ _).alloc (by simp) _
 have ha0:BlkW w.heap.size [.slice ma ml mc,.slice ca cl cc,.slice sa sl sc,.slice ea el ec,.slice ua ul uc,.slice da dl dc,.int .i64 fr] W0:=by rw [hW0];exact blkW_alloc (BlkW.new w [.slice ma ml mc,.slice ca cl cc,.slice sa sl sc,.slice ea el ec,.slice ua ul uc,.slice da dl dc,.int .i64 fr] 42) _
 have hr0:BlkW (w.heap.size+1) [.slice none 0 0,.slice none 0 0,.slice none 0 0,.slice none 0 0,.slice none 0 0,.slice none 0 0,.int .i64 0] W0:=by
  rw [hW0]
  have:=BlkW.new (w.alloc (.cells #[.slice ma ml mc,.slice ca cl cc,.slice sa sl sc,.slice ea el ec,.slice ua ul uc,.slice da dl dc,.int .i64 fr] 42)) [.slice none 0 0,.slice none 0 0,.slice none 0 0,.slice none 0 0,.slice none 0 0,.slice none 0 0,.int .i64 0] 42
  simpa using this
 obtain ⟨bR,hbR⟩:∃z,z=w.heap.size+1:=⟨_,rfl⟩
 rw [←hbR] at hr0
 have hlo:w.heap.size<bR:=by omega
 have HW:=H_ hW0
 have HBR:=H_ hbR
 clear hW0 hbR
 go_enter Tryz.func31,Tryz.ntmps31
 go_wp2_with fail
 rw [←HW.out,←HBR.out]
 clear HW HBR
 obtain ⟨W1,hW1⟩:∃z,z=W0.drew:=⟨_,rfl⟩
 have hd:Below W0.heap.size W0 W1:=by rw [hW1];exact (Below.refl _ _).drew
 have hB0:=hb0.trans (hd.mono hb0.size)
 have hA0:=ha0.below hd
 have hR0:=hr0.below hd
 have hS0:=s7E hA0.1
 have hl1:bR<W1.heap.size:=hR0.1.1
 refine wp_region_held_drew (S:=(fun W=>w.heap.size<W.heap.size∧W.cell? ⟨w.heap.size,0,none⟩=some (.slice ma ml mc)∧W.cell? ⟨w.heap.size,1,none⟩=some (.slice ca cl cc)∧W.cell? ⟨w.heap.size,2,none⟩=some (.slice sa sl sc)∧W.cell? ⟨w.heap.size,3,none⟩=some (.slice ea el ec)∧W.cell? ⟨w.heap.size,4,none⟩=some (.slice ua ul uc)∧W.cell? ⟨w.heap.size,5,none⟩=some (.slice da dl dc)∧W.cell? ⟨w.heap.size,6,none⟩=some (.int .i64 fr))) (by kernel_rfl) (by rw [←hW1];exact hS0) (fun hHeld=>?_)
 rw [←hW1]
 clear hW1 hd hb0 ha0 hr0
 refine tk 0 ?_
 refine tk 1 ?_
 refine tk 3 ?_
 refine tk 4 ?_
 refine tk 6 ?_
 refine tk 7 ?_
 refine tk 9 ?_
 refine tk 10 ?_
 refine tk 12 ?_
 refine tk 13 ?_
 refine tk 15 ?_
 refine tk 16 ?_
 refine rd 2 (fun K hK=>?_)
 go_simp
 go_at_call 76
 refine (C1.out _ hB0).mono ?_
 rintro e q1 ⟨xa,xc,ya,yc,rfl,hP1,hb1⟩
 try go_wp2_with fail
 have hB1:=hB0.trans (hb1.mono hB0.size)
 have hA1:=hA0.below hb1
 have hR1:=hR0.below hb1
 have hz1:=hb1.size
 have hS1:=s7E hA1.1
 clear hb1
 refine hK.out _ _ hS1 (fun _=>?_)
 clear hK K
 try simp only [Act.put,SL]
 refine rd 5 (fun K hK=>?_)
 go_simp
 go_at_call 77
 refine (C2.out _ hB1).mono ?_
 rintro e q2 ⟨za,zc,rfl,hP2,hb2⟩
 try go_wp2_with fail
 have hB2:=hB1.trans (hb2.mono hB1.size)
 have hA2:=hA1.below hb2
 have hR2:=hR1.below hb2
 have hz2:=hb2.size
 have hS2:=s7E hA2.1
 replace hP1:=KB1.out _ _ _ _ _ hP1 hb2
 clear hb2
 refine hK.out _ _ hS2 (fun _=>?_)
 clear hK K
 try simp only [Act.put,SL]
 refine rd 8 (fun K hK=>?_)
 go_simp
 go_at_call 78
 refine (C3.out _ hB2).mono ?_
 rintro e q3 ⟨pa,pc,rfl,hP3,hb3⟩
 try go_wp2_with fail
 have hB3:=hB2.trans (hb3.mono hB2.size)
 have hA3:=hA2.below hb3
 have hR3:=hR2.below hb3
 have hz3:=hb3.size
 have hS3:=s7E hA3.1
 replace hP1:=KB1.out _ _ _ _ _ hP1 hb3
 replace hP2:=KB2.out _ _ _ _ _ hP2 hb3
 clear hb3
 refine hK.out _ _ hS3 (fun _=>?_)
 clear hK K
 try simp only [Act.put,SL]
 refine rd 11 (fun K hK=>?_)
 go_simp
 go_at_call 79
 refine (C4.out _ hB3).mono ?_
 rintro e q4 ⟨ra,rc,rfl,hP4,hb4⟩
 try go_wp2_with fail
 have hB4:=hB3.trans (hb4.mono hB3.size)
 have hA4:=hA3.below hb4
 have hR4:=hR3.below hb4
 have hz4:=hb4.size
 have hS4:=s7E hA4.1
 replace hP1:=KB1.out _ _ _ _ _ hP1 hb4
 replace hP2:=KB2.out _ _ _ _ _ hP2 hb4
 replace hP3:=KB3.out _ _ _ _ _ hP3 hb4
 clear hb4
 refine hK.out _ _ hS4 (fun _=>?_)
 clear hK K
 try simp only [Act.put,SL]
 refine rd 14 (fun K hK=>?_)
 go_simp
 go_at_call 80
 refine (C5.out _ hB4).mono ?_
 rintro e q5 ⟨ta,tc,rfl,hP5,hb5⟩
 try go_wp2_with fail
 have hB5:=hB4.trans (hb5.mono hB4.size)
 have hA5:=hA4.below hb5
 have hR5:=hR4.below hb5
 have hz5:=hb5.size
 have hS5:=s7E hA5.1
 replace hP1:=KB1.out _ _ _ _ _ hP1 hb5
 replace hP2:=KB2.out _ _ _ _ _ hP2 hb5
 replace hP3:=KB3.out _ _ _ _ _ hP3 hb5
 replace hP4:=KB4.out _ _ _ _ _ hP4 hb5
 clear hb5
 refine hK.out _ _ hS5 (fun _=>?_)
 clear hK K
 try simp only [Act.put,SL]
 refine tk 17 ?_
 refine rd 18 (fun K hK=>?_)
 have rl:=hR5.1.1
 have r0:=q_ hR5.1.2 0
 have f0:=hR5.2 0 (by simp)
 have r1:=q_ hR5.1.2 1
 have f1:=hR5.2 1 (by simp)
 have r2:=q_ hR5.1.2 2
 have f2:=hR5.2 2 (by simp)
 have r3:=q_ hR5.1.2 3
 have f3:=hR5.2 3 (by simp)
 have r4:=q_ hR5.1.2 4
 have f4:=hR5.2 4 (by simp)
 have r5:=q_ hR5.1.2 5
 have f5:=hR5.2 5 (by simp)
 have r6:=q_ hR5.1.2 6
 have f6:=hR5.2 6 (by simp)
 have hg:=StR.stL_grown bR [.slice xa ml xc,.slice ya cl yc,.slice za sl zc,.slice pa el pc,.slice ra ul rc,.slice ta dl tc,.int .i64 fr] 0 q5
 simp only [StR.stL,Nat.zero_add,Nat.reduceAdd] at hg
 have hA9:=blkW_grown hA5 hg (by simp;omega)
 have hS9:=s7E hA9.1
 go_simp
 try go_wp2_with fail
 refine hK.out _ _ hS9 (fun _=>?_)
 clear hK K
 try simp only [Act.put,SL]
 refine wpAnyH_done (by kernel_rfl) ?_ _
 have hB9:=hB5.grown hg hB5.size (fun _ e=>by cases e;omega)
 have G1:=KG1.out _ _ _ _ _ _ hP1 hg (by omega)
 have G2:=KG2.out _ _ _ _ _ _ hP2 hg (by omega)
 have G3:=KG3.out _ _ _ _ _ _ hP3 hg (by omega)
 have G4:=KG4.out _ _ _ _ _ _ hP4 hg (by omega)
 have G5:=KG5.out _ _ _ _ _ _ hP5 hg (by omega)
 have HG1:=H_ G1
 have HG2:=H_ G2
 have HG3:=H_ G3
 have HG4:=H_ G4
 have HG5:=H_ G5
 have HB9:=H_ hB9
 have HZ:Hid (w.heap.size≤W1.heap.size∧W1.heap.size≤q1.heap.size∧q1.heap.size≤q2.heap.size∧q2.heap.size≤q3.heap.size∧q3.heap.size≤q4.heap.size∧q4.heap.size≤q5.heap.size):=H_ ⟨hB0.size,hz1,hz2,hz3,hz4,hz5⟩
 have hsz:=hg.size
 have HSZ:=H_ hsz
 clear hsz hg hB9 G1 hP1 G2 hP2 G3 hP3 G4 hP4 G5 hP5 hA9 hS9 hz1 hz2 hz3 hz4 hz5
 go_wp2_with fail
 refine bodyPost_ret (v:=.agg #[.slice xa ml xc,.slice ya cl yc,.slice za sl zc,.slice pa el pc,.slice ra ul rc,.slice ta dl tc,.int .i64 fr]) (by simp [results,Tryz.results31,go_sem,r0,r1,r2,r3,r4,r5,r6]) rfl ?_
 exact ⟨_,_,_,_,_,_,_,_,_,_,_,_,rfl,W1.heap.size,q1.heap.size,q1.heap.size,q2.heap.size,q2.heap.size,q3.heap.size,q3.heap.size,q4.heap.size,q4.heap.size,q5.heap.size,HG1.out,HG2.out,HG3.out,HG4.out,HG5.out,⟨HZ.out.1,HZ.out.2.1,Nat.le_refl _,HZ.out.2.2.1,Nat.le_refl _,HZ.out.2.2.2.1,Nat.le_refl _,HZ.out.2.2.2.2.1,Nat.le_refl _,HZ.out.2.2.2.2.2,HSZ.out⟩,HB9.out⟩
end EngR
namespace EngR
open OwG CatR ChG DocR
open RowG (cellsAll grown_set)
def E0:Eng:=⟨⟨[],[]⟩,[],[],[],[],0⟩
def six (ss:List Cr) (a:ByteArray):Nat:=ss.findIdx (fun c=>decide (c.a=a))
theorem six_at {ss:List Cr} {a:ByteArray} {k:Nat} (hk:k<ss.length) (hn:∀i,i<k→(ss.getD i Cr.zero).a≠a) (he:(ss.getD k Cr.zero).a=a):six ss a=k:=by
 unfold six
 rw [List.findIdx_eq hk]
 refine ⟨decide_eq_true (by simpa [List.getD,hk] using he),fun j hj=>decide_eq_false (by have:=hn j hj;simpa [List.getD,show j<ss.length by omega] using this)⟩
theorem six_no {ss:List Cr} {a:ByteArray} (hn:∀i,i<ss.length→(ss.getD i Cr.zero).a≠a):six ss a=ss.length:=by
 unfold six
 rw [List.findIdx_eq_length]
 intro x hx
 obtain ⟨i,hi,rfl⟩:=List.getElem_of_mem hx
 exact decide_eq_false (by have:=hn i hi;simpa [List.getD,hi] using this)
def tkD (x:Eng) (v:Int) (a:ByteArray) (m:Int):Eng × Int:=if 8000<a.size then (E0,2) else if engB x v=true then (if six x.ss a<x.ss.length then (if (x.ss.getD (six x.ss a) Cr.zero).m≤m∧m≤121000000 then ({x with ss:=x.ss.set (six x.ss a) ⟨(x.ss.getD (six x.ss a) Cr.zero).a,m⟩},0) else (E0,8)) else (E0,6)) else (E0,1)
theorem set_cr:∀(ss:List Cr) (k:Nat) (m:Int),k<ss.length→(cellsAll Cr.cells ss).set (k*2+1) (.int .i64 m)=cellsAll Cr.cells (ss.set k ⟨(ss.getD k Cr.zero).a,m⟩)
 | [],k,m,h=>absurd h (by simp)
 | x::xs,0,m,_=>by simp [cellsAll,Cr.cells]
 | x::xs,k+1,m,h=>by
  have ih:=set_cr xs k m (by simpa using h)
  have e:(k+1)*2+1=(k*2+1)+1+1:=by omega
  simp only [cellsAll,List.flatMap_cons,Cr.cells,List.cons_append,List.nil_append,List.set_cons_succ,e,List.getD_cons_succ] at *
  rw [ih]
theorem own_wrT {w:World} {base e size n g cap:Nat} {xs:List Value} (h:w.ownsRow base e size (.slice (some ⟨g,0,none⟩) n cap) n xs) (o:Nat) (u:Value):(w.setCell ⟨g,o,none⟩ u).ownsRow base e size (.slice (some ⟨g,0,none⟩) n cap) n (xs.set o u):=by
 obtain ⟨h1,h2⟩:=h
 refine ⟨by rw [List.length_set];exact h1,.inr ?_⟩
 rcases h2 with ⟨h0,_⟩|⟨g',cap',cur,hv,hg,hh,hc,hm,hz,hcur⟩
 ·cases h0
 ·cases hv
  refine ⟨g,cap,cur.setIfInBounds o u,rfl,hg,?_,hc,hm,by simpa using hz,?_⟩
  ·have hlt:g<w.heap.size:=by
    rcases Nat.lt_or_ge g w.heap.size with h|h
    ·exact h
    ·rw [Array.getElem?_eq_none h] at hh;cases hh
   simp only [World.setCell]
   rw [Array.getElem?_modify]
   simp [hh]
  ·rw [Array.toList_setIfInBounds,List.take_set,hcur]
structure Eng.Ok (x:Eng):Prop where
 c:caB x.c=true
 ss:1≤x.ss.length∧x.ss.length≤3
 sm:∀i,i<x.ss.length→0≤(x.ss.getD i Cr.zero).m∧(x.ss.getD i Cr.zero).m≤121000000
 es:x.es.length≤40
 ws:x.ws.length≤16
 wl:∀w∈x.ws,w.ts.length≤12∧1≤w.hs.length∧w.hs.length≤12
 ds:x.ds.length≤30
 dl:∀d∈x.ds,d.ls.length≤6∧d.ls.filter LinR.nz=d.ls
theorem right_nzE {es:List LinR.N} (h:LinR.SRight es):es.filter LinR.nz=es:=by
 rw [List.filter_eq_self]
 intro x hx
 obtain ⟨i,hi,rfl⟩:=List.getElem_of_mem hx
 have:=(h.2 i hi).2
 unfold LinR.lOk at this
 simp only [Bool.and_eq_true] at this
 have h3:=this.2.2
 unfold LinR.nz
 simpa [List.getD,hi] using h3
theorem eng_ok {x:Eng} {v:Int} (h:engB x v=true):x.Ok:=by
 unfold engB at h
 simp only [Bool.and_eq_true] at h
 obtain ⟨⟨⟨⟨⟨hc,hs⟩,hl⟩,hf⟩,he,hg⟩,hw⟩:=h
 unfold srcB at hs
 rw [Bool.and_eq_true] at hs
 have hn:=StxR.nsB_iff.1 hs.2
 have hL:=LedR.lB_iff.1 hl
 have hwd:∀w∈x.ws,WinR.wB w=true:=fun w hm=>by
  obtain ⟨i,hi,rfl⟩:=List.getElem_of_mem hm
  unfold winB at hw
  rw [Bool.and_eq_true] at hw
  have:=List.all_eq_true.1 hw.2 i (List.mem_range.2 hi)
  unfold wok at this
  simp only [Bool.and_eq_true] at this
  have h2:=this.1.1.1
  simpa [List.getD,hi] using h2
 refine ⟨hc,?_,fun i hi=>?_,?_,?_,fun w hm=>?_,hL.1,fun d hm=>?_⟩
 ·have:=hn.1
  rw [nmS_len] at this
  exact this
 ·have:=List.all_eq_true.1 hs.1 _ (RowG.getD_mem (z:=Cr.zero) x.ss i hi)
  unfold minB at this
  exact of_decide_eq_true this
 ·unfold SeenR.sB at he
  have:=@of_decide_eq_true _ (SeenR.SRightDec x.es) he
  exact this.1
 ·unfold winB at hw
  rw [Bool.and_eq_true] at hw
  exact of_decide_eq_true hw.1
 ·have:=hwd w hm
  unfold WinR.wB WinR.tagsB WinR.timedB at this
  simp only [Bool.and_eq_true,decide_eq_true_eq] at this
  exact ⟨this.2.2.1.1,this.2.2.2.1.1,this.2.2.2.1.2⟩
 ·obtain ⟨i,hi,rfl⟩:=List.getElem_of_mem hm
  have:=(hL.2.1 i hi).1
  unfold DocR.dB at this
  simp only [Bool.and_eq_true] at this
  have h2:=LinR.sB_iff.1 this.2.2.2.1
  have e:x.ds.getD i LedR.D.zero=x.ds[i]:=by simp [List.getD,hi]
  rw [e] at h2
  exact ⟨h2.1,right_nzE h2⟩
theorem sum_le {α:Type} (f:α→Nat) (B:Nat):∀l:List α,(∀x∈l,f x≤B)→(l.map f).sum≤B*l.length
 | [],_=>by simp
 | x::l,h=>by
  have h1:=sum_le f B l (fun y hy=>h y (List.mem_cons_of_mem _ hy))
  have h2:=h x (List.mem_cons_self ..)
  simp only [List.map_cons,List.sum_cons,List.length_cons,Nat.mul_add,Nat.mul_one]
  omega
theorem ok_tot {x:Eng} (h:x.Ok):1+totE x≤5300001:=by
 obtain ⟨⟨m6,hm⟩,⟨c6,_⟩⟩:=caB_iffC.1 h.c
 have t1:=sum_le (fun m:Me=>5+2*m.ts.length) 15 x.c.ms (fun m hq=>by
  obtain ⟨i,hi,rfl⟩:=List.getElem_of_mem hq
  have:=(me_facts (hm i hi).1).2.2
  have e:x.c.ms.getD i Me.zero=x.c.ms[i]:=by simp [List.getD,hi]
  rw [e] at this
  show 5+2*x.c.ms[i].ts.length≤15
  omega)
 have t2:=sum_le (fun w:WinR.Wd=>6+w.ts.length+2*w.hs.length) 42 x.ws (fun w hq=>by
  have:=h.wl w hq
  show 6+w.ts.length+2*w.hs.length≤42
  omega)
 have t3:=sum_le (fun d:DocR.D=>3+2*d.ls.length) 15 x.ds (fun d hq=>by
  have:=(h.dl d hq).1
  show 3+2*d.ls.length≤15
  omega)
 have s1:=h.ss.2
 have s2:=h.es
 have s3:=h.ws
 have s4:=h.ds
 unfold totE totM totW totD
 omega
theorem tot_zero:1+totE E0≤5300001:=by decide
theorem small_zero:E0.Small:=⟨⟨by simp [E0],(fun m h=>by simp [E0] at h),by simp [E0],(fun m h=>by simp [E0] at h)⟩,by simp [E0],(fun i h=>by simp [E0] at h),by simp [E0],(fun e h=>by simp [E0] at h),by simp [E0],(fun i h=>by simp [E0] at h),by simp [E0],(fun e h=>by simp [E0] at h)⟩
theorem tk_tot {x:Eng} {v:Int} {a:ByteArray} {m:Int}:1+totE (tkD x v a m).1≤5300001:=by
 unfold tkD
 split
 ·exact tot_zero
 ·split
  ·rename_i hq
   have h:=ok_tot (eng_ok hq)
   split
   ·split
    ·simp only [totE,List.length_set] at *
     exact h
    ·exact tot_zero
   ·exact tot_zero
  ·exact tot_zero
theorem tk_small {x:Eng} {v:Int} {a:ByteArray} {m:Int} (hx:x.Small):(tkD x v a m).1.Small:=by
 unfold tkD
 split
 ·exact small_zero
 ·split
  ·split
   ·split
    ·refine {hx with sl:=by rw [List.length_set];exact hx.sl,ss:=fun i hi=>?_}
     rw [List.length_set] at hi
     by_cases e:six x.ss a=i
     ·subst e
      have:=hx.ss _ hi
      simpa [List.getD,hi] using this
     ·have:=hx.ss i hi
      simpa [List.getD,hi,e] using this
    ·exact small_zero
   ·exact small_zero
  ·exact small_zero
end EngR
end Go.Proofs.YtnceeaccbcfopaaGreatDoor
