/-
  impl.EngineRight. The conditions: sizes of at most 1048576; the program's variables hold what its text lays.
-/
import Derived.Test.YtnceeaccbcfopaaGreatDoorT140
namespace Go.Proofs.YtnceeaccbcfopaaGreatDoor
open Go.ChangeShapes Go.WideShapes Go.ChangeAt Go.RowKit
set_option linter.unusedVariables false
namespace EngR
open CatR
set_option maxHeartbeats 4000000 in
theorem eright_in (ma:Option Addr) (ml mc:Nat) (ca:Option Addr) (cl cc:Nat) (sa:Option Addr) (sl sc:Nat) (ea:Option Addr) (el ec:Nat) (ua:Option Addr) (ul uc:Nat) (da:Option Addr) (dl dc:Nat) (fr:Int) (b1 b2 b3 b4 b5 b6:Bool) (w:World)
 (h1:∀W,Below w.heap.size w W→Calls Tryz.prog 70 #[.agg #[.slice ma ml mc,.slice ca cl cc]] W fun e w'=>e=.returned (.bool b1)∧Below W.heap.size W w')
 (h2:∀W,Below w.heap.size w W→Calls Tryz.prog 71 #[.slice sa sl sc] W fun e w'=>e=.returned (.bool b2)∧Below W.heap.size W w')
 (h3:∀W,Below w.heap.size w W→Calls Tryz.prog 72 #[.slice da dl dc] W fun e w'=>e=.returned (.bool b3)∧Below W.heap.size W w')
 (h4:∀W,Calls Tryz.prog 73 #[.int .i64 fr] W fun e w'=>e=.returned (.bool b4)∧w'=W)
 (h5:b4=true→∀W,Below w.heap.size w W→Calls Tryz.prog 74 #[.agg #[.slice ma ml mc,.slice ca cl cc,.slice sa sl sc,.slice ea el ec,.slice ua ul uc,.slice da dl dc,.int .i64 fr]] W fun e w'=>e=.returned (.bool b5)∧Below W.heap.size W w')
 (h6:∀W,Below w.heap.size w W→Calls Tryz.prog 75 #[.agg #[.slice ma ml mc,.slice ca cl cc,.slice sa sl sc,.slice ea el ec,.slice ua ul uc,.slice da dl dc,.int .i64 fr]] W fun e w'=>e=.returned (.bool b6)∧Below W.heap.size W w') :
 Calls Tryz.prog 27 #[.agg #[.slice ma ml mc,.slice ca cl cc,.slice sa sl sc,.slice ea el ec,.slice ua ul uc,.slice da dl dc,.int .i64 fr]] w fun e w'=>e=.returned (.bool (b1&&b2&&b3&&b4&&b5&&b6))∧Below w.heap.size w w':=by
 have H1:=H_ h1
 have H2:=H_ h2
 have H3:=H_ h3
 have H4:=H_ h4
 have H5:=H_ h5
 have H6:=H_ h6
 obtain ⟨W0,hW0⟩:∃z,z=w.alloc (.cells #[.slice ma ml mc,.slice ca cl cc,.slice sa sl sc,.slice ea el ec,.slice ua ul uc,.slice da dl dc,.int .i64 fr] 42):=⟨_,rfl⟩
 have hal:Below w.heap.size w W0:=by rw [hW0];exact (Below.refl _ _).alloc (Nat.le_refl _) _
 have hA:Blk w.heap.size [.slice ma ml mc,.slice ca cl cc,.slice sa sl sc,.slice ea el ec,.slice ua ul uc,.slice da dl dc,.int .i64 fr] W0:=by rw [hW0];exact Blk.new w _ _
 have HB0:=H_ hal
 have HA0:=H_ hA
 have HW:=H_ hW0
 clear h1 h2 h3 h4 h5 h6 hal hA hW0
 go_enter Tryz.func27,Tryz.ntmps27
 go_wp2_with fail
 rw [←HW.out]
 clear HW
 refine (H1.out _ HB0.out).mono ?_
 rintro e w1 ⟨rfl,hb⟩
 have HB1:=H_ (HB0.out.trans (hb.mono HB0.out.size))
 have HA1:=H_ (HA0.out.below hb)
 clear hb
 cases b1
 ·go_wp2_with fail
  go_ret
  exact ⟨rfl,HB1.out⟩
 have al:=HA1.out.1
 have c2:w1.cell? ⟨w.heap.size,2,none⟩=some (.slice sa sl sc):=HA1.out.2 2 (by simp)
 go_wp2_with fail
 refine (H2.out _ HB1.out).mono ?_
 rintro e w2 ⟨rfl,hb⟩
 have HB2:=H_ (HB1.out.trans (hb.mono HB1.out.size))
 have HA2:=H_ (HA1.out.below hb)
 clear hb
 clear al c2
 cases b2
 ·go_wp2_with fail
  go_ret
  exact ⟨rfl,HB2.out⟩
 have al:=HA2.out.1
 have c5:w2.cell? ⟨w.heap.size,5,none⟩=some (.slice da dl dc):=HA2.out.2 5 (by simp)
 go_wp2_with fail
 refine (H3.out _ HB2.out).mono ?_
 rintro e w3 ⟨rfl,hb⟩
 have HB3:=H_ (HB2.out.trans (hb.mono HB2.out.size))
 have HA3:=H_ (HA2.out.below hb)
 clear hb
 clear al c5
 cases b3
 ·go_wp2_with fail
  go_ret
  exact ⟨rfl,HB3.out⟩
 have al:=HA3.out.1
 have c6:w3.cell? ⟨w.heap.size,6,none⟩=some (.int .i64 fr):=HA3.out.2 6 (by simp)
 go_wp2_with fail
 refine (H4.out _).mono ?_
 rintro e w4 ⟨rfl,hw⟩
 rw [hw]
 clear hw w4
 clear al
 clear c6
 cases b4
 ·go_wp2_with fail
  go_ret
  exact ⟨rfl,HB3.out⟩
 have al:=HA3.out.1
 have c0:w3.cell? ⟨w.heap.size,0,none⟩=some (.slice ma ml mc):=HA3.out.2 0 (by simp)
 have c1:w3.cell? ⟨w.heap.size,1,none⟩=some (.slice ca cl cc):=HA3.out.2 1 (by simp)
 have c2:w3.cell? ⟨w.heap.size,2,none⟩=some (.slice sa sl sc):=HA3.out.2 2 (by simp)
 have c3:w3.cell? ⟨w.heap.size,3,none⟩=some (.slice ea el ec):=HA3.out.2 3 (by simp)
 have c4:w3.cell? ⟨w.heap.size,4,none⟩=some (.slice ua ul uc):=HA3.out.2 4 (by simp)
 have c5:w3.cell? ⟨w.heap.size,5,none⟩=some (.slice da dl dc):=HA3.out.2 5 (by simp)
 have c6:w3.cell? ⟨w.heap.size,6,none⟩=some (.int .i64 fr):=HA3.out.2 6 (by simp)
 go_wp2_with fail
 refine (H5.out (by trivial) _ HB3.out).mono ?_
 rintro e w5 ⟨rfl,hb⟩
 have HB5:=H_ (HB3.out.trans (hb.mono HB3.out.size))
 have HA5:=H_ (HA3.out.below hb)
 clear hb
 clear al c0 c1 c2 c3 c4 c5 c6
 cases b5
 ·go_wp2_with fail
  go_ret
  exact ⟨rfl,HB5.out⟩
 have al:=HA5.out.1
 have c0:w5.cell? ⟨w.heap.size,0,none⟩=some (.slice ma ml mc):=HA5.out.2 0 (by simp)
 have c1:w5.cell? ⟨w.heap.size,1,none⟩=some (.slice ca cl cc):=HA5.out.2 1 (by simp)
 have c2:w5.cell? ⟨w.heap.size,2,none⟩=some (.slice sa sl sc):=HA5.out.2 2 (by simp)
 have c3:w5.cell? ⟨w.heap.size,3,none⟩=some (.slice ea el ec):=HA5.out.2 3 (by simp)
 have c4:w5.cell? ⟨w.heap.size,4,none⟩=some (.slice ua ul uc):=HA5.out.2 4 (by simp)
 have c5:w5.cell? ⟨w.heap.size,5,none⟩=some (.slice da dl dc):=HA5.out.2 5 (by simp)
 have c6:w5.cell? ⟨w.heap.size,6,none⟩=some (.int .i64 fr):=HA5.out.2 6 (by simp)
 go_wp2_with fail
 refine (H6.out _ HB5.out).mono ?_
 rintro e w6 ⟨rfl,hb⟩
 have HB6:=H_ (HB5.out.trans (hb.mono HB5.out.size))
 clear hb
 clear al c0 c1 c2 c3 c4 c5 c6
 go_wp2_with fail
 go_ret
 exact ⟨ret_bool (by simp),HB6.out⟩
def engB (x:Eng) (v:Int):Bool:=caB x.c&&srcB x.ss&&LedR.lB x.ds&&decide (0≤x.fr∧x.fr≤2760)&&(SeenR.sB x.es && !goneB x.es v)&&winB x.ws x.c.ms x.fr
theorem impl_eng (val:Value) (x:Eng) (v:Int) (w:World) (hS:x.Small) (hE:IsEng val x w) (hwf:∀d∈x.ds,(Lit.int .i64 d.mo).wf=true) (hL:∀W,Below w.heap.size w W→CatR.Laid W) (hL2:∀W,Below w.heap.size w W→DateR.Laid W)
 (hv:0≤x.fr→x.fr≤2760→∀W,Below w.heap.size w W→Calls Tryz.prog 125 #[.int .i64 x.fr] W fun e w'=>e=.returned (.int .i64 v)∧Below W.heap.size W w') :
 Calls Tryz.prog 27 #[val] w fun e w'=>e=.returned (.bool (engB x v))∧Below w.heap.size w w':=by
 obtain ⟨ma,mc,ca,cc,sa,sc,ea,ec,ua,uc,da,dc,rfl,q1,q2,q3,q4,q5,q6⟩:=hE
 refine eright_in ma _ mc ca _ cc sa _ sc ea _ ec ua _ uc da _ dc x.fr (caB x.c) (srcB x.ss) (LedR.lB x.ds) (decide (0≤x.fr∧x.fr≤2760)) (SeenR.sB x.es && !goneB x.es v) (winB x.ws x.c.ms x.fr) w ?_ ?_ ?_ ?_ ?_ ?_
 ·intro W hW
  exact CatR.impl_ca _ x.c W hS.c ⟨ma,mc,ca,cc,rfl,q1.below hW,q2.below hW⟩ (hL W hW)
 ·intro W hW
  exact impl_srcs sa sc x.ss W hS.sl hS.ss (q3.below hW)
 ·intro W hW
  exact LedR.impl_ledger da dc x.ds W hS.dl hS.ds hwf (q6.below hW)
 ·intro W
  exact DocR.iMon x.fr W
 ·intro h4 W hW
  have h4':=of_decide_eq_true h4
  refine eseen_in ma _ mc ca _ cc sa _ sc ea _ ec ua _ uc da _ dc x.fr v _ _ W (fun W2 h2=>hv h4'.1 h4'.2 W2 (hW.trans (h2.mono hW.size))) (fun W2 h2=>?_) (fun W2 B h2 hB hc=>?_)
  ·exact SeenR.impl_seen ea ec x.es W2 hS.el hS.es (q4.below (hW.trans (h2.mono hW.size)))
  ·exact icont ea ec x.es v B W2 (q4.below (hW.trans (h2.mono hW.size))) hS.el hB hc
 ·intro W hW
  refine ewin_in ma _ mc ca _ cc sa _ sc ea _ ec ua uc da _ dc x.fr x.ws x.c.ms W (q5.below hW) hS.wl (fun k hk ta tc ha hc W2 h2 hT hH=>?_) (fun t W2 h2=>?_)
  ·have hk':=hS.ws k hk
   exact WinR.impl_window_right _ ta tc ha hc W2 hk'.1 hk'.2.1 hk'.2.2.1 hk'.2.2.2.1 hk'.2.2.2.2 (hL2 W2 (hW.trans (h2.mono hW.size))) hT hH
  ·exact isells ma ca mc _ cc x.c.ms t W2 (q1.below (hW.trans (h2.mono hW.size))) hS.c.ml
end EngR
end Go.Proofs.YtnceeaccbcfopaaGreatDoor
