/-
  impl.EngineRight. The conditions: sizes of at most 1048576; the program's variables hold what its text lays.
  spec.EngineRight. The condition: sizes of at most 1048576.
  An engine is right: spec.EngineRight and impl.EngineRight say the same. The conditions: sizes of at most 1048576; the program's variables hold what its text lays.
  What slices.SortFunc hands back at structs. The kit's structure, laid over this program.
  Windows with the places of their lists; slices.SortFunc of windows by their meters. The condition: fewer than 4611686018427387904 of them.
-/
import Derived.Shelf.SlSortCmp.WholeK
import Derived.Ground.SlsfProg
import Derived.Test.YtmalfhhkjdkadaaGreatDoorProg
import Derived.Deep.RegionHeld3
import Derived.Test.YtmalfhhkjdkadaaGreatDoorN27
namespace Go.Proofs.YtmalfhhkjdkadaaGreatDoor
open Go.ChangeShapes Go.WideShapes Go.ChangeAt Go.RowKit
set_option linter.unusedVariables false
namespace EngR
open CatR
set_option maxHeartbeats 4000000 in
theorem eright_in (ma:Option Addr) (ml mc:Nat) (ca:Option Addr) (cl cc:Nat) (sa:Option Addr) (sl sc:Nat) (ea:Option Addr) (el ec:Nat) (ua:Option Addr) (ul uc:Nat) (da:Option Addr) (dl dc:Nat) (fr:Int) (b1 b2 b3 b4 b5 b6:Bool) (w:World)
 (h1:∀W,Below w.heap.size w W→Calls Tryz.prog 69 #[.agg #[.slice ma ml mc,.slice ca cl cc]] W fun e w'=>e=.returned (.bool b1)∧Below W.heap.size W w')
 (h2:∀W,Below w.heap.size w W→Calls Tryz.prog 70 #[.slice sa sl sc] W fun e w'=>e=.returned (.bool b2)∧Below W.heap.size W w')
 (h3:∀W,Below w.heap.size w W→Calls Tryz.prog 71 #[.slice da dl dc] W fun e w'=>e=.returned (.bool b3)∧Below W.heap.size W w')
 (h4:∀W,Calls Tryz.prog 72 #[.int .i64 fr] W fun e w'=>e=.returned (.bool b4)∧w'=W)
 (h5:b4=true→∀W,Below w.heap.size w W→Calls Tryz.prog 73 #[.agg #[.slice ma ml mc,.slice ca cl cc,.slice sa sl sc,.slice ea el ec,.slice ua ul uc,.slice da dl dc,.int .i64 fr]] W fun e w'=>e=.returned (.bool b5)∧Below W.heap.size W w')
 (h6:∀W,Below w.heap.size w W→Calls Tryz.prog 74 #[.agg #[.slice ma ml mc,.slice ca cl cc,.slice sa sl sc,.slice ea el ec,.slice ua ul uc,.slice da dl dc,.int .i64 fr]] W fun e w'=>e=.returned (.bool b6)∧Below W.heap.size W w') :
 Calls Tryz.prog 28 #[.agg #[.slice ma ml mc,.slice ca cl cc,.slice sa sl sc,.slice ea el ec,.slice ua ul uc,.slice da dl dc,.int .i64 fr]] w fun e w'=>e=.returned (.bool (b1&&b2&&b3&&b4&&b5&&b6))∧Below w.heap.size w w':=by
 have H1:=hid_intro h1
 have H2:=hid_intro h2
 have H3:=hid_intro h3
 have H4:=hid_intro h4
 have H5:=hid_intro h5
 have H6:=hid_intro h6
 obtain ⟨W0,hW0⟩:∃z,z=w.alloc (.cells #[.slice ma ml mc,.slice ca cl cc,.slice sa sl sc,.slice ea el ec,.slice ua ul uc,.slice da dl dc,.int .i64 fr] 46):=⟨_,rfl⟩
 have hal:Below w.heap.size w W0:=by rw [hW0];exact (Below.refl _ _).alloc (Nat.le_refl _) _
 have hA:Blk w.heap.size [.slice ma ml mc,.slice ca cl cc,.slice sa sl sc,.slice ea el ec,.slice ua ul uc,.slice da dl dc,.int .i64 fr] W0:=by rw [hW0];exact Blk.new w _ _
 have HB0:=hid_intro hal
 have HA0:=hid_intro hA
 have HW:=hid_intro hW0
 clear h1 h2 h3 h4 h5 h6 hal hA hW0
 go_enter Tryz.func28,Tryz.ntmps28
 go_wp2_with fail
 rw [←HW.out]
 clear HW
 refine (H1.out _ HB0.out).mono ?_
 rintro e w1 ⟨rfl,hb⟩
 have HB1:=hid_intro (HB0.out.trans (hb.mono HB0.out.size))
 have HA1:=hid_intro (HA0.out.below hb)
 clear hb
 cases b1
 ·go_wp2_with fail
  go_ret
  exact ⟨rfl,HB1.out⟩
 have al:=HA1.out.1
 have c2:w1.cell? ⟨w.heap.size,2,none⟩=some (.slice sa sl sc):=HA1.out.2 2 (by simp)
 go_wp2_with fail
 refine (H2.out _ HB1.out).mono ?_
 rintro e w2 ⟨rfl,hb⟩
 have HB2:=hid_intro (HB1.out.trans (hb.mono HB1.out.size))
 have HA2:=hid_intro (HA1.out.below hb)
 clear hb
 clear al c2
 cases b2
 ·go_wp2_with fail
  go_ret
  exact ⟨rfl,HB2.out⟩
 have al:=HA2.out.1
 have c5:w2.cell? ⟨w.heap.size,5,none⟩=some (.slice da dl dc):=HA2.out.2 5 (by simp)
 go_wp2_with fail
 refine (H3.out _ HB2.out).mono ?_
 rintro e w3 ⟨rfl,hb⟩
 have HB3:=hid_intro (HB2.out.trans (hb.mono HB2.out.size))
 have HA3:=hid_intro (HA2.out.below hb)
 clear hb
 clear al c5
 cases b3
 ·go_wp2_with fail
  go_ret
  exact ⟨rfl,HB3.out⟩
 have al:=HA3.out.1
 have c6:w3.cell? ⟨w.heap.size,6,none⟩=some (.int .i64 fr):=HA3.out.2 6 (by simp)
 go_wp2_with fail
 refine (H4.out _).mono ?_
 rintro e w4 ⟨rfl,hw⟩
 rw [hw]
 clear hw w4
 clear al
 clear c6
 cases b4
 ·go_wp2_with fail
  go_ret
  exact ⟨rfl,HB3.out⟩
 have al:=HA3.out.1
 have c0:w3.cell? ⟨w.heap.size,0,none⟩=some (.slice ma ml mc):=HA3.out.2 0 (by simp)
 have c1:w3.cell? ⟨w.heap.size,1,none⟩=some (.slice ca cl cc):=HA3.out.2 1 (by simp)
 have c2:w3.cell? ⟨w.heap.size,2,none⟩=some (.slice sa sl sc):=HA3.out.2 2 (by simp)
 have c3:w3.cell? ⟨w.heap.size,3,none⟩=some (.slice ea el ec):=HA3.out.2 3 (by simp)
 have c4:w3.cell? ⟨w.heap.size,4,none⟩=some (.slice ua ul uc):=HA3.out.2 4 (by simp)
 have c5:w3.cell? ⟨w.heap.size,5,none⟩=some (.slice da dl dc):=HA3.out.2 5 (by simp)
 have c6:w3.cell? ⟨w.heap.size,6,none⟩=some (.int .i64 fr):=HA3.out.2 6 (by simp)
 go_wp2_with fail
 refine (H5.out (by trivial) _ HB3.out).mono ?_
 rintro e w5 ⟨rfl,hb⟩
 have HB5:=hid_intro (HB3.out.trans (hb.mono HB3.out.size))
 have HA5:=hid_intro (HA3.out.below hb)
 clear hb
 clear al c0 c1 c2 c3 c4 c5 c6
 cases b5
 ·go_wp2_with fail
  go_ret
  exact ⟨rfl,HB5.out⟩
 have al:=HA5.out.1
 have c0:w5.cell? ⟨w.heap.size,0,none⟩=some (.slice ma ml mc):=HA5.out.2 0 (by simp)
 have c1:w5.cell? ⟨w.heap.size,1,none⟩=some (.slice ca cl cc):=HA5.out.2 1 (by simp)
 have c2:w5.cell? ⟨w.heap.size,2,none⟩=some (.slice sa sl sc):=HA5.out.2 2 (by simp)
 have c3:w5.cell? ⟨w.heap.size,3,none⟩=some (.slice ea el ec):=HA5.out.2 3 (by simp)
 have c4:w5.cell? ⟨w.heap.size,4,none⟩=some (.slice ua ul uc):=HA5.out.2 4 (by simp)
 have c5:w5.cell? ⟨w.heap.size,5,none⟩=some (.slice da dl dc):=HA5.out.2 5 (by simp)
 have c6:w5.cell? ⟨w.heap.size,6,none⟩=some (.int .i64 fr):=HA5.out.2 6 (by simp)
 go_wp2_with fail
 refine (H6.out _ HB5.out).mono ?_
 rintro e w6 ⟨rfl,hb⟩
 have HB6:=hid_intro (HB5.out.trans (hb.mono HB5.out.size))
 clear hb
 clear al c0 c1 c2 c3 c4 c5 c6
 go_wp2_with fail
 go_ret
 exact ⟨ret_bool (by simp),HB6.out⟩
def engB (x:Eng) (v:Int):Bool:=caB x.c&&srcB x.ss&&LedR.lB x.ds&&decide (0≤x.fr∧x.fr≤2760)&&(SeenR.sB x.es && !goneB x.es v)&&winB x.ws x.c.ms x.fr
theorem impl_eng (val:Value) (x:Eng) (v:Int) (w:World) (hS:x.Small) (hE:IsEng val x w) (hwf:∀d∈x.ds,(Lit.int .i64 d.mo).wf=true) (hL:∀W,Below w.heap.size w W→CatR.Laid W) (hL2:∀W,Below w.heap.size w W→DateR.Laid W)
 (hv:0≤x.fr→x.fr≤2760→∀W,Below w.heap.size w W→Calls Tryz.prog 119 #[.int .i64 x.fr] W fun e w'=>e=.returned (.int .i64 v)∧Below W.heap.size W w') :
 Calls Tryz.prog 28 #[val] w fun e w'=>e=.returned (.bool (engB x v))∧Below w.heap.size w w':=by
 obtain ⟨ma,mc,ca,cc,sa,sc,ea,ec,ua,uc,da,dc,rfl,q1,q2,q3,q4,q5,q6⟩:=hE
 refine eright_in ma _ mc ca _ cc sa _ sc ea _ ec ua _ uc da _ dc x.fr (caB x.c) (srcB x.ss) (LedR.lB x.ds) (decide (0≤x.fr∧x.fr≤2760)) (SeenR.sB x.es && !goneB x.es v) (winB x.ws x.c.ms x.fr) w ?_ ?_ ?_ ?_ ?_ ?_
 ·intro W hW
  exact CatR.impl_ca _ x.c W hS.c ⟨ma,mc,ca,cc,rfl,q1.below hW,q2.below hW⟩ (hL W hW)
 ·intro W hW
  exact impl_srcs sa sc x.ss W hS.sl hS.ss (q3.below hW)
 ·intro W hW
  exact LedR.impl_ledger da dc x.ds W hS.dl hS.ds hwf (q6.below hW)
 ·intro W
  exact DocR.iMon x.fr W
 ·intro h4 W hW
  have h4':=of_decide_eq_true h4
  refine eseen_in ma _ mc ca _ cc sa _ sc ea _ ec ua _ uc da _ dc x.fr v _ _ W (fun W2 h2=>hv h4'.1 h4'.2 W2 (hW.trans (h2.mono hW.size))) (fun W2 h2=>?_) (fun W2 B h2 hB hc=>?_)
  ·exact SeenR.impl_seen ea ec x.es W2 hS.el hS.es (q4.below (hW.trans (h2.mono hW.size)))
  ·exact icont ea ec x.es v B W2 (q4.below (hW.trans (h2.mono hW.size))) hS.el hB hc
 ·intro W hW
  refine ewin_in ma _ mc ca _ cc sa _ sc ea _ ec ua uc da _ dc x.fr x.ws x.c.ms W (q5.below hW) hS.wl (fun k hk ta tc ha hc W2 h2 hT hH=>?_) (fun t W2 h2=>?_)
  ·have hk':=hS.ws k hk
   exact WinR.impl_window_right _ ta tc ha hc W2 hk'.1 hk'.2.1 hk'.2.2.1 hk'.2.2.2.1 hk'.2.2.2.2 (hL2 W2 (hW.trans (h2.mono hW.size))) hT hH
  ·exact isells ma ca mc _ cc x.c.ms t W2 (q1.below (hW.trans (h2.mono hW.size))) hS.c.ml
end EngR
namespace EngR
open CatR
open WinR (Wd Wns wcells wB wlt Tgs Hrs)
theorem gone_yes {es:List SeenR.N} {v:Int} {k:Nat} (hk:k<es.length) (h:(es.getD k SeenR.N.zero).n<v):goneB es v=true:=by
 refine List.any_eq_true.2 ⟨es[k],List.getElem_mem hk,decide_eq_true ?_⟩
 simpa [List.getD,hk] using h
theorem gone_no {es:List SeenR.N} {v:Int} (h:∀k,k<es.length→¬(es.getD k SeenR.N.zero).n<v):goneB es v=false:=by
 refine List.any_eq_false.2 (fun x hx=>?_)
 obtain ⟨i,hi,rfl⟩:=List.getElem_of_mem hx
 have:=h i hi
 simpa [List.getD,hi] using this
set_option maxRecDepth 100000 in
set_option maxHeartbeats 8000000 in
theorem seright_in (ma:Option Addr) (ml mc:Nat) (ca:Option Addr) (cl cc:Nat) (sa:Option Addr) (sl sc:Nat) (ea:Option Addr) (ec:Nat) (ua:Option Addr) (uc:Nat) (da:Option Addr) (dl dc:Nat) (fr v:Int) (ms:List Me) (es:List SeenR.N) (ws:List Wd) (b1 b2 b3 b4 b5:Bool) (w:World)
 (hE:SeenR.Ens ea es w) (hel:es.length≤1048576) (hI:Wns ua ws w) (hlen:ws.length≤1048576)
 (h1:∀W,Below w.heap.size w W→Calls Tryz.prog 49 #[.agg #[.slice ma ml mc,.slice ca cl cc]] W fun e w'=>e=.returned (.bool b1)∧Below W.heap.size W w')
 (h2:∀W,Below w.heap.size w W→Calls Tryz.prog 50 #[.slice ea es.length ec] W fun e w'=>e=.returned (.bool b2)∧Below W.heap.size W w')
 (h3:∀W,Below w.heap.size w W→Calls Tryz.prog 51 #[.slice da dl dc] W fun e w'=>e=.returned (.bool b3)∧Below W.heap.size W w')
 (h4:∀W,Below w.heap.size w W→Calls Tryz.prog 52 #[.slice sa sl sc] W fun e w'=>e=.returned (.bool b4)∧Below W.heap.size W w')
 (h5:∀W,Calls Tryz.prog 53 #[.int .i64 fr] W fun e w'=>e=.returned (.bool b5)∧w'=W)
 (hw:∀k,k<ws.length→∀ta tc ha hc W,Below w.heap.size w W→Tgs ta (ws.getD k Wd.zero).ts W→Hrs ha (ws.getD k Wd.zero).hs W→Calls Tryz.prog 54 #[.agg (wcells (ws.getD k Wd.zero) ta tc ha hc)] W fun e w'=>e=.returned (.bool (wB (ws.getD k Wd.zero)))∧Below W.heap.size W w')
 (hs:∀t,∃r:Int,decide (r<0)=(!sellB ms t)∧∀W,Below w.heap.size w W→Calls Tryz.prog 55 #[.agg #[.slice ma ml mc,.slice ca cl cc],.string t] W fun e w'=>e=.returned (.int .i64 r)∧Below W.heap.size W w')
 (hv:b5=true→∀W,Below w.heap.size w W→Calls Tryz.prog 57 #[.int .i64 fr] W fun e w'=>e=.returned (.int .i64 v)∧Below W.heap.size W w') :
 Calls Tryz.prog 19 #[.agg #[.slice ma ml mc,.slice ca cl cc,.slice sa sl sc,.slice ea es.length ec,.slice ua ws.length uc,.slice da dl dc,.int .i64 fr]] w fun e w'=>e=.returned (.bool (b1&&b2&&b3&&b4&&b5&&winB ws ms fr && !goneB es v))∧Below w.heap.size w w':=by
 have H1:=hid_intro h1
 have H2:=hid_intro h2
 have H3:=hid_intro h3
 have H4:=hid_intro h4
 have H5:=hid_intro h5
 have HV:=hid_intro hv
 have HI:=hid_intro hI
 have HE:=hid_intro hE
 have HWR:=hid_intro hw
 have HAT:=hid_intro hs
 have HF:Hid (∀k,k<ws.length→wok ws ms fr k=false→winB ws ms fr=false):=hid_intro (fun k hk h=>winB_no hk h)
 have HG:Hid (16<ws.length→winB ws ms fr=false):=hid_intro (fun h=>winB_long h)
 have HY:Hid (ws.length≤16→(∀i,i<ws.length→wok ws ms fr i=true)→winB ws ms fr=true):=hid_intro (fun h h2=>winB_yes h h2)
 have HGN:Hid (∀k,k<es.length→(es.getD k SeenR.N.zero).n<v→goneB es v=true):=hid_intro (fun k hk h=>gone_yes hk h)
 have HGY:Hid ((∀k,k<es.length→¬(es.getD k SeenR.N.zero).n<v)→goneB es v=false):=hid_intro (fun h=>gone_no h)
 generalize winB ws ms fr=RW at *
 generalize goneB es v=RG at *
 obtain ⟨ul,hul⟩:∃z,z=ws.length:=⟨_,rfl⟩
 obtain ⟨el,hell⟩:∃z,z=es.length:=⟨_,rfl⟩
 have HL:=hid_intro hul
 have HLE:=hid_intro hell
 rw [←hul] at hlen HF HG HY ⊢
 rw [←hell] at hel HGN HGY H2 ⊢
 obtain ⟨W0,hW0⟩:∃z,z=w.alloc (.cells #[.slice ma ml mc,.slice ca cl cc,.slice sa sl sc,.slice ea el ec,.slice ua ul uc,.slice da dl dc,.int .i64 fr] 46):=⟨_,rfl⟩
 have hal:Below w.heap.size w W0:=by rw [hW0];exact (Below.refl _ _).alloc (Nat.le_refl _) _
 have hA:Blk w.heap.size [.slice ma ml mc,.slice ca cl cc,.slice sa sl sc,.slice ea el ec,.slice ua ul uc,.slice da dl dc,.int .i64 fr] W0:=by rw [hW0];exact Blk.new w _ _
 have HB0:=hid_intro hal
 have HA0:=hid_intro hA
 have HWq:=hid_intro hW0
 have al:=hA.1
 clear h1 h2 h3 h4 h5 hw hs hv hI hE hul hell hal hW0 hA al
 go_enter Tryz.func19,Tryz.ntmps19
 go_wp2_with fail
 rw [←HWq.out]
 clear HWq
 refine (H1.out _ HB0.out).mono ?_
 rintro e w1 ⟨rfl,hb⟩
 have HB1:=hid_intro (HB0.out.trans (hb.mono HB0.out.size))
 have HA1:=hid_intro (HA0.out.below hb)
 clear hb
 cases b1
 ·go_wp2_with fail
  go_ret
  exact ⟨rfl,HB1.out⟩
 have al:=HA1.out.1
 have c3:w1.cell? ⟨w.heap.size,3,none⟩=some (.slice ea el ec):=HA1.out.2 3 (by simp)
 go_wp2_with fail
 refine (H2.out _ HB1.out).mono ?_
 rintro e w2 ⟨rfl,hb⟩
 have HB2:=hid_intro (HB1.out.trans (hb.mono HB1.out.size))
 have HA2:=hid_intro (HA1.out.below hb)
 clear hb
 clear al c3
 cases b2
 ·go_wp2_with fail
  go_ret
  exact ⟨rfl,HB2.out⟩
 have al:=HA2.out.1
 have c5:w2.cell? ⟨w.heap.size,5,none⟩=some (.slice da dl dc):=HA2.out.2 5 (by simp)
 go_wp2_with fail
 refine (H3.out _ HB2.out).mono ?_
 rintro e w3 ⟨rfl,hb⟩
 have HB3:=hid_intro (HB2.out.trans (hb.mono HB2.out.size))
 have HA3:=hid_intro (HA2.out.below hb)
 clear hb
 clear al c5
 cases b3
 ·go_wp2_with fail
  go_ret
  exact ⟨rfl,HB3.out⟩
 have al:=HA3.out.1
 have c2:w3.cell? ⟨w.heap.size,2,none⟩=some (.slice sa sl sc):=HA3.out.2 2 (by simp)
 go_wp2_with fail
 refine (H4.out _ HB3.out).mono ?_
 rintro e w4 ⟨rfl,hb⟩
 have HB4:=hid_intro (HB3.out.trans (hb.mono HB3.out.size))
 have HA4:=hid_intro (HA3.out.below hb)
 clear hb
 clear al c2
 cases b4
 ·go_wp2_with fail
  go_ret
  exact ⟨rfl,HB4.out⟩
 have al:=HA4.out.1
 have c4:w4.cell? ⟨w.heap.size,4,none⟩=some (.slice ua ul uc):=HA4.out.2 4 (by simp)
 have c6:w4.cell? ⟨w.heap.size,6,none⟩=some (.int .i64 fr):=HA4.out.2 6 (by simp)
 by_cases h16:16<ul
 ·have h2:(16:Int)<(ul:Int):=by omega
  have HR:=hid_intro (HG.out h16)
  go_wp2_with fail
  go_ret
  exact ⟨ret_bool (by rw [HR.out];simp),HB4.out⟩
 have h2:¬(16:Int)<(ul:Int):=by omega
 go_wp2_with fail
 refine (H5.out _).mono ?_
 rintro e w5 ⟨rfl,hw⟩
 rw [hw]
 clear hw w5 al c4 c6
 cases b5
 ·go_wp2_with fail
  go_ret
  exact ⟨rfl,HB4.out⟩
 clear H1 H2 H3 H4 H5 HB1 HB2 HB3 HB0 HA0 HA1 HA2 HA3
 go_wp2_with fail
 go_loopw [3] (fun z wr=>∃k:Nat,k≤ul∧z=.int .i64 k∧Hid (∀i,i<k→wok ws ms fr i=true)∧Hid (Blk w.heap.size [.slice ma ml mc,.slice ca cl cc,.slice sa sl sc,.slice ea el ec,.slice ua ul uc,.slice da dl dc,.int .i64 fr] wr)∧Hid (Below w.heap.size w wr)) (fun z _=>ul-(intOf z).toNat)
 case atStart=>exact ⟨0,by omega,rfl,hid_intro (fun i hi=>absurd hi (by omega)),HA4,HB4⟩
 case round =>
  clear HA4 HB4
  obtain ⟨k,hk,rfl,HK,HA,HB⟩:=hrel
  by_cases hlt:k<ul
  ·have hlt2:(k:Int)<(ul:Int):=by omega
   obtain ⟨b,off,ta,tc,ha,hc,rfl,hbl,c0,c1,c2,c3,c4,c5,c6,c7,hT,hH⟩:=(HI.out.below HB.out).at k (by have:=HL.out;omega)
   have hlk:k<ws.length:=by have:=HL.out;omega
   have HWK:=hid_intro (HWR.out k hlk ta tc ha hc)
   have HFK:=hid_intro (HF.out k hlt)
   have HMK:Hid (wok ws ms fr k=true→∀i,i<k+1→wok ws ms fr i=true):=hid_intro (fun h=>okMore HK.out h)
   have HOK:Hid (wok ws ms fr k=(wB (ws.getD k Wd.zero)&&sellB ms (ws.getD k Wd.zero).m && !decide ((ws.getD k Wd.zero).mo<fr)&&(k==0||wlt (ws.getD (k-1) Wd.zero) (ws.getD k Wd.zero)))):=hid_intro rfl
   obtain ⟨X,hX⟩:∃z,z=ws.getD k Wd.zero:=⟨_,rfl⟩
   rw [←hX] at c0 c1 c2 c3 c4 c5 c6 c7 hT hH HWK HOK
   have HWL:Hid (∀(Y:Wd) (ta' ha':Option Addr) (tc' hc':Nat) (W:World),Calls Tryz.prog 56 #[.agg (wcells Y ta' tc' ha' hc'),.agg (wcells X ta tc ha hc)] W fun e w'=>e=.returned (.bool (wlt Y X))∧Below W.heap.size W w'):=hid_intro (fun Y ta' ha' tc' hc' W=>WinR.sless Y X ta' ha' ta ha tc' hc' tc hc W)
   generalize hqw:wB X=bw at *
   clear hqw
   generalize hqw:(fun Y=>wlt Y X)=WL at *
   have hWL:∀Y,wlt Y X=WL Y:=fun Y=>congrFun hqw Y
   simp only [hWL] at HWL HOK
   clear hqw hWL hX
   obtain ⟨xa,xm,xo,xe,xs,xx,xt,xh⟩:=X
   dsimp only [wcells] at c0 c1 c2 c3 c4 c5 c6 c7 hT hH HWK HOK HWL
   obtain ⟨W1,hW1⟩:∃z,z=wr.alloc (.cells #[.string xa,.string xm,.int .i64 xo,.int .i64 xe,.int .i64 xs,.int .i64 xx,.slice ta xt.length tc,.slice ha xh.length hc] 107):=⟨_,rfl⟩
   have hal:Below wr.heap.size wr W1:=by rw [hW1];exact (Below.refl _ _).alloc (Nat.le_refl _) _
   have hX1:Blk wr.heap.size [.string xa,.string xm,.int .i64 xo,.int .i64 xe,.int .i64 xs,.int .i64 xx,.slice ta xt.length tc,.slice ha xh.length hc] W1:=by rw [hW1];exact Blk.new wr _ _
   have HB1:=hid_intro (HB.out.trans (hal.mono HB.out.size))
   have hA1:=HA.out.below hal
   have HA1:=hid_intro hA1
   have HW1:=hid_intro hW1
   obtain ⟨S,hS⟩:∃S:World→Prop,∀W,S W↔Below W1.heap.size W1 W:=⟨_,fun _=>Iff.rfl⟩
   have HSC:Hid (∀s:HW S,Below W1.heap.size W1 s.w):=hid_intro (fun s=>(hS _).1 s.h)
   have HSW:Hid (∀s:HW S,Below w.heap.size w s.w):=hid_intro (fun s=>HB1.out.trans (((hS _).1 s.h).mono HB1.out.size))
   have HSB:Hid (∀(s:HW S) w',Below s.w.heap.size s.w w'→S w'):=hid_intro (fun s w' hb=>(hS _).2 ((HSC.out s).trans (hb.mono (HSC.out s).size)))
   have HSD:Hid (S W1.drew):=hid_intro ((hS _).2 (Below.refl _ _).drew)
   have hne:Nonempty (HW S):=⟨⟨_,HSD.out⟩⟩
   have HWKS:=hid_intro (fun s:HW S=>HWK.out s.w (HSW.out s) ((hT.below hal).below (HSC.out s)) ((hH.below hal).below (HSC.out s)))
   have hIS:=(HI.out.below HB1.out)
   have hal0:=HA.out.1
   obtain ⟨r,hr,hat⟩:=HAT.out xm
   have HATS:=hid_intro (fun s:HW S=>hat s.w (HSW.out s))
   clear hat hT hH hal hW1 HWK hS
   have hX2:=hX1
   generalize xt.length=tl at *
   generalize xh.length=hl at *
   have a4:wr.cell? ⟨w.heap.size,4,none⟩=some (.slice (some ⟨b,off,none⟩) ul uc):=HA.out.2 4 (by simp)
   go_wp2_with fail
   rw [←HW1.out]
   clear HW1 c0 c1 c2 c3 c4 c5 c6 c7 a4 hal0
   generalize wr.heap.size=B at *
   have bl:=hX1.1
   have al:=hA1.1
   have e0:∀s:HW S,s.w.cell? ⟨w.heap.size,0,none⟩=some (.slice ma ml mc):=fun s=>((HSC.out s).cell (p:=⟨w.heap.size,0,none⟩) al).trans (hA1.2 0 (by simp))
   have e1:∀s:HW S,s.w.cell? ⟨w.heap.size,1,none⟩=some (.slice ca cl cc):=fun s=>((HSC.out s).cell (p:=⟨w.heap.size,1,none⟩) al).trans (hA1.2 1 (by simp))
   have e4:∀s:HW S,s.w.cell? ⟨w.heap.size,4,none⟩=some (.slice (some ⟨b,off,none⟩) ul uc):=fun s=>((HSC.out s).cell (p:=⟨w.heap.size,4,none⟩) al).trans (hA1.2 4 (by simp))
   have e6:∀s:HW S,s.w.cell? ⟨w.heap.size,6,none⟩=some (.int .i64 fr):=fun s=>((HSC.out s).cell (p:=⟨w.heap.size,6,none⟩) al).trans (hA1.2 6 (by simp))
   have f0:∀s:HW S,s.w.cell? ⟨B,0,none⟩=some (.string xa):=fun s=>((HSC.out s).cell (p:=⟨B,0,none⟩) bl).trans (hX1.2 0 (by simp))
   have f1:∀s:HW S,s.w.cell? ⟨B,1,none⟩=some (.string xm):=fun s=>((HSC.out s).cell (p:=⟨B,1,none⟩) bl).trans (hX1.2 1 (by simp))
   have f2:∀s:HW S,s.w.cell? ⟨B,2,none⟩=some (.int .i64 xo):=fun s=>((HSC.out s).cell (p:=⟨B,2,none⟩) bl).trans (hX1.2 2 (by simp))
   have f3:∀s:HW S,s.w.cell? ⟨B,3,none⟩=some (.int .i64 xe):=fun s=>((HSC.out s).cell (p:=⟨B,3,none⟩) bl).trans (hX1.2 3 (by simp))
   have f4:∀s:HW S,s.w.cell? ⟨B,4,none⟩=some (.int .i64 xs):=fun s=>((HSC.out s).cell (p:=⟨B,4,none⟩) bl).trans (hX1.2 4 (by simp))
   have f5:∀s:HW S,s.w.cell? ⟨B,5,none⟩=some (.int .i64 xx):=fun s=>((HSC.out s).cell (p:=⟨B,5,none⟩) bl).trans (hX1.2 5 (by simp))
   have f6:∀s:HW S,s.w.cell? ⟨B,6,none⟩=some (.slice ta tl tc):=fun s=>((HSC.out s).cell (p:=⟨B,6,none⟩) bl).trans (hX1.2 6 (by simp))
   have f7:∀s:HW S,s.w.cell? ⟨B,7,none⟩=some (.slice ha hl hc):=fun s=>((HSC.out s).cell (p:=⟨B,7,none⟩) bl).trans (hX1.2 7 (by simp))
   clear hX1 hX2 hA1 al bl
   cases bw
   ·have HR:=hid_intro (HFK.out (by rw [HOK.out];simp))
    refine wp_region_hw S (by kernel_rfl) (by kernel_rfl) HSD.out ?_
    repeat (go_big_quiet_step ((rename_i s;first|(go_at_call 54;refine (HWKS.out s).mono ?_;rintro e w1 ⟨rfl,hb1⟩;exact ⟨rfl,⟨w1,HSB.out s w1 hb1⟩,rfl⟩)|(go_at_call 55;refine (HATS.out s).mono ?_;rintro e w1 ⟨rfl,hb1⟩;exact ⟨rfl,⟨w1,HSB.out s w1 hb1⟩,rfl⟩))))
    refine wpQuiet_nil ?_
    intro _ hw'
    obtain ⟨s,hw''⟩:=hw'
    subst hw''
    have HBF:=hid_intro (HSW.out s)
    go_wp2_with fail
    go_ret
    exact ⟨ret_bool (by rw [HR.out];simp),HBF.out⟩
   generalize sellB ms xm=bs at *
   cases bs
   ·have HR:=hid_intro (HFK.out (by rw [HOK.out];simp))
    have hr0:r<0:=of_decide_eq_true (by rw [hr];rfl)
    clear hr
    refine wp_region_hw S (by kernel_rfl) (by kernel_rfl) HSD.out ?_
    repeat (go_big_quiet_step ((rename_i s;first|(go_at_call 54;refine (HWKS.out s).mono ?_;rintro e w1 ⟨rfl,hb1⟩;exact ⟨rfl,⟨w1,HSB.out s w1 hb1⟩,rfl⟩)|(go_at_call 55;refine (HATS.out s).mono ?_;rintro e w1 ⟨rfl,hb1⟩;exact ⟨rfl,⟨w1,HSB.out s w1 hb1⟩,rfl⟩))))
    refine wpQuiet_nil ?_
    intro _ hw'
    obtain ⟨s,hw''⟩:=hw'
    subst hw''
    have HBF:=hid_intro (HSW.out s)
    go_wp2_with fail
    go_ret
    exact ⟨ret_bool (by rw [HR.out];simp),HBF.out⟩
   have hr0:¬r<0:=of_decide_eq_false (by rw [hr];rfl)
   clear hr
   rcases (show k=0∨∃j,k=j+1 from by rcases k with _|j;exact .inl rfl;exact .inr ⟨j,rfl⟩) with rfl|⟨j,hkj⟩
   ·by_cases hmo:xo<fr
    ·have HR:=hid_intro (HFK.out (by rw [HOK.out];simp [hmo]))
     refine wp_region_hw S (by kernel_rfl) (by kernel_rfl) HSD.out ?_
     repeat (go_big_quiet_step ((rename_i s;first|(go_at_call 54;refine (HWKS.out s).mono ?_;rintro e w1 ⟨rfl,hb1⟩;exact ⟨rfl,⟨w1,HSB.out s w1 hb1⟩,rfl⟩)|(go_at_call 55;refine (HATS.out s).mono ?_;rintro e w1 ⟨rfl,hb1⟩;exact ⟨rfl,⟨w1,HSB.out s w1 hb1⟩,rfl⟩))))
     refine wpQuiet_nil ?_
     intro _ hw'
     obtain ⟨s,hw''⟩:=hw'
     subst hw''
     have HBF:=hid_intro (HSW.out s)
     go_wp2_with fail
     go_ret
     exact ⟨ret_bool (by rw [HR.out];simp),HBF.out⟩
    ·have HM2:=hid_intro (HMK.out (by rw [HOK.out];simp [hmo]))
     refine wp_region_hw S (by kernel_rfl) (by kernel_rfl) HSD.out ?_
     repeat (go_big_quiet_step ((rename_i s;first|(go_at_call 54;refine (HWKS.out s).mono ?_;rintro e w1 ⟨rfl,hb1⟩;exact ⟨rfl,⟨w1,HSB.out s w1 hb1⟩,rfl⟩)|(go_at_call 55;refine (HATS.out s).mono ?_;rintro e w1 ⟨rfl,hb1⟩;exact ⟨rfl,⟨w1,HSB.out s w1 hb1⟩,rfl⟩))))
     refine wpQuiet_nil ?_
     intro _ hw'
     obtain ⟨s,hw''⟩:=hw'
     subst hw''
     have HBF:=hid_intro (HSW.out s)
     have HAF:=hid_intro (HA1.out.below (HSC.out s))
     go_wp2_with fail
     go_roundw
     case rel=>exact ⟨0+1,by omega,by go_num,HM2,HAF,HBF⟩
     case measure=>simp [intOf];omega
   obtain ⟨b',off',ta',tc',ha',hc',hbo,hbl',d0,d1,d2,d3,d4,d5,d6,d7,_,_⟩:=hIS.at j (by have:=HL.out;omega)
   obtain ⟨rfl,rfl⟩:b=b'∧off=off':=by simpa using hbo
   clear hbo
   have HWL2:=hid_intro (HWL.out (ws.getD j Wd.zero) ta' ha' tc' hc')
   have HOK2:Hid (wok ws ms fr k=(!decide (xo<fr)&&WL (ws.getD j Wd.zero))):=hid_intro (by rw [HOK.out];simp [hkj])
   clear HOK HWL
   generalize WL (ws.getD j Wd.zero)=lb at *
   generalize ws.getD j Wd.zero=Y at *
   obtain ⟨ya,ym,yo,ye,ys,yx,yt,yh⟩:=Y
   dsimp only [wcells] at d0 d1 d2 d3 d4 d5 d6 d7 HWL2
   generalize yt.length=tl' at *
   generalize yh.length=hl' at *
   have hj1:IntKind.i64.wrap ((k:Int)-1)=(j:Int):=by rw [IntKind.wrap_i64];omega
   have hj2:0<k:=by omega
   have hj3:(j:Int)<(ul:Int):=by omega
   clear hkj hIS
   have g0:∀s:HW S,s.w.cell? ⟨b,off+j*8,none⟩=some (.string ya):=fun s=>((HSC.out s).cell (p:=⟨b,off+j*8,none⟩) hbl').trans d0
   have g1:∀s:HW S,s.w.cell? ⟨b,off+j*8+1,none⟩=some (.string ym):=fun s=>((HSC.out s).cell (p:=⟨b,off+j*8+1,none⟩) hbl').trans d1
   have g2:∀s:HW S,s.w.cell? ⟨b,off+j*8+2,none⟩=some (.int .i64 yo):=fun s=>((HSC.out s).cell (p:=⟨b,off+j*8+2,none⟩) hbl').trans d2
   have g3:∀s:HW S,s.w.cell? ⟨b,off+j*8+3,none⟩=some (.int .i64 ye):=fun s=>((HSC.out s).cell (p:=⟨b,off+j*8+3,none⟩) hbl').trans d3
   have g4:∀s:HW S,s.w.cell? ⟨b,off+j*8+4,none⟩=some (.int .i64 ys):=fun s=>((HSC.out s).cell (p:=⟨b,off+j*8+4,none⟩) hbl').trans d4
   have g5:∀s:HW S,s.w.cell? ⟨b,off+j*8+5,none⟩=some (.int .i64 yx):=fun s=>((HSC.out s).cell (p:=⟨b,off+j*8+5,none⟩) hbl').trans d5
   have g6:∀s:HW S,s.w.cell? ⟨b,off+j*8+6,none⟩=some (.slice ta' tl' tc'):=fun s=>((HSC.out s).cell (p:=⟨b,off+j*8+6,none⟩) hbl').trans d6
   have g7:∀s:HW S,s.w.cell? ⟨b,off+j*8+7,none⟩=some (.slice ha' hl' hc'):=fun s=>((HSC.out s).cell (p:=⟨b,off+j*8+7,none⟩) hbl').trans d7
   clear d0 d1 d2 d3 d4 d5 d6 d7
   cases lb
   ·have HR:=hid_intro (HFK.out (by rw [HOK2.out];simp))
    refine wp_region_hw S (by kernel_rfl) (by kernel_rfl) HSD.out ?_
    repeat (go_big_quiet_step ((rename_i s;first|(go_at_call 54;refine (HWKS.out s).mono ?_;rintro e w1 ⟨rfl,hb1⟩;exact ⟨rfl,⟨w1,HSB.out s w1 hb1⟩,rfl⟩)|(go_at_call 55;refine (HATS.out s).mono ?_;rintro e w1 ⟨rfl,hb1⟩;exact ⟨rfl,⟨w1,HSB.out s w1 hb1⟩,rfl⟩)|(go_at_call 56;refine (HWL2.out s.w).mono ?_;rintro e w1 ⟨rfl,hb1⟩;exact ⟨rfl,⟨w1,HSB.out s w1 hb1⟩,rfl⟩))))
    refine wpQuiet_nil ?_
    intro _ hw'
    obtain ⟨s,hw''⟩:=hw'
    subst hw''
    have HBF:=hid_intro (HSW.out s)
    go_wp2_with fail
    go_ret
    exact ⟨ret_bool (by rw [HR.out];simp),HBF.out⟩
   by_cases hmo:xo<fr
   ·have HR:=hid_intro (HFK.out (by rw [HOK2.out];simp [hmo]))
    refine wp_region_hw S (by kernel_rfl) (by kernel_rfl) HSD.out ?_
    repeat (go_big_quiet_step ((rename_i s;first|(go_at_call 54;refine (HWKS.out s).mono ?_;rintro e w1 ⟨rfl,hb1⟩;exact ⟨rfl,⟨w1,HSB.out s w1 hb1⟩,rfl⟩)|(go_at_call 55;refine (HATS.out s).mono ?_;rintro e w1 ⟨rfl,hb1⟩;exact ⟨rfl,⟨w1,HSB.out s w1 hb1⟩,rfl⟩)|(go_at_call 56;refine (HWL2.out s.w).mono ?_;rintro e w1 ⟨rfl,hb1⟩;exact ⟨rfl,⟨w1,HSB.out s w1 hb1⟩,rfl⟩))))
    refine wpQuiet_nil ?_
    intro _ hw'
    obtain ⟨s,hw''⟩:=hw'
    subst hw''
    have HBF:=hid_intro (HSW.out s)
    go_wp2_with fail
    go_ret
    exact ⟨ret_bool (by rw [HR.out];simp),HBF.out⟩
   ·have HM2:=hid_intro (HMK.out (by rw [HOK2.out];simp [hmo]))
    refine wp_region_hw S (by kernel_rfl) (by kernel_rfl) HSD.out ?_
    repeat (go_big_quiet_step ((rename_i s;first|(go_at_call 54;refine (HWKS.out s).mono ?_;rintro e w1 ⟨rfl,hb1⟩;exact ⟨rfl,⟨w1,HSB.out s w1 hb1⟩,rfl⟩)|(go_at_call 55;refine (HATS.out s).mono ?_;rintro e w1 ⟨rfl,hb1⟩;exact ⟨rfl,⟨w1,HSB.out s w1 hb1⟩,rfl⟩)|(go_at_call 56;refine (HWL2.out s.w).mono ?_;rintro e w1 ⟨rfl,hb1⟩;exact ⟨rfl,⟨w1,HSB.out s w1 hb1⟩,rfl⟩))))
    refine wpQuiet_nil ?_
    intro _ hw'
    obtain ⟨s,hw''⟩:=hw'
    subst hw''
    have HBF:=hid_intro (HSW.out s)
    have HAF:=hid_intro (HA1.out.below (HSC.out s))
    go_wp2_with fail
    go_roundw
    case rel=>exact ⟨k+1,by omega,by go_num,HM2,HAF,HBF⟩
    case measure=>simp [intOf];omega
  ·have hlt2:¬(k:Int)<(ul:Int):=by omega
   obtain rfl:k=ul:=by omega
   have HR:=hid_intro (HY.out (by omega) HK.out)
   have al:=HA.out.1
   have a4:wr.cell? ⟨w.heap.size,4,none⟩=some (.slice ua k uc):=HA.out.2 4 (by simp)
   go_wp2_with fail
   clear a4 al HY HF HG HWR HAT HI
   go_loopw [5] (fun z wr=>∃k9:Nat,k9≤el∧z=.int .i64 k9∧Hid (∀i,i<k9→¬(es.getD i SeenR.N.zero).n<v)∧Hid (Blk w.heap.size [.slice ma ml mc,.slice ca cl cc,.slice sa sl sc,.slice ea el ec,.slice ua k uc,.slice da dl dc,.int .i64 fr] wr)∧Hid (Below w.heap.size w wr)) (fun z _=>el-(intOf z).toNat)
   case atStart=>exact ⟨0,by omega,rfl,hid_intro (fun i hi=>absurd hi (by omega)),HA,HB⟩
   case round =>
    clear HA HB
    obtain ⟨m,hm,rfl,HK2,HA,HB⟩:=hrel
    have al:=HA.out.1
    have a3:wr.cell? ⟨w.heap.size,3,none⟩=some (.slice ea el ec):=HA.out.2 3 (by simp)
    have a6:wr.cell? ⟨w.heap.size,6,none⟩=some (.int .i64 fr):=HA.out.2 6 (by simp)
    by_cases hlt:m<el
    ·have hlt2:(m:Int)<(el:Int):=by omega
     obtain ⟨b,off,rfl,hbl,c0,c1,c2⟩:=(HE.out.below HB.out).at m (by have:=HLE.out;omega)
     have HGK:=hid_intro (HGN.out m hlt)
     have HM9:Hid (¬(es.getD m SeenR.N.zero).n<v→∀i,i<m+1→¬(es.getD i SeenR.N.zero).n<v):=hid_intro (fun h i hi=>by
      by_cases e:i=m
      ·subst e;exact h
      ·exact HK2.out i (by omega))
     generalize es.getD m SeenR.N.zero=X at *
     obtain ⟨xi,xn,xs⟩:=X
     dsimp only at c0 c1 c2 HGK HM9
     obtain ⟨S,hS⟩:∃S:World→Prop,∀W,S W↔Below wr.heap.size wr W:=⟨_,fun _=>Iff.rfl⟩
     have HSC:Hid (∀s:HW S,Below wr.heap.size wr s.w):=hid_intro (fun s=>(hS _).1 s.h)
     have HSW:Hid (∀s:HW S,Below w.heap.size w s.w):=hid_intro (fun s=>HB.out.trans (((hS _).1 s.h).mono HB.out.size))
     have HSB:Hid (∀(s:HW S) w',Below s.w.heap.size s.w w'→S w'):=hid_intro (fun s w' hb=>(hS _).2 ((HSC.out s).trans (hb.mono (HSC.out s).size)))
     have HSD:Hid (S wr.drew):=hid_intro ((hS _).2 (Below.refl _ _).drew)
     have hne:Nonempty (HW S):=⟨⟨_,HSD.out⟩⟩
     have HVK:=hid_intro (fun s:HW S=>HV.out (by trivial) s.w (HSW.out s))
     have e3:∀s:HW S,s.w.cell? ⟨w.heap.size,3,none⟩=some (.slice (some ⟨b,off,none⟩) el ec):=fun s=>((HSC.out s).cell (p:=⟨w.heap.size,3,none⟩) al).trans a3
     have e6:∀s:HW S,s.w.cell? ⟨w.heap.size,6,none⟩=some (.int .i64 fr):=fun s=>((HSC.out s).cell (p:=⟨w.heap.size,6,none⟩) al).trans a6
     have g1:∀s:HW S,s.w.cell? ⟨b,off+m*3+1,none⟩=some (.int .i64 xn):=fun s=>((HSC.out s).cell (p:=⟨b,off+m*3+1,none⟩) hbl).trans c1
     clear hS
     by_cases hx:xn<v
     ·have HR2:=hid_intro (HGK.out hx)
      go_wp2_with fail
      clear a3 a6 c0 c1 c2 al
      refine wp_region_hw S (by kernel_rfl) (by kernel_rfl) HSD.out ?_
      repeat (go_big_quiet_step ((rename_i s;go_at_call 57;refine (HVK.out s).mono ?_;rintro e w1 ⟨rfl,hb1⟩;exact ⟨rfl,⟨w1,HSB.out s w1 hb1⟩,rfl⟩)))
      refine wpQuiet_nil ?_
      intro _ hw'
      obtain ⟨s,hw''⟩:=hw'
      subst hw''
      have HB8:=hid_intro (HSW.out s)
      go_wp2_with fail
      go_ret
      exact ⟨ret_bool (by rw [HR.out,HR2.out];rfl),HB8.out⟩
     ·have HM2:=hid_intro (HM9.out (by first|exact hx|omega))
      go_wp2_with fail
      clear a3 a6 c0 c1 c2 al
      refine wp_region_hw S (by kernel_rfl) (by kernel_rfl) HSD.out ?_
      repeat (go_big_quiet_step ((rename_i s;go_at_call 57;refine (HVK.out s).mono ?_;rintro e w1 ⟨rfl,hb1⟩;exact ⟨rfl,⟨w1,HSB.out s w1 hb1⟩,rfl⟩)))
      refine wpQuiet_nil ?_
      intro _ hw'
      obtain ⟨s,hw''⟩:=hw'
      subst hw''
      have HB8:=hid_intro (HSW.out s)
      have HA8:=hid_intro (HA.out.below (HSC.out s))
      go_wp2_with fail
      go_roundw
      case rel=>exact ⟨m+1,by omega,by go_num,hid_intro (fun i hi=>by have:=HM2.out i hi;omega),HA8,HB8⟩
      case measure=>simp [intOf];omega
    ·have hlt2:¬(m:Int)<(el:Int):=by omega
     obtain rfl:m=el:=by omega
     have HR2:=hid_intro (HGY.out (fun i hi=>by have:=HK2.out i hi;omega))
     go_wp2_with fail
     go_ret
     exact ⟨ret_bool (by rw [HR.out,HR2.out];rfl),HB.out⟩
end EngR
namespace EngR
open CatR
theorem at_first (ms:List Me) (t:ByteArray) (n:Nat):(∃k,k<n∧mN ms k=t∧∀i,i<k→mN ms i≠t)∨(∀i,i<n→mN ms i≠t):=by
 induction n with
 | zero=>exact .inr (fun i h=>absurd h (by omega))
 | succ n ih =>
  rcases ih with ⟨k,hk,h1,h2⟩|h
  ·exact .inl ⟨k,by omega,h1,h2⟩
  ·by_cases e:mN ms n=t
   ·exact .inl ⟨n,by omega,e,h⟩
   ·refine .inr (fun i hi=>?_)
    by_cases q:i=n
    ·subst q;exact e
    ·exact h i (by omega)
theorem at_ex (ms:List Me) (t:ByteArray):∃r,atB ms t r:=by
 rcases at_first ms t ms.length with ⟨k,hk,h1,h2⟩|h
 ·exact ⟨k,.inl ⟨k,hk,rfl,h1,h2⟩⟩
 ·exact ⟨-1,.inr ⟨rfl,h⟩⟩
theorem at_one {ms:List Me} {t:ByteArray} {r r':Int} (h:atB ms t r) (h':atB ms t r'):r=r':=by
 rcases h with ⟨k,hk,rfl,h1,h2⟩|⟨rfl,h⟩<;>rcases h' with ⟨k',hk',rfl,h1',h2'⟩|⟨rfl,h'⟩
 ·have a:=fun q=>h2 k' q h1'
  have b:=fun q=>h2' k q h1
  rcases Nat.lt_trichotomy k k' with q|q|q
  ·exact (b q).elim
  ·rw [q]
  ·exact (a q).elim
 ·exact absurd h1 (h' k hk)
 ·exact absurd h1' (h k' hk')
 ·rfl
theorem spec_eng (val:Value) (x:Eng) (v:Int) (w:World) (hS:x.Small) (hE:IsEng val x w)
 (hv:0≤x.fr→x.fr≤2760→∀W,Below w.heap.size w W→Calls Tryz.prog 57 #[.int .i64 x.fr] W fun e w'=>e=.returned (.int .i64 v)∧Below W.heap.size W w') :
 Calls Tryz.prog 19 #[val] w fun e w'=>e=.returned (.bool (engB x v))∧Below w.heap.size w w':=by
 obtain ⟨ma,mc,ca,cc,sa,sc,ea,ec,ua,uc,da,dc,rfl,q1,q2,q3,q4,q5,q6⟩:=hE
 refine (seright_in ma _ mc ca _ cc sa _ sc ea ec ua uc da _ dc x.fr v x.c.ms x.es x.ws (caB x.c) (SeenR.sB x.es) (LedR.lB x.ds) (srcB x.ss) (decide (0≤x.fr∧x.fr≤2760)) w q4 hS.el q5 hS.wl ?_ ?_ ?_ ?_ ?_ ?_ ?_ ?_).mono ?_
 ·intro W hW
  exact CatR.spec_ca _ x.c W hS.c ⟨ma,mc,ca,cc,rfl,q1.below hW,q2.below hW⟩
 ·intro W hW
  exact SeenR.spec_seen ea ec x.es W hS.el hS.es (q4.below hW)
 ·intro W hW
  exact LedR.spec_ledger da dc x.ds W hS.dl hS.ds (q6.below hW)
 ·intro W hW
  exact spec_srcsA sa sc x.ss W hS.sl hS.ss (q3.below hW)
 ·intro W
  exact WinR.sisMonth_any x.fr W
 ·intro k hk ta tc ha hc W hW hT hH
  have hk':=hS.ws k hk
  exact WinR.spec_window_right _ ta tc ha hc W hk'.1 hk'.2.1 hk'.2.2.1 hk'.2.2.2.1 hT hH
 ·intro t
  obtain ⟨r,hr⟩:=at_ex x.c.ms t
  refine ⟨r,at_sell hr,fun W hW=>(spec_at ma mc ca _ cc x.c.ms t W hS.c.ml (q1.below hW)).mono ?_⟩
  rintro e w' ⟨r',rfl,hr',hb⟩
  exact ⟨by rw [at_one hr' hr],hb⟩
 ·intro h W hW
  have h4:=of_decide_eq_true h
  exact hv h4.1 h4.2 W hW
 ·rintro e w' ⟨rfl,hb⟩
  refine ⟨?_,hb⟩
  unfold engB
  generalize caB x.c=a1
  generalize SeenR.sB x.es=a2
  generalize LedR.lB x.ds=a3
  generalize srcB x.ss=a4
  generalize decide (0≤x.fr∧x.fr≤2760)=a5
  generalize winB x.ws x.c.ms x.fr=a6
  generalize goneB x.es v=a7
  cases a1<;>cases a2<;>cases a3<;>cases a4<;>cases a5<;>cases a6<;>cases a7<;>rfl
theorem start_num (m:Int):∃v:Int,(0≤m→m≤2760→∀w,DateR.Laid w→Calls Tryz.prog 119 #[.int .i64 m] w fun e w'=>e=.returned (.int .i64 v)∧Below w.heap.size w w')∧(0≤m→m≤2760→∀w,Calls Tryz.prog 57 #[.int .i64 m] w fun e w'=>e=.returned (.int .i64 v)∧Below w.heap.size w w'):=by
 by_cases h:0≤m∧m≤2760
 ·obtain ⟨v,h1,h2⟩:=DateR.start_eng m h.1 h.2
  exact ⟨v,fun _ _=>h1,fun _ _=>h2⟩
 ·exact ⟨0,fun a b=>absurd ⟨a,b⟩ h,fun a b=>absurd ⟨a,b⟩ h⟩
end EngR
end Go.Proofs.YtmalfhhkjdkadaaGreatDoor
namespace Go.Proofs
open Go.Shelf
def Tryz.sortS_ren:Go.Shelf.Ren:=⟨fun|6=>175|15=>209|14=>208|28=>241|29=>242|20=>233|21=>234|22=>235|23=>236|24=>237|25=>238|26=>239|27=>240|46=>247|47=>248|48=>249|49=>250|50=>251|57=>254|n=>n,fun|22=>43|24=>107|25=>190|3=>3|39=>283|0=>0|53=>307|55=>309|4=>4|46=>300|45=>299|50=>304|5=>5|9=>9|66=>311|70=>315|76=>318|77=>319|n=>n,fun|n=>n⟩
theorem Tryz.sortS:Go.Proofs.SlLaysF0.n6 Tryz.prog Tryz.sortS_ren:={
 mixed:=by kernel_rfl
 f6:=⟨Tryz.f175.name,by decide,Tryz.func175.trans (congrArg some (by kernel_rfl))⟩
 f14:=⟨Tryz.f208.name,by decide,Tryz.func208.trans (congrArg some (by kernel_rfl))⟩
 f15:=Tryz.func209.trans (congrArg some (by kernel_rfl))
 f20:=⟨Tryz.f233.name,by decide,Tryz.func233.trans (congrArg some (by kernel_rfl))⟩
 f21:=⟨Tryz.f234.name,by decide,Tryz.func234.trans (congrArg some (by kernel_rfl))⟩
 f22:=⟨Tryz.f235.name,by decide,Tryz.func235.trans (congrArg some (by kernel_rfl))⟩
 f23:=⟨Tryz.f236.name,by decide,Tryz.func236.trans (congrArg some (by kernel_rfl))⟩
 f24:=⟨Tryz.f237.name,by decide,Tryz.func237.trans (congrArg some (by kernel_rfl))⟩
 f25:=⟨Tryz.f238.name,by decide,Tryz.func238.trans (congrArg some (by kernel_rfl))⟩
 f26:=⟨Tryz.f239.name,by decide,Tryz.func239.trans (congrArg some (by kernel_rfl))⟩
 f27:=⟨Tryz.f240.name,by decide,Tryz.func240.trans (congrArg some (by kernel_rfl))⟩
 f28:=Tryz.func241.trans (congrArg some (by kernel_rfl))
 f29:=Tryz.func242.trans (congrArg some (by kernel_rfl))
 f46:=⟨Tryz.f247.name,by decide,Tryz.func247.trans (congrArg some (by kernel_rfl))⟩
 f47:=Tryz.func248.trans (congrArg some (by kernel_rfl))
 f48:=Tryz.func249.trans (congrArg some (by kernel_rfl))
 f49:=⟨Tryz.f250.name,by decide,Tryz.func250.trans (congrArg some (by kernel_rfl))⟩
 f50:=⟨Tryz.f251.name,by decide,Tryz.func251.trans (congrArg some (by kernel_rfl))⟩
 f57:=⟨Tryz.f254.name,by decide,Tryz.func254.trans (congrArg some (by kernel_rfl))⟩
 t0:=Tryz.underlying0
 a0:=Tryz.isAgg0
 z0:=Tryz.sizeOf0
 v0:=Tryz.zeroValue0
 t3:=Tryz.underlying3
 a3:=Tryz.isAgg3
 z3:=Tryz.sizeOf3
 v3:=Tryz.zeroValue3
 t4:=Tryz.underlying4
 a4:=Tryz.isAgg4
 z4:=Tryz.sizeOf4
 v4:=Tryz.zeroValue4
 t5:=Tryz.underlying5
 a5:=Tryz.isAgg5
 z5:=Tryz.sizeOf5
 v5:=Tryz.zeroValue5
 t9:=Tryz.underlying9
 a9:=Tryz.isAgg9
 z9:=Tryz.sizeOf9
 v9:=Tryz.zeroValue9
 t22:=Tryz.underlying43
 a22:=Tryz.isAgg43
 z22:=Tryz.sizeOf43
 v22:=Tryz.zeroValue43
 t25:=Tryz.underlying190
 a25:=Tryz.isAgg190
 z25:=Tryz.sizeOf190
 v25:=Tryz.zeroValue190
 t39:=Tryz.underlying283
 a39:=Tryz.isAgg283
 z39:=Tryz.sizeOf283
 v39:=Tryz.zeroValue283
 t45:=Tryz.underlying299
 a45:=Tryz.isAgg299
 z45:=Tryz.sizeOf299
 v45:=Tryz.zeroValue299
 t46:=Tryz.underlying300
 a46:=Tryz.isAgg300
 z46:=Tryz.sizeOf300
 v46:=Tryz.zeroValue300
 t50:=Tryz.underlying304
 a50:=Tryz.isAgg304
 z50:=Tryz.sizeOf304
 v50:=Tryz.zeroValue304
 t53:=Tryz.underlying307
 a53:=Tryz.isAgg307
 z53:=Tryz.sizeOf307
 v53:=Tryz.zeroValue307
 t55:=Tryz.underlying309
 a55:=Tryz.isAgg309
 z55:=Tryz.sizeOf309
 v55:=Tryz.zeroValue309
 t66:=Tryz.underlying311
 a66:=Tryz.isAgg311
 z66:=Tryz.sizeOf311
 v66:=Tryz.zeroValue311
 t70:=Tryz.underlying315
 a70:=Tryz.isAgg315
 z70:=Tryz.sizeOf315
 v70:=Tryz.zeroValue315
 t76:=Tryz.underlying318
 a76:=Tryz.isAgg318
 z76:=Tryz.sizeOf318
 v76:=Tryz.zeroValue318
 t77:=Tryz.underlying319
 a77:=Tryz.isAgg319
 z77:=Tryz.sizeOf319
 v77:=Tryz.zeroValue319}
end Go.Proofs
namespace Go.Proofs.YtmalfhhkjdkadaaGreatDoor
open Go.ChangeShapes Go.WideShapes Go.ChangeAt Go.RowKit
set_option linter.unusedVariables false
namespace BilR
open LtR WinR
open RowG (Rws cellsAll)
open CatR (Blk Blk.new)
open Go.Sort (putRowK putRow mapBlock ahead HoldsK flatK size_flatK get_flatK)
structure WP where
 d:Wd
 ta:Option Addr
 tc:Nat
 ha:Option Addr
 hc:Nat
def WP.zero:WP:=⟨Wd.zero,none,0,none,0⟩
instance:Inhabited WP:=⟨WP.zero⟩
def WP.cells (x:WP):List Value:=[.string x.d.a,.string x.d.m,.int .i64 x.d.mo,.int .i64 x.d.ev,.int .i64 x.d.su,.int .i64 x.d.mx,.slice x.ta x.d.ts.length x.tc,.slice x.ha x.d.hs.length x.hc]
theorem WP.len (x:WP):x.cells.length=8:=rfl
theorem WP.one (x:WP):∀v∈x.cells,v.oneCell'=true:=by
 intro v hv
 simp only [WP.cells,List.mem_cons,List.not_mem_nil,or_false] at hv
 rcases hv with rfl|rfl|rfl|rfl|rfl|rfl|rfl|rfl<;>rfl
def WP.Reads (x:WP) (w:World):Prop:=Tgs x.ta x.d.ts w∧Hrs x.ha x.d.hs w
theorem WP.Reads.below {x:WP} {w w':World} (h:x.Reads w) (hb:Below w.heap.size w w'):x.Reads w':=⟨h.1.below hb,h.2.below hb⟩
theorem wps_of {ao:Option Addr} {ws:List Wd} {w:World} (h:Wns ao ws w):∃ps:List WP,ps.map WP.d=ws∧Rws 8 WP.cells WP.zero ao ps w∧∀p∈ps,p.Reads w:=by
 rcases h with h0|⟨b,off,rfl,hl,hc⟩
 ·obtain rfl:ws=[]:=List.length_eq_zero_iff.1 h0
  exact ⟨[],rfl,.inl rfl,fun p hp=>by cases hp⟩
 ·have hex:∀j:Nat,∃p:WP,j<ws.length→p.d=ws.getD j Wd.zero∧(∀i,i<8→w.cell? ⟨b,off+j*8+i,none⟩=p.cells[i]?)∧p.Reads w:=by
   intro j
   by_cases hj:j<ws.length
   ·obtain ⟨ta,tc,ha,hc',c0,c1,c2,c3,c4,c5,c6,c7,hT,hH⟩:=hc j hj
    refine ⟨⟨ws.getD j Wd.zero,ta,tc,ha,hc'⟩,fun _=>⟨rfl,fun i hi=>?_,hT,hH⟩⟩
    rcases (show i=0∨i=1∨i=2∨i=3∨i=4∨i=5∨i=6∨i=7 by omega) with rfl|rfl|rfl|rfl|rfl|rfl|rfl|rfl
    ·exact c0
    ·exact c1
    ·exact c2
    ·exact c3
    ·exact c4
    ·exact c5
    ·exact c6
    ·exact c7
   ·exact ⟨WP.zero,fun h=>absurd h hj⟩
  obtain ⟨f,hf⟩:=Classical.axiomOfChoice hex
  refine ⟨(List.range ws.length).map f,?_,.inr ⟨b,off,rfl,hl,fun j hj i hi=>?_⟩,fun p hp=>?_⟩
  ·rw [List.map_map]
   apply List.ext_getElem
   ·simp
   ·intro i h1 h2
    have h3:=(hf i h2).1
    simp only [List.getElem_map,List.getElem_range,Function.comp]
    rw [h3]
    simp [List.getD,h2]
  ·have hj':j<ws.length:=by simpa using hj
   have e:((List.range ws.length).map f).getD j WP.zero=f j:=by simp [List.getD,hj']
   rw [e]
   exact (hf j hj').2.1 i hi
  ·obtain ⟨j,hj,rfl⟩:=List.mem_map.1 hp
   exact (hf j (by simpa using hj)).2.2
def wcf (x y:WP):Int:=cb x.d.m y.d.m
theorem wcf_lt (x y:WP):ltOf wcf x y=lt x.d.m y.d.m:=by
 unfold ltOf wcf
 rcases cb_cases x.d.m y.d.m with ⟨c1,c2,_⟩|⟨c1,c2,_⟩|⟨c1,c2,_⟩<;>rw [c1,c2]<;>rfl
theorem wcf_swo:Go.Sort.SWO (ltOf wcf) where
 irrefl x:=by rw [wcf_lt];exact lt_irrefl _
 trans x y z h1 h2:=by rw [wcf_lt] at *;exact lt_trans h1 h2
 ntrans x y z h1 h2:=by
  rw [wcf_lt] at *
  cases h:lt x.d.m z.d.m
  ·rfl
  ·cases h3:lt y.d.m x.d.m
   ·rw [lt_total h1 h3] at h;rw [h] at h2;cases h2
   ·have:=lt_trans h3 h
    rw [this] at h2;cases h2
set_option maxHeartbeats 1000000 in
theorem wclos (x y:WP) (W:World):Calls Tryz.prog 176 #[.agg x.cells.toArray,.agg y.cells.toArray] W fun e w'=>e=.returned (.int .i64 (wcf x y))∧∃q os',w'=Go.Sort.grow (W.drewN q) os':=by
 have hcon:=fun W'=>icb x.d.m y.d.m W'
 unfold wcf
 generalize cb x.d.m y.d.m=r at hcon ⊢
 obtain ⟨⟨xa,xm,xo,xe,xs,xx,xt,xh⟩,ta,tc,ha,hc⟩:=x
 obtain ⟨⟨ya,ym,yo,ye,ys,yx,yt,yh⟩,tb,td,hb,hd⟩:=y
 simp only [WP.cells] at *
 generalize xt.length=l1
 generalize xh.length=l2
 generalize yt.length=l3
 generalize yh.length=l4
 go_enter Tryz.func176,Tryz.ntmps176
 go_wp2_with fail
 refine (hcon _).mono ?_
 rintro e w' ⟨rfl,rfl⟩
 go_wp2_with fail
 go_ret
 exact ⟨rfl,0,_,by rw [Go.Sort.alloc_eq_grow,Go.Sort.alloc_eq_grow,Go.Sort.grow_grow];rfl⟩
theorem sort_grown (enc:WP→List Value) (k:Nat) (w:World) (b off n:Nat) (d:Array WP) (os:Array Obj):w.grownBy (sortWorldK enc k w b off n d os) (some b):=by
 refine ⟨rfl,rfl,rfl,size_sortWorldK_c enc k w b off n d os,fun k' hk hne=>?_⟩
 have hne':k'≠b:=fun e=>hne (by rw [e])
 simp only [sortWorldK,putRowK,putRow,mapBlock,Go.Sort.grow]
 rw [Array.getElem?_append_left (by simpa using hk),Array.getElem?_modify,if_neg (fun e=>hne' e.symm)]
 rfl
theorem getD_arr (d:Array WP) (i:Nat) (h:i<d.size):d[i]! = d.toList.getD i WP.zero:=by
 simp [List.getD,h]
theorem perm_of {d d':Array WP} (h:Go.Sort.PermIn 0 d.size d d'):d'.toList.Perm d.toList:=by
 obtain ⟨h1,_,h3⟩:=h
 have e1:d'.extract 0 d.size=d':=by rw [←h1];simp
 have e2:d.extract 0 d.size=d:=by simp
 rw [e1,e2] at h3
 exact h3
theorem sorted_of {d':Array WP} {n:Nat} (hn:d'.size=n) (h:Go.Sort.SortedIn (ltOf wcf) 0 n d'):d'.toList.Pairwise (fun x y=>lt y.d.m x.d.m=false):=by
 refine List.pairwise_iff_getElem.2 (fun i j hi hj hij=>?_)
 have hi':i<d'.size:=by simpa using hi
 have hj':j<d'.size:=by simpa using hj
 have:=h i j (Nat.zero_le _) hij (by omega)
 rw [wcf_lt,getElem!_pos d' i hi',getElem!_pos d' j hj'] at this
 simpa using this
set_option maxHeartbeats 1000000 in
theorem sort_wds (b off cap:Nat) (qs:List WP) (w:World) (hb:b<w.heap.size) (hlen:qs.length≤1048576)
 (hc:∀i,i<qs.length→∀j,j<8→w.cell? ⟨b,off+i*8+j,none⟩=(qs.getD i WP.zero).cells[j]?) (hf:∀o,o<qs.length*8→w.frozen? ⟨b,off+o,none⟩=false) :
 Calls Tryz.prog 175 #[.slice (some ⟨b,off,none⟩) qs.length cap,.func (.func 176) #[] #[]] w fun e w'=>e=.returned (.tuple #[])∧∃rs:List WP,rs.Perm qs∧rs.Pairwise (fun x y=>lt y.d.m x.d.m=false)∧w.grownBy w' (some b)∧Rws 8 WP.cells WP.zero (some ⟨b,off,none⟩) rs w':=by
 have eg:∀args w,(callFunc 176 args).run Tryz.prog w=.ok (.enter 176 args) w:=enters_of Tryz.func176 (by kernel_rfl) rfl
 have hH:HoldsK WP.cells 8 w b off qs.toArray:=by
  intro t ht
  rw [size_flatK] at ht
  have hs:qs.toArray.size=qs.length:=by simp
  rw [hs] at ht
  have h8:t / 8<qs.length:=by omega
  have hc':=hc (t / 8) h8 (t % 8) (by omega)
  rw [show off+t / 8*8+t % 8=off+t by omega] at hc'
  refine ⟨?_,hf t ht⟩
  rw [get_flatK _ _ _ _ (by rw [hs];exact ht),hc',getD_arr _ _ (by simpa using h8)]
  have hl:t % 8<(qs.toArray.toList.getD (t / 8) WP.zero).cells.length:=by rw [WP.len];omega
  rw [id,getElem!_pos (qs.toArray.toList.getD (t / 8) WP.zero).cells (t % 8) hl]
  simp
 have hcon:=AnyQ.slices_SortFunc Tryz.sortS 8 (fun w=>by kernel_rfl) (fun w=>by kernel_rfl) WP.cells WP.len WP.one wcf wcf_swo 176 #[] b off cap qs.toArray w eg (fun _ _ _ _ x y=>wclos x y _) hH hb (by simp;omega)
 change Calls Tryz.prog 175 _ _ _ at hcon
 rw [show qs.toArray.size=qs.length by simp] at hcon
 refine hcon.mono ?_
 rintro e w' ⟨rfl,d',n,os,hp,hs,rfl⟩
 have hp':Go.Sort.PermIn 0 qs.toArray.size qs.toArray d':=by simpa using hp
 have hsz:d'.size=qs.toArray.size:=hp'.1
 have hH':=holdsK_sortWorldK_c WP.cells 8 w b off qs.toArray d' n os hH hb hsz
 refine ⟨rfl,d'.toList,by simpa using perm_of hp',sorted_of (by simpa using hsz) hs,sort_grown _ _ _ _ _ _ _ _,.inr ⟨b,off,rfl,Nat.lt_of_lt_of_le hb (sort_grown WP.cells 8 w b off n d' os).size,fun j hj i hi=>?_⟩⟩
 have hj':j<d'.size:=by simpa using hj
 have ht:j*8+i<d'.size*8:=by omega
 have h1:=(hH' (j*8+i) (by rw [size_flatK];exact ht)).1
 rw [get_flatK _ _ _ _ ht,show (j*8+i) / 8=j by omega,show (j*8+i) % 8=i by omega,getD_arr _ _ hj',id] at h1
 rw [Nat.add_assoc,h1]
 have hl:i<(d'.toList.getD j WP.zero).cells.length:=by rw [WP.len];exact hi
 rw [getElem!_pos (d'.toList.getD j WP.zero).cells i hl]
 simp
end BilR
end Go.Proofs.YtmalfhhkjdkadaaGreatDoor
