/-
  spec.EngineRight. The condition: sizes of at most 1048576.
-/
import Derived.Test.YtnceeaccbcfopaaGreatDoorT147
namespace Go.Proofs.YtnceeaccbcfopaaGreatDoor
open Go.ChangeShapes Go.WideShapes Go.ChangeAt Go.RowKit
set_option linter.unusedVariables false
namespace EngR
open CatR
open WinR (Wd Wns wcells wB wlt Tgs Hrs)
theorem gone_yes {es:List SeenR.N} {v:Int} {k:Nat} (hk:k<es.length) (h:(es.getD k SeenR.N.zero).n<v):goneB es v=true:=by
 refine List.any_eq_true.2 ⟨es[k],List.getElem_mem hk,decide_eq_true ?_⟩
 simpa [List.getD,hk] using h
theorem gone_no {es:List SeenR.N} {v:Int} (h:∀k,k<es.length→¬(es.getD k SeenR.N.zero).n<v):goneB es v=false:=by
 refine List.any_eq_false.2 (fun x hx=>?_)
 obtain ⟨i,hi,rfl⟩:=List.getElem_of_mem hx
 have:=h i hi
 simpa [List.getD,hi] using this
set_option maxRecDepth 100000 in
set_option maxHeartbeats 8000000 in
theorem seright_in (ma:Option Addr) (ml mc:Nat) (ca:Option Addr) (cl cc:Nat) (sa:Option Addr) (sl sc:Nat) (ea:Option Addr) (ec:Nat) (ua:Option Addr) (uc:Nat) (da:Option Addr) (dl dc:Nat) (fr v:Int) (ms:List Me) (es:List SeenR.N) (ws:List Wd) (b1 b2 b3 b4 b5:Bool) (w:World)
 (hE:SeenR.Ens ea es w) (hel:es.length≤1048576) (hI:Wns ua ws w) (hlen:ws.length≤1048576)
 (h1:∀W,Below w.heap.size w W→Calls Tryz.prog 51 #[.agg #[.slice ma ml mc,.slice ca cl cc]] W fun e w'=>e=.returned (.bool b1)∧Below W.heap.size W w')
 (h2:∀W,Below w.heap.size w W→Calls Tryz.prog 52 #[.slice ea es.length ec] W fun e w'=>e=.returned (.bool b2)∧Below W.heap.size W w')
 (h3:∀W,Below w.heap.size w W→Calls Tryz.prog 53 #[.slice da dl dc] W fun e w'=>e=.returned (.bool b3)∧Below W.heap.size W w')
 (h4:∀W,Below w.heap.size w W→Calls Tryz.prog 54 #[.slice sa sl sc] W fun e w'=>e=.returned (.bool b4)∧Below W.heap.size W w')
 (h5:∀W,Calls Tryz.prog 55 #[.int .i64 fr] W fun e w'=>e=.returned (.bool b5)∧w'=W)
 (hw:∀k,k<ws.length→∀ta tc ha hc W,Below w.heap.size w W→Tgs ta (ws.getD k Wd.zero).ts W→Hrs ha (ws.getD k Wd.zero).hs W→Calls Tryz.prog 56 #[.agg (wcells (ws.getD k Wd.zero) ta tc ha hc)] W fun e w'=>e=.returned (.bool (wB (ws.getD k Wd.zero)))∧Below W.heap.size W w')
 (hs:∀t,∃r:Int,decide (r<0)=(!sellB ms t)∧∀W,Below w.heap.size w W→Calls Tryz.prog 57 #[.agg #[.slice ma ml mc,.slice ca cl cc],.string t] W fun e w'=>e=.returned (.int .i64 r)∧Below W.heap.size W w')
 (hv:b5=true→∀W,Below w.heap.size w W→Calls Tryz.prog 59 #[.int .i64 fr] W fun e w'=>e=.returned (.int .i64 v)∧Below W.heap.size W w') :
 Calls Tryz.prog 19 #[.agg #[.slice ma ml mc,.slice ca cl cc,.slice sa sl sc,.slice ea es.length ec,.slice ua ws.length uc,.slice da dl dc,.int .i64 fr]] w fun e w'=>e=.returned (.bool (b1&&b2&&b3&&b4&&b5&&winB ws ms fr && !goneB es v))∧Below w.heap.size w w':=by
 have H1:=H_ h1
 have H2:=H_ h2
 have H3:=H_ h3
 have H4:=H_ h4
 have H5:=H_ h5
 have HV:=H_ hv
 have HI:=H_ hI
 have HE:=H_ hE
 have HWR:=H_ hw
 have HAT:=H_ hs
 have HF:Hid (∀k,k<ws.length→wok ws ms fr k=false→winB ws ms fr=false):=H_ (fun k hk h=>winB_no hk h)
 have HG:Hid (16<ws.length→winB ws ms fr=false):=H_ (fun h=>winB_long h)
 have HY:Hid (ws.length≤16→(∀i,i<ws.length→wok ws ms fr i=true)→winB ws ms fr=true):=H_ (fun h h2=>winB_yes h h2)
 have HGN:Hid (∀k,k<es.length→(es.getD k SeenR.N.zero).n<v→goneB es v=true):=H_ (fun k hk h=>gone_yes hk h)
 have HGY:Hid ((∀k,k<es.length→¬(es.getD k SeenR.N.zero).n<v)→goneB es v=false):=H_ (fun h=>gone_no h)
 generalize winB ws ms fr=RW at *
 generalize goneB es v=RG at *
 obtain ⟨ul,hul⟩:∃z,z=ws.length:=⟨_,rfl⟩
 obtain ⟨el,hell⟩:∃z,z=es.length:=⟨_,rfl⟩
 have HL:=H_ hul
 have HLE:=H_ hell
 rw [←hul] at hlen HF HG HY ⊢
 rw [←hell] at hel HGN HGY H2 ⊢
 obtain ⟨W0,hW0⟩:∃z,z=w.alloc (.cells #[.slice ma ml mc,.slice ca cl cc,.slice sa sl sc,.slice ea el ec,.slice ua ul uc,.slice da dl dc,.int .i64 fr] 42):=⟨_,rfl⟩
 have hal:Below w.heap.size w W0:=by rw [hW0];exact (Below.refl _ _).alloc (Nat.le_refl _) _
 have hA:Blk w.heap.size [.slice ma ml mc,.slice ca cl cc,.slice sa sl sc,.slice ea el ec,.slice ua ul uc,.slice da dl dc,.int .i64 fr] W0:=by rw [hW0];exact Blk.new w _ _
 have HB0:=H_ hal
 have HA0:=H_ hA
 have HWq:=H_ hW0
 have al:=hA.1
 clear h1 h2 h3 h4 h5 hw hs hv hI hE hul hell hal hW0 hA al
 go_enter Tryz.func19,Tryz.ntmps19
 go_wp2_with fail
 rw [←HWq.out]
 clear HWq
 refine (H1.out _ HB0.out).mono ?_
 rintro e w1 ⟨rfl,hb⟩
 have HB1:=H_ (HB0.out.trans (hb.mono HB0.out.size))
 have HA1:=H_ (HA0.out.below hb)
 clear hb
 cases b1
 ·go_wp2_with fail
  go_ret
  exact ⟨rfl,HB1.out⟩
 have al:=HA1.out.1
 have c3:w1.cell? ⟨w.heap.size,3,none⟩=some (.slice ea el ec):=HA1.out.2 3 (by simp)
 go_wp2_with fail
 refine (H2.out _ HB1.out).mono ?_
 rintro e w2 ⟨rfl,hb⟩
 have HB2:=H_ (HB1.out.trans (hb.mono HB1.out.size))
 have HA2:=H_ (HA1.out.below hb)
 clear hb
 clear al c3
 cases b2
 ·go_wp2_with fail
  go_ret
  exact ⟨rfl,HB2.out⟩
 have al:=HA2.out.1
 have c5:w2.cell? ⟨w.heap.size,5,none⟩=some (.slice da dl dc):=HA2.out.2 5 (by simp)
 go_wp2_with fail
 refine (H3.out _ HB2.out).mono ?_
 rintro e w3 ⟨rfl,hb⟩
 have HB3:=H_ (HB2.out.trans (hb.mono HB2.out.size))
 have HA3:=H_ (HA2.out.below hb)
 clear hb
 clear al c5
 cases b3
 ·go_wp2_with fail
  go_ret
  exact ⟨rfl,HB3.out⟩
 have al:=HA3.out.1
 have c2:w3.cell? ⟨w.heap.size,2,none⟩=some (.slice sa sl sc):=HA3.out.2 2 (by simp)
 go_wp2_with fail
 refine (H4.out _ HB3.out).mono ?_
 rintro e w4 ⟨rfl,hb⟩
 have HB4:=H_ (HB3.out.trans (hb.mono HB3.out.size))
 have HA4:=H_ (HA3.out.below hb)
 clear hb
 clear al c2
 cases b4
 ·go_wp2_with fail
  go_ret
  exact ⟨rfl,HB4.out⟩
 have al:=HA4.out.1
 have c4:w4.cell? ⟨w.heap.size,4,none⟩=some (.slice ua ul uc):=HA4.out.2 4 (by simp)
 have c6:w4.cell? ⟨w.heap.size,6,none⟩=some (.int .i64 fr):=HA4.out.2 6 (by simp)
 by_cases h16:16<ul
 ·have h2:(16:Int)<(ul:Int):=by omega
  have HR:=H_ (HG.out h16)
  go_wp2_with fail
  go_ret
  exact ⟨ret_bool (by rw [HR.out];simp),HB4.out⟩
 have h2:¬(16:Int)<(ul:Int):=by omega
 go_wp2_with fail
 refine (H5.out _).mono ?_
 rintro e w5 ⟨rfl,hw⟩
 rw [hw]
 clear hw w5 al c4 c6
 cases b5
 ·go_wp2_with fail
  go_ret
  exact ⟨rfl,HB4.out⟩
 clear H1 H2 H3 H4 H5 HB1 HB2 HB3 HB0 HA0 HA1 HA2 HA3
 go_wp2_with fail
 go_loopw [3] (fun z wr=>∃k:Nat,k≤ul∧z=.int .i64 k∧Hid (∀i,i<k→wok ws ms fr i=true)∧Hid (Blk w.heap.size [.slice ma ml mc,.slice ca cl cc,.slice sa sl sc,.slice ea el ec,.slice ua ul uc,.slice da dl dc,.int .i64 fr] wr)∧Hid (Below w.heap.size w wr)) (fun z _=>ul-(intOf z).toNat)
 case atStart=>exact ⟨0,by omega,rfl,H_ (fun i hi=>absurd hi (by omega)),HA4,HB4⟩
 case round =>
  clear HA4 HB4
  obtain ⟨k,hk,rfl,HK,HA,HB⟩:=hrel
  by_cases hlt:k<ul
  ·have hlt2:(k:Int)<(ul:Int):=by omega
   obtain ⟨b,off,ta,tc,ha,hc,rfl,hbl,c0,c1,c2,c3,c4,c5,c6,c7,hT,hH⟩:=(HI.out.below HB.out).at k (by have:=HL.out;omega)
   have hlk:k<ws.length:=by have:=HL.out;omega
   have HWK:=H_ (HWR.out k hlk ta tc ha hc)
   have HFK:=H_ (HF.out k hlt)
   have HMK:Hid (wok ws ms fr k=true→∀i,i<k+1→wok ws ms fr i=true):=H_ (fun h=>okMore HK.out h)
   have HOK:Hid (wok ws ms fr k=(wB (ws.getD k Wd.zero)&&sellB ms (ws.getD k Wd.zero).m && !decide ((ws.getD k Wd.zero).mo<fr)&&(k==0||wlt (ws.getD (k-1) Wd.zero) (ws.getD k Wd.zero)))):=H_ rfl
   obtain ⟨X,hX⟩:∃z,z=ws.getD k Wd.zero:=⟨_,rfl⟩
   rw [←hX] at c0 c1 c2 c3 c4 c5 c6 c7 hT hH HWK HOK
   have HWL:Hid (∀(Y:Wd) (ta' ha':Option Addr) (tc' hc':Nat) (W:World),Calls Tryz.prog 58 #[.agg (wcells Y ta' tc' ha' hc'),.agg (wcells X ta tc ha hc)] W fun e w'=>e=.returned (.bool (wlt Y X))∧Below W.heap.size W w'):=H_ (fun Y ta' ha' tc' hc' W=>WinR.sless Y X ta' ha' ta ha tc' hc' tc hc W)
   generalize hqw:wB X=bw at *
   clear hqw
   generalize hqw:(fun Y=>wlt Y X)=WL at *
   have hWL:∀Y,wlt Y X=WL Y:=fun Y=>congrFun hqw Y
   simp only [hWL] at HWL HOK
   clear hqw hWL hX
   obtain ⟨xa,xm,xo,xe,xs,xx,xt,xh⟩:=X
   dsimp only [wcells] at c0 c1 c2 c3 c4 c5 c6 c7 hT hH HWK HOK HWL
   obtain ⟨W1,hW1⟩:∃z,z=wr.alloc (.cells #[.string xa,.string xm,.int .i64 xo,.int .i64 xe,.int .i64 xs,.int .i64 xx,.slice ta xt.length tc,.slice ha xh.length hc] 106):=⟨_,rfl⟩
   have hal:Below wr.heap.size wr W1:=by rw [hW1];exact (Below.refl _ _).alloc (Nat.le_refl _) _
   have hX1:Blk wr.heap.size [.string xa,.string xm,.int .i64 xo,.int .i64 xe,.int .i64 xs,.int .i64 xx,.slice ta xt.length tc,.slice ha xh.length hc] W1:=by rw [hW1];exact Blk.new wr _ _
   have HB1:=H_ (HB.out.trans (hal.mono HB.out.size))
   have hA1:=HA.out.below hal
   have HA1:=H_ hA1
   have HW1:=H_ hW1
   obtain ⟨S,hS⟩:∃S:World→Prop,∀W,S W↔Below W1.heap.size W1 W:=⟨_,fun _=>Iff.rfl⟩
   have HSC:Hid (∀s:HW S,Below W1.heap.size W1 s.w):=H_ (fun s=>(hS _).1 s.h)
   have HSW:Hid (∀s:HW S,Below w.heap.size w s.w):=H_ (fun s=>HB1.out.trans (((hS _).1 s.h).mono HB1.out.size))
   have HSB:Hid (∀(s:HW S) w',Below s.w.heap.size s.w w'→S w'):=H_ (fun s w' hb=>(hS _).2 ((HSC.out s).trans (hb.mono (HSC.out s).size)))
   have HSD:Hid (S W1.drew):=H_ ((hS _).2 (Below.refl _ _).drew)
   have hne:Nonempty (HW S):=⟨⟨_,HSD.out⟩⟩
   have HWKS:=H_ (fun s:HW S=>HWK.out s.w (HSW.out s) ((hT.below hal).below (HSC.out s)) ((hH.below hal).below (HSC.out s)))
   have hIS:=(HI.out.below HB1.out)
   have hal0:=HA.out.1
   obtain ⟨r,hr,hat⟩:=HAT.out xm
   have HATS:=H_ (fun s:HW S=>hat s.w (HSW.out s))
   clear hat hT hH hal hW1 HWK hS
   have hX2:=hX1
   generalize xt.length=tl at *
   generalize xh.length=hl at *
   have a4:wr.cell? ⟨w.heap.size,4,none⟩=some (.slice (some ⟨b,off,none⟩) ul uc):=HA.out.2 4 (by simp)
   go_wp2_with fail
   rw [←HW1.out]
   clear HW1 c0 c1 c2 c3 c4 c5 c6 c7 a4 hal0
   generalize wr.heap.size=B at *
   have bl:=hX1.1
   have al:=hA1.1
   have e0:∀s:HW S,s.w.cell? ⟨w.heap.size,0,none⟩=some (.slice ma ml mc):=fun s=>((HSC.out s).cell (p:=⟨w.heap.size,0,none⟩) al).trans (hA1.2 0 (by simp))
   have e1:∀s:HW S,s.w.cell? ⟨w.heap.size,1,none⟩=some (.slice ca cl cc):=fun s=>((HSC.out s).cell (p:=⟨w.heap.size,1,none⟩) al).trans (hA1.2 1 (by simp))
   have e4:∀s:HW S,s.w.cell? ⟨w.heap.size,4,none⟩=some (.slice (some ⟨b,off,none⟩) ul uc):=fun s=>((HSC.out s).cell (p:=⟨w.heap.size,4,none⟩) al).trans (hA1.2 4 (by simp))
   have e6:∀s:HW S,s.w.cell? ⟨w.heap.size,6,none⟩=some (.int .i64 fr):=fun s=>((HSC.out s).cell (p:=⟨w.heap.size,6,none⟩) al).trans (hA1.2 6 (by simp))
   have f0:∀s:HW S,s.w.cell? ⟨B,0,none⟩=some (.string xa):=fun s=>((HSC.out s).cell (p:=⟨B,0,none⟩) bl).trans (hX1.2 0 (by simp))
   have f1:∀s:HW S,s.w.cell? ⟨B,1,none⟩=some (.string xm):=fun s=>((HSC.out s).cell (p:=⟨B,1,none⟩) bl).trans (hX1.2 1 (by simp))
   have f2:∀s:HW S,s.w.cell? ⟨B,2,none⟩=some (.int .i64 xo):=fun s=>((HSC.out s).cell (p:=⟨B,2,none⟩) bl).trans (hX1.2 2 (by simp))
   have f3:∀s:HW S,s.w.cell? ⟨B,3,none⟩=some (.int .i64 xe):=fun s=>((HSC.out s).cell (p:=⟨B,3,none⟩) bl).trans (hX1.2 3 (by simp))
   have f4:∀s:HW S,s.w.cell? ⟨B,4,none⟩=some (.int .i64 xs):=fun s=>((HSC.out s).cell (p:=⟨B,4,none⟩) bl).trans (hX1.2 4 (by simp))
   have f5:∀s:HW S,s.w.cell? ⟨B,5,none⟩=some (.int .i64 xx):=fun s=>((HSC.out s).cell (p:=⟨B,5,none⟩) bl).trans (hX1.2 5 (by simp))
   have f6:∀s:HW S,s.w.cell? ⟨B,6,none⟩=some (.slice ta tl tc):=fun s=>((HSC.out s).cell (p:=⟨B,6,none⟩) bl).trans (hX1.2 6 (by simp))
   have f7:∀s:HW S,s.w.cell? ⟨B,7,none⟩=some (.slice ha hl hc):=fun s=>((HSC.out s).cell (p:=⟨B,7,none⟩) bl).trans (hX1.2 7 (by simp))
   clear hX1 hX2 hA1 al bl
   cases bw
   ·have HR:=H_ (HFK.out (by rw [HOK.out];simp))
    refine wp_region_hw S (by kernel_rfl) (by kernel_rfl) HSD.out ?_
    repeat (go_big_quiet_step ((rename_i s;first|(go_at_call 56;refine (HWKS.out s).mono ?_;rintro e w1 ⟨rfl,hb1⟩;exact ⟨rfl,⟨w1,HSB.out s w1 hb1⟩,rfl⟩)|(go_at_call 57;refine (HATS.out s).mono ?_;rintro e w1 ⟨rfl,hb1⟩;exact ⟨rfl,⟨w1,HSB.out s w1 hb1⟩,rfl⟩))))
    refine wpQuiet_nil ?_
    intro _ hw'
    obtain ⟨s,hw''⟩:=hw'
    subst hw''
    have HBF:=H_ (HSW.out s)
    go_wp2_with fail
    go_ret
    exact ⟨ret_bool (by rw [HR.out];simp),HBF.out⟩
   generalize sellB ms xm=bs at *
   cases bs
   ·have HR:=H_ (HFK.out (by rw [HOK.out];simp))
    have hr0:r<0:=of_decide_eq_true (by rw [hr];rfl)
    clear hr
    refine wp_region_hw S (by kernel_rfl) (by kernel_rfl) HSD.out ?_
    repeat (go_big_quiet_step ((rename_i s;first|(go_at_call 56;refine (HWKS.out s).mono ?_;rintro e w1 ⟨rfl,hb1⟩;exact ⟨rfl,⟨w1,HSB.out s w1 hb1⟩,rfl⟩)|(go_at_call 57;refine (HATS.out s).mono ?_;rintro e w1 ⟨rfl,hb1⟩;exact ⟨rfl,⟨w1,HSB.out s w1 hb1⟩,rfl⟩))))
    refine wpQuiet_nil ?_
    intro _ hw'
    obtain ⟨s,hw''⟩:=hw'
    subst hw''
    have HBF:=H_ (HSW.out s)
    go_wp2_with fail
    go_ret
    exact ⟨ret_bool (by rw [HR.out];simp),HBF.out⟩
   have hr0:¬r<0:=of_decide_eq_false (by rw [hr];rfl)
   clear hr
   rcases (show k=0∨∃j,k=j+1 from by rcases k with _|j;exact .inl rfl;exact .inr ⟨j,rfl⟩) with rfl|⟨j,hkj⟩
   ·by_cases hmo:xo<fr
    ·have HR:=H_ (HFK.out (by rw [HOK.out];simp [hmo]))
     refine wp_region_hw S (by kernel_rfl) (by kernel_rfl) HSD.out ?_
     repeat (go_big_quiet_step ((rename_i s;first|(go_at_call 56;refine (HWKS.out s).mono ?_;rintro e w1 ⟨rfl,hb1⟩;exact ⟨rfl,⟨w1,HSB.out s w1 hb1⟩,rfl⟩)|(go_at_call 57;refine (HATS.out s).mono ?_;rintro e w1 ⟨rfl,hb1⟩;exact ⟨rfl,⟨w1,HSB.out s w1 hb1⟩,rfl⟩))))
     refine wpQuiet_nil ?_
     intro _ hw'
     obtain ⟨s,hw''⟩:=hw'
     subst hw''
     have HBF:=H_ (HSW.out s)
     go_wp2_with fail
     go_ret
     exact ⟨ret_bool (by rw [HR.out];simp),HBF.out⟩
    ·have HM2:=H_ (HMK.out (by rw [HOK.out];simp [hmo]))
     refine wp_region_hw S (by kernel_rfl) (by kernel_rfl) HSD.out ?_
     repeat (go_big_quiet_step ((rename_i s;first|(go_at_call 56;refine (HWKS.out s).mono ?_;rintro e w1 ⟨rfl,hb1⟩;exact ⟨rfl,⟨w1,HSB.out s w1 hb1⟩,rfl⟩)|(go_at_call 57;refine (HATS.out s).mono ?_;rintro e w1 ⟨rfl,hb1⟩;exact ⟨rfl,⟨w1,HSB.out s w1 hb1⟩,rfl⟩))))
     refine wpQuiet_nil ?_
     intro _ hw'
     obtain ⟨s,hw''⟩:=hw'
     subst hw''
     have HBF:=H_ (HSW.out s)
     have HAF:=H_ (HA1.out.below (HSC.out s))
     go_wp2_with fail
     go_roundw
     case rel=>exact ⟨0+1,by omega,by go_num,HM2,HAF,HBF⟩
     case measure=>simp [intOf];omega
   obtain ⟨b',off',ta',tc',ha',hc',hbo,hbl',d0,d1,d2,d3,d4,d5,d6,d7,_,_⟩:=hIS.at j (by have:=HL.out;omega)
   obtain ⟨rfl,rfl⟩:b=b'∧off=off':=by simpa using hbo
   clear hbo
   have HWL2:=H_ (HWL.out (ws.getD j Wd.zero) ta' ha' tc' hc')
   have HOK2:Hid (wok ws ms fr k=(!decide (xo<fr)&&WL (ws.getD j Wd.zero))):=H_ (by rw [HOK.out];simp [hkj])
   clear HOK HWL
   generalize WL (ws.getD j Wd.zero)=lb at *
   generalize ws.getD j Wd.zero=Y at *
   obtain ⟨ya,ym,yo,ye,ys,yx,yt,yh⟩:=Y
   dsimp only [wcells] at d0 d1 d2 d3 d4 d5 d6 d7 HWL2
   generalize yt.length=tl' at *
   generalize yh.length=hl' at *
   have hj1:IntKind.i64.wrap ((k:Int)-1)=(j:Int):=by rw [IntKind.wrap_i64];omega
   have hj2:0<k:=by omega
   have hj3:(j:Int)<(ul:Int):=by omega
   clear hkj hIS
   have g0:∀s:HW S,s.w.cell? ⟨b,off+j*8,none⟩=some (.string ya):=fun s=>((HSC.out s).cell (p:=⟨b,off+j*8,none⟩) hbl').trans d0
   have g1:∀s:HW S,s.w.cell? ⟨b,off+j*8+1,none⟩=some (.string ym):=fun s=>((HSC.out s).cell (p:=⟨b,off+j*8+1,none⟩) hbl').trans d1
   have g2:∀s:HW S,s.w.cell? ⟨b,off+j*8+2,none⟩=some (.int .i64 yo):=fun s=>((HSC.out s).cell (p:=⟨b,off+j*8+2,none⟩) hbl').trans d2
   have g3:∀s:HW S,s.w.cell? ⟨b,off+j*8+3,none⟩=some (.int .i64 ye):=fun s=>((HSC.out s).cell (p:=⟨b,off+j*8+3,none⟩) hbl').trans d3
   have g4:∀s:HW S,s.w.cell? ⟨b,off+j*8+4,none⟩=some (.int .i64 ys):=fun s=>((HSC.out s).cell (p:=⟨b,off+j*8+4,none⟩) hbl').trans d4
   have g5:∀s:HW S,s.w.cell? ⟨b,off+j*8+5,none⟩=some (.int .i64 yx):=fun s=>((HSC.out s).cell (p:=⟨b,off+j*8+5,none⟩) hbl').trans d5
   have g6:∀s:HW S,s.w.cell? ⟨b,off+j*8+6,none⟩=some (.slice ta' tl' tc'):=fun s=>((HSC.out s).cell (p:=⟨b,off+j*8+6,none⟩) hbl').trans d6
   have g7:∀s:HW S,s.w.cell? ⟨b,off+j*8+7,none⟩=some (.slice ha' hl' hc'):=fun s=>((HSC.out s).cell (p:=⟨b,off+j*8+7,none⟩) hbl').trans d7
   clear d0 d1 d2 d3 d4 d5 d6 d7
   cases lb
   ·have HR:=H_ (HFK.out (by rw [HOK2.out];simp))
    refine wp_region_hw S (by kernel_rfl) (by kernel_rfl) HSD.out ?_
    repeat (go_big_quiet_step ((rename_i s;first|(go_at_call 56;refine (HWKS.out s).mono ?_;rintro e w1 ⟨rfl,hb1⟩;exact ⟨rfl,⟨w1,HSB.out s w1 hb1⟩,rfl⟩)|(go_at_call 57;refine (HATS.out s).mono ?_;rintro e w1 ⟨rfl,hb1⟩;exact ⟨rfl,⟨w1,HSB.out s w1 hb1⟩,rfl⟩)|(go_at_call 58;refine (HWL2.out s.w).mono ?_;rintro e w1 ⟨rfl,hb1⟩;exact ⟨rfl,⟨w1,HSB.out s w1 hb1⟩,rfl⟩))))
    refine wpQuiet_nil ?_
    intro _ hw'
    obtain ⟨s,hw''⟩:=hw'
    subst hw''
    have HBF:=H_ (HSW.out s)
    go_wp2_with fail
    go_ret
    exact ⟨ret_bool (by rw [HR.out];simp),HBF.out⟩
   by_cases hmo:xo<fr
   ·have HR:=H_ (HFK.out (by rw [HOK2.out];simp [hmo]))
    refine wp_region_hw S (by kernel_rfl) (by kernel_rfl) HSD.out ?_
    repeat (go_big_quiet_step ((rename_i s;first|(go_at_call 56;refine (HWKS.out s).mono ?_;rintro e w1 ⟨rfl,hb1⟩;exact ⟨rfl,⟨w1,HSB.out s w1 hb1⟩,rfl⟩)|(go_at_call 57;refine (HATS.out s).mono ?_;rintro e w1 ⟨rfl,hb1⟩;exact ⟨rfl,⟨w1,HSB.out s w1 hb1⟩,rfl⟩)|(go_at_call 58;refine (HWL2.out s.w).mono ?_;rintro e w1 ⟨rfl,hb1⟩;exact ⟨rfl,⟨w1,HSB.out s w1 hb1⟩,rfl⟩))))
    refine wpQuiet_nil ?_
    intro _ hw'
    obtain ⟨s,hw''⟩:=hw'
    subst hw''
    have HBF:=H_ (HSW.out s)
    go_wp2_with fail
    go_ret
    exact ⟨ret_bool (by rw [HR.out];simp),HBF.out⟩
   ·have HM2:=H_ (HMK.out (by rw [HOK2.out];simp [hmo]))
    refine wp_region_hw S (by kernel_rfl) (by kernel_rfl) HSD.out ?_
    repeat (go_big_quiet_step ((rename_i s;first|(go_at_call 56;refine (HWKS.out s).mono ?_;rintro e w1 ⟨rfl,hb1⟩;exact ⟨rfl,⟨w1,HSB.out s w1 hb1⟩,rfl⟩)|(go_at_call 57;refine (HATS.out s).mono ?_;rintro e w1 ⟨rfl,hb1⟩;exact ⟨rfl,⟨w1,HSB.out s w1 hb1⟩,rfl⟩)|(go_at_call 58;refine (HWL2.out s.w).mono ?_;rintro e w1 ⟨rfl,hb1⟩;exact ⟨rfl,⟨w1,HSB.out s w1 hb1⟩,rfl⟩))))
    refine wpQuiet_nil ?_
    intro _ hw'
    obtain ⟨s,hw''⟩:=hw'
    subst hw''
    have HBF:=H_ (HSW.out s)
    have HAF:=H_ (HA1.out.below (HSC.out s))
    go_wp2_with fail
    go_roundw
    case rel=>exact ⟨k+1,by omega,by go_num,HM2,HAF,HBF⟩
    case measure=>simp [intOf];omega
  ·have hlt2:¬(k:Int)<(ul:Int):=by omega
   obtain rfl:k=ul:=by omega
   have HR:=H_ (HY.out (by omega) HK.out)
   have al:=HA.out.1
   have a4:wr.cell? ⟨w.heap.size,4,none⟩=some (.slice ua k uc):=HA.out.2 4 (by simp)
   go_wp2_with fail
   clear a4 al HY HF HG HWR HAT HI
   go_loopw [5] (fun z wr=>∃k9:Nat,k9≤el∧z=.int .i64 k9∧Hid (∀i,i<k9→¬(es.getD i SeenR.N.zero).n<v)∧Hid (Blk w.heap.size [.slice ma ml mc,.slice ca cl cc,.slice sa sl sc,.slice ea el ec,.slice ua k uc,.slice da dl dc,.int .i64 fr] wr)∧Hid (Below w.heap.size w wr)) (fun z _=>el-(intOf z).toNat)
   case atStart=>exact ⟨0,by omega,rfl,H_ (fun i hi=>absurd hi (by omega)),HA,HB⟩
   case round =>
    clear HA HB
    obtain ⟨m,hm,rfl,HK2,HA,HB⟩:=hrel
    have al:=HA.out.1
    have a3:wr.cell? ⟨w.heap.size,3,none⟩=some (.slice ea el ec):=HA.out.2 3 (by simp)
    have a6:wr.cell? ⟨w.heap.size,6,none⟩=some (.int .i64 fr):=HA.out.2 6 (by simp)
    by_cases hlt:m<el
    ·have hlt2:(m:Int)<(el:Int):=by omega
     obtain ⟨b,off,rfl,hbl,c0,c1,c2⟩:=(HE.out.below HB.out).at m (by have:=HLE.out;omega)
     have HGK:=H_ (HGN.out m hlt)
     have HM9:Hid (¬(es.getD m SeenR.N.zero).n<v→∀i,i<m+1→¬(es.getD i SeenR.N.zero).n<v):=H_ (fun h i hi=>by
      by_cases e:i=m
      ·subst e;exact h
      ·exact HK2.out i (by omega))
     generalize es.getD m SeenR.N.zero=X at *
     obtain ⟨xi,xn,xs⟩:=X
     dsimp only at c0 c1 c2 HGK HM9
     obtain ⟨S,hS⟩:∃S:World→Prop,∀W,S W↔Below wr.heap.size wr W:=⟨_,fun _=>Iff.rfl⟩
     have HSC:Hid (∀s:HW S,Below wr.heap.size wr s.w):=H_ (fun s=>(hS _).1 s.h)
     have HSW:Hid (∀s:HW S,Below w.heap.size w s.w):=H_ (fun s=>HB.out.trans (((hS _).1 s.h).mono HB.out.size))
     have HSB:Hid (∀(s:HW S) w',Below s.w.heap.size s.w w'→S w'):=H_ (fun s w' hb=>(hS _).2 ((HSC.out s).trans (hb.mono (HSC.out s).size)))
     have HSD:Hid (S wr.drew):=H_ ((hS _).2 (Below.refl _ _).drew)
     have hne:Nonempty (HW S):=⟨⟨_,HSD.out⟩⟩
     have HVK:=H_ (fun s:HW S=>HV.out (by trivial) s.w (HSW.out s))
     have e3:∀s:HW S,s.w.cell? ⟨w.heap.size,3,none⟩=some (.slice (some ⟨b,off,none⟩) el ec):=fun s=>((HSC.out s).cell (p:=⟨w.heap.size,3,none⟩) al).trans a3
     have e6:∀s:HW S,s.w.cell? ⟨w.heap.size,6,none⟩=some (.int .i64 fr):=fun s=>((HSC.out s).cell (p:=⟨w.heap.size,6,none⟩) al).trans a6
     have g1:∀s:HW S,s.w.cell? ⟨b,off+m*3+1,none⟩=some (.int .i64 xn):=fun s=>((HSC.out s).cell (p:=⟨b,off+m*3+1,none⟩) hbl).trans c1
     clear hS
     by_cases hx:xn<v
     ·have HR2:=H_ (HGK.out hx)
      go_wp2_with fail
      clear a3 a6 c0 c1 c2 al
      refine wp_region_hw S (by kernel_rfl) (by kernel_rfl) HSD.out ?_
      repeat (go_big_quiet_step ((rename_i s;go_at_call 59;refine (HVK.out s).mono ?_;rintro e w1 ⟨rfl,hb1⟩;exact ⟨rfl,⟨w1,HSB.out s w1 hb1⟩,rfl⟩)))
      refine wpQuiet_nil ?_
      intro _ hw'
      obtain ⟨s,hw''⟩:=hw'
      subst hw''
      have HB8:=H_ (HSW.out s)
      go_wp2_with fail
      go_ret
      exact ⟨ret_bool (by rw [HR.out,HR2.out];rfl),HB8.out⟩
     ·have HM2:=H_ (HM9.out (by first|exact hx|omega))
      go_wp2_with fail
      clear a3 a6 c0 c1 c2 al
      refine wp_region_hw S (by kernel_rfl) (by kernel_rfl) HSD.out ?_
      repeat (go_big_quiet_step ((rename_i s;go_at_call 59;refine (HVK.out s).mono ?_;rintro e w1 ⟨rfl,hb1⟩;exact ⟨rfl,⟨w1,HSB.out s w1 hb1⟩,rfl⟩)))
      refine wpQuiet_nil ?_
      intro _ hw'
      obtain ⟨s,hw''⟩:=hw'
      subst hw''
      have HB8:=H_ (HSW.out s)
      have HA8:=H_ (HA.out.below (HSC.out s))
      go_wp2_with fail
      go_roundw
      case rel=>exact ⟨m+1,by omega,by go_num,H_ (fun i hi=>by have:=HM2.out i hi;omega),HA8,HB8⟩
      case measure=>simp [intOf];omega
    ·have hlt2:¬(m:Int)<(el:Int):=by omega
     obtain rfl:m=el:=by omega
     have HR2:=H_ (HGY.out (fun i hi=>by have:=HK2.out i hi;omega))
     go_wp2_with fail
     go_ret
     exact ⟨ret_bool (by rw [HR.out,HR2.out];rfl),HB.out⟩
end EngR
end Go.Proofs.YtnceeaccbcfopaaGreatDoor
