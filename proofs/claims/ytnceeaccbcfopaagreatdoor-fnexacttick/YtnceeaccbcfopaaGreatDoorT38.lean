/-
  spec.EngineRight.
  An engine is right: spec.EngineRight and impl.EngineRight say the same.
  Tick on both sides: each answers what Tick answers; the program's answer is its own.
  Tick by the model: it answers what Tick answers.
  The conditions stand in what each theorem says.
-/
import Derived.Test.YtnceeaccbcfopaaGreatDoorT37
set_option maxRecDepth 100000
set_option maxHeartbeats 16000000
namespace Go.Proofs.YtnceeaccbcfopaaGreatDoor
open Go.ChangeShapes Go.WideShapes Go.ChangeAt Go.RowKit
set_option linter.unusedVariables false
namespace EngR
open CatR
open WinR (Wd Wns wcells wB wlt Tgs Hrs)
theorem gone_yes {es:List SeenR.N} {v:Int} {k:Nat} (hk:k<es.length) (h:(es.getD k SeenR.N.zero).n<v):goneB es v=true:=by
 refine List.any_eq_true.2 ⟨es[k],List.getElem_mem hk,decide_eq_true ?_⟩
 simpa [List.getD,hk] using h
theorem gone_no {es:List SeenR.N} {v:Int} (h:∀k,k<es.length→¬(es.getD k SeenR.N.zero).n<v):goneB es v=false:=by
 refine List.any_eq_false.2 (fun x hx=>?_)
 obtain ⟨i,hi,rfl⟩:=List.getElem_of_mem hx
 have:=h i hi
 simpa [List.getD,hi] using this
theorem seright_in (ma:Option Addr) (ml mc:Nat) (ca:Option Addr) (cl cc:Nat) (sa:Option Addr) (sl sc:Nat) (ea:Option Addr) (ec:Nat) (ua:Option Addr) (uc:Nat) (da:Option Addr) (dl dc:Nat) (fr v:Int) (ms:List Me) (es:List SeenR.N) (ws:List Wd) (b1 b2 b3 b4 b5:Bool) (w:World)
 (hE:SeenR.Ens ea es w) (hel:es.length≤1048576) (hI:Wns ua ws w) (hlen:ws.length≤1048576)
 (h1:∀W,Below w.heap.size w W→Calls Tryz.prog 51 #[.agg #[.slice ma ml mc,.slice ca cl cc]] W fun e w'=>e=.returned (.bool b1)∧Below W.heap.size W w')
 (h2:∀W,Below w.heap.size w W→Calls Tryz.prog 52 #[.slice ea es.length ec] W fun e w'=>e=.returned (.bool b2)∧Below W.heap.size W w')
 (h3:∀W,Below w.heap.size w W→Calls Tryz.prog 53 #[.slice da dl dc] W fun e w'=>e=.returned (.bool b3)∧Below W.heap.size W w')
 (h4:∀W,Below w.heap.size w W→Calls Tryz.prog 54 #[.slice sa sl sc] W fun e w'=>e=.returned (.bool b4)∧Below W.heap.size W w')
 (h5:∀W,Calls Tryz.prog 55 #[.int .i64 fr] W fun e w'=>e=.returned (.bool b5)∧w'=W)
 (hw:∀k,k<ws.length→∀ta tc ha hc W,Below w.heap.size w W→Tgs ta (ws.getD k Wd.zero).ts W→Hrs ha (ws.getD k Wd.zero).hs W→Calls Tryz.prog 56 #[.agg (wcells (ws.getD k Wd.zero) ta tc ha hc)] W fun e w'=>e=.returned (.bool (wB (ws.getD k Wd.zero)))∧Below W.heap.size W w')
 (hs:∀t,∃r:Int,decide (r<0)=(!sellB ms t)∧∀W,Below w.heap.size w W→Calls Tryz.prog 57 #[.agg #[.slice ma ml mc,.slice ca cl cc],.string t] W fun e w'=>e=.returned (.int .i64 r)∧Below W.heap.size W w')
 (hv:b5=true→∀W,Below w.heap.size w W→Calls Tryz.prog 59 #[.int .i64 fr] W fun e w'=>e=.returned (.int .i64 v)∧Below W.heap.size W w') :
 Calls Tryz.prog 19 #[.agg #[.slice ma ml mc,.slice ca cl cc,.slice sa sl sc,.slice ea es.length ec,.slice ua ws.length uc,.slice da dl dc,.int .i64 fr]] w fun e w'=>e=.returned (.bool (b1&&b2&&b3&&b4&&b5&&winB ws ms fr && !goneB es v))∧Below w.heap.size w w':=by
 have H1:=H_ h1
 have H2:=H_ h2
 have H3:=H_ h3
 have H4:=H_ h4
 have H5:=H_ h5
 have HV:=H_ hv
 have HI:=H_ hI
 have HE:=H_ hE
 have HWR:=H_ hw
 have HAT:=H_ hs
 have HF:Hid (∀k,k<ws.length→wok ws ms fr k=false→winB ws ms fr=false):=H_ (fun k hk h=>winB_no hk h)
 have HG:Hid (16<ws.length→winB ws ms fr=false):=H_ (fun h=>winB_long h)
 have HY:Hid (ws.length≤16→(∀i,i<ws.length→wok ws ms fr i=true)→winB ws ms fr=true):=H_ (fun h h2=>winB_yes h h2)
 have HGN:Hid (∀k,k<es.length→(es.getD k SeenR.N.zero).n<v→goneB es v=true):=H_ (fun k hk h=>gone_yes hk h)
 have HGY:Hid ((∀k,k<es.length→¬(es.getD k SeenR.N.zero).n<v)→goneB es v=false):=H_ (fun h=>gone_no h)
 generalize winB ws ms fr=RW at *
 generalize goneB es v=RG at *
 obtain ⟨ul,hul⟩:∃z,z=ws.length:=⟨_,rfl⟩
 obtain ⟨el,hell⟩:∃z,z=es.length:=⟨_,rfl⟩
 have HL:=H_ hul
 have HLE:=H_ hell
 rw [←hul] at hlen HF HG HY ⊢
 rw [←hell] at hel HGN HGY H2 ⊢
 obtain ⟨W0,hW0⟩:∃z,z=w.alloc (.cells #[.slice ma ml mc,.slice ca cl cc,.slice sa sl sc,.slice ea el ec,.slice ua ul uc,.slice da dl dc,.int .i64 fr] 42):=⟨_,rfl⟩
 have hal:Below w.heap.size w W0:=by rw [hW0];exact (Below.refl _ _).alloc (Nat.le_refl _) _
 have hA:Blk w.heap.size [.slice ma ml mc,.slice ca cl cc,.slice sa sl sc,.slice ea el ec,.slice ua ul uc,.slice da dl dc,.int .i64 fr] W0:=by rw [hW0];exact Blk.new w _ _
 have HB0:=H_ hal
 have HA0:=H_ hA
 have HWq:=H_ hW0
 have al:=hA.1
 clear h1 h2 h3 h4 h5 hw hs hv hI hE hul hell hal hW0 hA al
 go_enter Tryz.func19,Tryz.ntmps19
 go_wp2_with fail
 rw [←HWq.out]
 clear HWq
 refine (H1.out _ HB0.out).mono ?_
 rintro e w1 ⟨rfl,hb⟩
 have HB1:=HT_ HB0 hb
 have HA1:=H_ (HA0.out.below hb)
 clear hb
 cases b1
 ·go_wp2_with fail
  go_ret
  exact ⟨rfl,HB1.out⟩
 have al:=HA1.out.1
 have c3:=q_ HA1.out.2 3
 go_wp2_with fail
 refine (H2.out _ HB1.out).mono ?_
 rintro e w2 ⟨rfl,hb⟩
 have HB2:=HT_ HB1 hb
 have HA2:=H_ (HA1.out.below hb)
 clear hb
 clear al c3
 cases b2
 ·go_wp2_with fail
  go_ret
  exact ⟨rfl,HB2.out⟩
 have al:=HA2.out.1
 have c5:=q_ HA2.out.2 5
 go_wp2_with fail
 refine (H3.out _ HB2.out).mono ?_
 rintro e w3 ⟨rfl,hb⟩
 have HB3:=HT_ HB2 hb
 have HA3:=H_ (HA2.out.below hb)
 clear hb
 clear al c5
 cases b3
 ·go_wp2_with fail
  go_ret
  exact ⟨rfl,HB3.out⟩
 have al:=HA3.out.1
 have c2:=q_ HA3.out.2 2
 go_wp2_with fail
 refine (H4.out _ HB3.out).mono ?_
 rintro e w4 ⟨rfl,hb⟩
 have HB4:=HT_ HB3 hb
 have HA4:=H_ (HA3.out.below hb)
 clear hb
 clear al c2
 cases b4
 ·go_wp2_with fail
  go_ret
  exact ⟨rfl,HB4.out⟩
 have al:=HA4.out.1
 have c4:=q_ HA4.out.2 4
 have c6:=q_ HA4.out.2 6
 by_cases h16:16<ul
 ·have h2:(16:Int)<(ul:Int):=by omega
  have HR:=H_ (HG.out h16)
  go_wp2_with fail
  go_ret
  exact ⟨ret_bool (by rw [HR.out];simp),HB4.out⟩
 have h2:¬(16:Int)<(ul:Int):=by omega
 go_wp2_with fail
 refine (H5.out _).mono ?_
 rintro e w5 ⟨rfl,hw⟩
 rw [hw]
 clear hw w5 al c4 c6
 cases b5
 ·go_wp2_with fail
  go_ret
  exact ⟨rfl,HB4.out⟩
 clear H1 H2 H3 H4 H5 HB1 HB2 HB3 HB0 HA0 HA1 HA2 HA3
 go_wp2_with fail
 go_loopw [3] (fun z wr=>∃k:Nat,k≤ul∧z=.int .i64 k∧Hid (∀i,i<k→wok ws ms fr i=true)∧Hid (Blk w.heap.size [.slice ma ml mc,.slice ca cl cc,.slice sa sl sc,.slice ea el ec,.slice ua ul uc,.slice da dl dc,.int .i64 fr] wr)∧Hid (Below w.heap.size w wr)) (fun z _=>ul-(intOf z).toNat)
 case atStart=>exact ⟨0,by omega,rfl,H_ (fun i hi=>absurd hi (by omega)),HA4,HB4⟩
 case round =>
  clear HA4 HB4
  obtain ⟨k,hk,rfl,HK,HA,HB⟩:=hrel
  by_cases hlt:k<ul
  ·have hlt2:(k:Int)<(ul:Int):=by omega
   obtain ⟨b,off,ta,tc,ha,hc,rfl,hbl,c0,c1,c2,c3,c4,c5,c6,c7,hT,hH⟩:=(HI.out.below HB.out).at k (by have:=HL.out;omega)
   have hlk:k<ws.length:=by have:=HL.out;omega
   have HWK:=H_ (HWR.out k hlk ta tc ha hc)
   have HFK:=H_ (HF.out k hlt)
   have HMK:Hid (wok ws ms fr k=true→∀i,i<k+1→wok ws ms fr i=true):=H_ (fun h=>okMore HK.out h)
   have HOK:Hid (wok ws ms fr k=(wB (ws.getD k Wd.zero)&&sellB ms (ws.getD k Wd.zero).m && !decide ((ws.getD k Wd.zero).mo<fr)&&(k==0||wlt (ws.getD (k-1) Wd.zero) (ws.getD k Wd.zero)))):=H_ rfl
   obtain ⟨X,hX⟩:∃z,z=ws.getD k Wd.zero:=⟨_,rfl⟩
   rw [←hX] at c0 c1 c2 c3 c4 c5 c6 c7 hT hH HWK HOK
   have HWL:Hid (∀(Y:Wd) (ta' ha':Option Addr) (tc' hc':Nat) (W:World),Calls Tryz.prog 58 #[.agg (wcells Y ta' tc' ha' hc'),.agg (wcells X ta tc ha hc)] W fun e w'=>e=.returned (.bool (wlt Y X))∧Below W.heap.size W w'):=H_ (fun Y ta' ha' tc' hc' W=>WinR.sless Y X ta' ha' ta ha tc' hc' tc hc W)
   generalize hqw:wB X=bw at *
   clear hqw
   generalize hqw:(fun Y=>wlt Y X)=WL at *
   have hWL:∀Y,wlt Y X=WL Y:=fun Y=>congrFun hqw Y
   simp only [hWL] at HWL HOK
   clear hqw hWL hX
   obtain ⟨xa,xm,xo,xe,xs,xx,xt,xh⟩:=X
   dsimp only [wcells] at c0 c1 c2 c3 c4 c5 c6 c7 hT hH HWK HOK HWL
   obtain ⟨W1,hW1⟩:∃z,z=wr.alloc (.cells #[.string xa,.string xm,.int .i64 xo,.int .i64 xe,.int .i64 xs,.int .i64 xx,.slice ta xt.length tc,.slice ha xh.length hc] 106):=⟨_,rfl⟩
   have hal:Below wr.heap.size wr W1:=by rw [hW1];exact (Below.refl _ _).alloc (Nat.le_refl _) _
   have hX1:Blk wr.heap.size [.string xa,.string xm,.int .i64 xo,.int .i64 xe,.int .i64 xs,.int .i64 xx,.slice ta xt.length tc,.slice ha xh.length hc] W1:=by rw [hW1];exact Blk.new wr _ _
   have HB1:=HT_ HB hal
   have hA1:=HA.out.below hal
   have HA1:=H_ hA1
   have HW1:=H_ hW1
   obtain ⟨S,hS⟩:∃S:World→Prop,∀W,S W↔Below W1.heap.size W1 W:=⟨_,fun _=>Iff.rfl⟩
   have HSC:Hid (∀s:HW S,Below W1.heap.size W1 s.w):=H_ (fun s=>(hS _).1 s.h)
   have HSW:Hid (∀s:HW S,Below w.heap.size w s.w):=H_ (fun s=>HB1.out.trans (((hS _).1 s.h).mono HB1.out.size))
   have HSB:Hid (∀(s:HW S) w',Below s.w.heap.size s.w w'→S w'):=H_ (fun s w' hb=>(hS _).2 ((HSC.out s).trans (hb.mono (HSC.out s).size)))
   have HSD:Hid (S W1.drew):=H_ ((hS _).2 (Below.refl _ _).drew)
   have hne:Nonempty (HW S):=⟨⟨_,HSD.out⟩⟩
   have HWKS:=H_ (fun s:HW S=>HWK.out s.w (HSW.out s) ((hT.below hal).below (HSC.out s)) ((hH.below hal).below (HSC.out s)))
   have hIS:=(HI.out.below HB1.out)
   have hal0:=HA.out.1
   obtain ⟨r,hr,hat⟩:=HAT.out xm
   have HATS:=H_ (fun s:HW S=>hat s.w (HSW.out s))
   clear hat hT hH hal hW1 HWK hS
   have hX2:=hX1
   generalize xt.length=tl at *
   generalize xh.length=hl at *
   have a4:=q_ HA.out.2 4
   go_wp2_with fail
   rw [←HW1.out]
   clear HW1 c0 c1 c2 c3 c4 c5 c6 c7 a4 hal0
   generalize wr.heap.size=B at *
   have bl:=hX1.1
   have al:=hA1.1
   have e0:∀s:HW S,s.w.cell? ⟨w.heap.size,0,none⟩=some (.slice ma ml mc):=fun s=>((HSC.out s).cell (p:=⟨w.heap.size,0,none⟩) al).trans (hA1.2 0 (by simp))
   have e1:∀s:HW S,s.w.cell? ⟨w.heap.size,1,none⟩=some (.slice ca cl cc):=fun s=>((HSC.out s).cell (p:=⟨w.heap.size,1,none⟩) al).trans (hA1.2 1 (by simp))
   have e4:∀s:HW S,s.w.cell? ⟨w.heap.size,4,none⟩=some (.slice (some ⟨b,off,none⟩) ul uc):=fun s=>((HSC.out s).cell (p:=⟨w.heap.size,4,none⟩) al).trans (hA1.2 4 (by simp))
   have e6:∀s:HW S,s.w.cell? ⟨w.heap.size,6,none⟩=some (.int .i64 fr):=fun s=>((HSC.out s).cell (p:=⟨w.heap.size,6,none⟩) al).trans (hA1.2 6 (by simp))
   have f0:∀s:HW S,s.w.cell? ⟨B,0,none⟩=some (.string xa):=fun s=>((HSC.out s).cell (p:=⟨B,0,none⟩) bl).trans (hX1.2 0 (by simp))
   have f1:∀s:HW S,s.w.cell? ⟨B,1,none⟩=some (.string xm):=fun s=>((HSC.out s).cell (p:=⟨B,1,none⟩) bl).trans (hX1.2 1 (by simp))
   have f2:∀s:HW S,s.w.cell? ⟨B,2,none⟩=some (.int .i64 xo):=fun s=>((HSC.out s).cell (p:=⟨B,2,none⟩) bl).trans (hX1.2 2 (by simp))
   have f3:∀s:HW S,s.w.cell? ⟨B,3,none⟩=some (.int .i64 xe):=fun s=>((HSC.out s).cell (p:=⟨B,3,none⟩) bl).trans (hX1.2 3 (by simp))
   have f4:∀s:HW S,s.w.cell? ⟨B,4,none⟩=some (.int .i64 xs):=fun s=>((HSC.out s).cell (p:=⟨B,4,none⟩) bl).trans (hX1.2 4 (by simp))
   have f5:∀s:HW S,s.w.cell? ⟨B,5,none⟩=some (.int .i64 xx):=fun s=>((HSC.out s).cell (p:=⟨B,5,none⟩) bl).trans (hX1.2 5 (by simp))
   have f6:∀s:HW S,s.w.cell? ⟨B,6,none⟩=some (.slice ta tl tc):=fun s=>((HSC.out s).cell (p:=⟨B,6,none⟩) bl).trans (hX1.2 6 (by simp))
   have f7:∀s:HW S,s.w.cell? ⟨B,7,none⟩=some (.slice ha hl hc):=fun s=>((HSC.out s).cell (p:=⟨B,7,none⟩) bl).trans (hX1.2 7 (by simp))
   clear hX1 hX2 hA1 al bl
   cases bw
   ·have HR:=H_ (HFK.out (by rw [HOK.out];simp))
    refine wp_region_hw S (by kernel_rfl) (by kernel_rfl) HSD.out ?_
    repeat (go_big_quiet_step ((rename_i s;first|(go_at_call 56;refine (HWKS.out s).mono ?_;rintro e w1 ⟨rfl,hb1⟩;exact ⟨rfl,⟨w1,HSB.out s w1 hb1⟩,rfl⟩)|(go_at_call 57;refine (HATS.out s).mono ?_;rintro e w1 ⟨rfl,hb1⟩;exact ⟨rfl,⟨w1,HSB.out s w1 hb1⟩,rfl⟩))))
    refine wpQuiet_nil ?_
    intro _ hw'
    obtain ⟨s,hw''⟩:=hw'
    subst hw''
    have HBF:=H_ (HSW.out s)
    go_wp2_with fail
    go_ret
    exact ⟨ret_bool (by rw [HR.out];simp),HBF.out⟩
   generalize sellB ms xm=bs at *
   cases bs
   ·have HR:=H_ (HFK.out (by rw [HOK.out];simp))
    have hr0:r<0:=of_decide_eq_true (by rw [hr];rfl)
    clear hr
    refine wp_region_hw S (by kernel_rfl) (by kernel_rfl) HSD.out ?_
    repeat (go_big_quiet_step ((rename_i s;first|(go_at_call 56;refine (HWKS.out s).mono ?_;rintro e w1 ⟨rfl,hb1⟩;exact ⟨rfl,⟨w1,HSB.out s w1 hb1⟩,rfl⟩)|(go_at_call 57;refine (HATS.out s).mono ?_;rintro e w1 ⟨rfl,hb1⟩;exact ⟨rfl,⟨w1,HSB.out s w1 hb1⟩,rfl⟩))))
    refine wpQuiet_nil ?_
    intro _ hw'
    obtain ⟨s,hw''⟩:=hw'
    subst hw''
    have HBF:=H_ (HSW.out s)
    go_wp2_with fail
    go_ret
    exact ⟨ret_bool (by rw [HR.out];simp),HBF.out⟩
   have hr0:¬r<0:=of_decide_eq_false (by rw [hr];rfl)
   clear hr
   rcases (show k=0∨∃j,k=j+1 from by rcases k with _|j;exact .inl rfl;exact .inr ⟨j,rfl⟩) with rfl|⟨j,hkj⟩
   ·by_cases hmo:xo<fr
    ·have HR:=H_ (HFK.out (by rw [HOK.out];simp [hmo]))
     refine wp_region_hw S (by kernel_rfl) (by kernel_rfl) HSD.out ?_
     repeat (go_big_quiet_step ((rename_i s;first|(go_at_call 56;refine (HWKS.out s).mono ?_;rintro e w1 ⟨rfl,hb1⟩;exact ⟨rfl,⟨w1,HSB.out s w1 hb1⟩,rfl⟩)|(go_at_call 57;refine (HATS.out s).mono ?_;rintro e w1 ⟨rfl,hb1⟩;exact ⟨rfl,⟨w1,HSB.out s w1 hb1⟩,rfl⟩))))
     refine wpQuiet_nil ?_
     intro _ hw'
     obtain ⟨s,hw''⟩:=hw'
     subst hw''
     have HBF:=H_ (HSW.out s)
     go_wp2_with fail
     go_ret
     exact ⟨ret_bool (by rw [HR.out];simp),HBF.out⟩
    ·have HM2:=H_ (HMK.out (by rw [HOK.out];simp [hmo]))
     refine wp_region_hw S (by kernel_rfl) (by kernel_rfl) HSD.out ?_
     repeat (go_big_quiet_step ((rename_i s;first|(go_at_call 56;refine (HWKS.out s).mono ?_;rintro e w1 ⟨rfl,hb1⟩;exact ⟨rfl,⟨w1,HSB.out s w1 hb1⟩,rfl⟩)|(go_at_call 57;refine (HATS.out s).mono ?_;rintro e w1 ⟨rfl,hb1⟩;exact ⟨rfl,⟨w1,HSB.out s w1 hb1⟩,rfl⟩))))
     refine wpQuiet_nil ?_
     intro _ hw'
     obtain ⟨s,hw''⟩:=hw'
     subst hw''
     have HBF:=H_ (HSW.out s)
     have HAF:=H_ (HA1.out.below (HSC.out s))
     go_wp2_with fail
     go_roundw
     case rel=>exact ⟨0+1,by omega,by go_num,HM2,HAF,HBF⟩
     case measure=>simp [intOf];omega
   obtain ⟨b',off',ta',tc',ha',hc',hbo,hbl',d0,d1,d2,d3,d4,d5,d6,d7,_,_⟩:=hIS.at j (by have:=HL.out;omega)
   obtain ⟨rfl,rfl⟩:b=b'∧off=off':=by simpa using hbo
   clear hbo
   have HWL2:=H_ (HWL.out (ws.getD j Wd.zero) ta' ha' tc' hc')
   have HOK2:Hid (wok ws ms fr k=(!decide (xo<fr)&&WL (ws.getD j Wd.zero))):=H_ (by rw [HOK.out];simp [hkj])
   clear HOK HWL
   generalize WL (ws.getD j Wd.zero)=lb at *
   generalize ws.getD j Wd.zero=Y at *
   obtain ⟨ya,ym,yo,ye,ys,yx,yt,yh⟩:=Y
   dsimp only [wcells] at d0 d1 d2 d3 d4 d5 d6 d7 HWL2
   generalize yt.length=tl' at *
   generalize yh.length=hl' at *
   have hj1:IntKind.i64.wrap ((k:Int)-1)=(j:Int):=by rw [IntKind.wrap_i64];omega
   have hj2:0<k:=by omega
   have hj3:(j:Int)<(ul:Int):=by omega
   clear hkj hIS
   have g0:∀s:HW S,s.w.cell? ⟨b,off+j*8,none⟩=some (.string ya):=fun s=>((HSC.out s).cell (p:=⟨b,off+j*8,none⟩) hbl').trans d0
   have g1:∀s:HW S,s.w.cell? ⟨b,off+j*8+1,none⟩=some (.string ym):=fun s=>((HSC.out s).cell (p:=⟨b,off+j*8+1,none⟩) hbl').trans d1
   have g2:∀s:HW S,s.w.cell? ⟨b,off+j*8+2,none⟩=some (.int .i64 yo):=fun s=>((HSC.out s).cell (p:=⟨b,off+j*8+2,none⟩) hbl').trans d2
   have g3:∀s:HW S,s.w.cell? ⟨b,off+j*8+3,none⟩=some (.int .i64 ye):=fun s=>((HSC.out s).cell (p:=⟨b,off+j*8+3,none⟩) hbl').trans d3
   have g4:∀s:HW S,s.w.cell? ⟨b,off+j*8+4,none⟩=some (.int .i64 ys):=fun s=>((HSC.out s).cell (p:=⟨b,off+j*8+4,none⟩) hbl').trans d4
   have g5:∀s:HW S,s.w.cell? ⟨b,off+j*8+5,none⟩=some (.int .i64 yx):=fun s=>((HSC.out s).cell (p:=⟨b,off+j*8+5,none⟩) hbl').trans d5
   have g6:∀s:HW S,s.w.cell? ⟨b,off+j*8+6,none⟩=some (.slice ta' tl' tc'):=fun s=>((HSC.out s).cell (p:=⟨b,off+j*8+6,none⟩) hbl').trans d6
   have g7:∀s:HW S,s.w.cell? ⟨b,off+j*8+7,none⟩=some (.slice ha' hl' hc'):=fun s=>((HSC.out s).cell (p:=⟨b,off+j*8+7,none⟩) hbl').trans d7
   clear d0 d1 d2 d3 d4 d5 d6 d7
   cases lb
   ·have HR:=H_ (HFK.out (by rw [HOK2.out];simp))
    refine wp_region_hw S (by kernel_rfl) (by kernel_rfl) HSD.out ?_
    repeat (go_big_quiet_step ((rename_i s;first|(go_at_call 56;refine (HWKS.out s).mono ?_;rintro e w1 ⟨rfl,hb1⟩;exact ⟨rfl,⟨w1,HSB.out s w1 hb1⟩,rfl⟩)|(go_at_call 57;refine (HATS.out s).mono ?_;rintro e w1 ⟨rfl,hb1⟩;exact ⟨rfl,⟨w1,HSB.out s w1 hb1⟩,rfl⟩)|(go_at_call 58;refine (HWL2.out s.w).mono ?_;rintro e w1 ⟨rfl,hb1⟩;exact ⟨rfl,⟨w1,HSB.out s w1 hb1⟩,rfl⟩))))
    refine wpQuiet_nil ?_
    intro _ hw'
    obtain ⟨s,hw''⟩:=hw'
    subst hw''
    have HBF:=H_ (HSW.out s)
    go_wp2_with fail
    go_ret
    exact ⟨ret_bool (by rw [HR.out];simp),HBF.out⟩
   by_cases hmo:xo<fr
   ·have HR:=H_ (HFK.out (by rw [HOK2.out];simp [hmo]))
    refine wp_region_hw S (by kernel_rfl) (by kernel_rfl) HSD.out ?_
    repeat (go_big_quiet_step ((rename_i s;first|(go_at_call 56;refine (HWKS.out s).mono ?_;rintro e w1 ⟨rfl,hb1⟩;exact ⟨rfl,⟨w1,HSB.out s w1 hb1⟩,rfl⟩)|(go_at_call 57;refine (HATS.out s).mono ?_;rintro e w1 ⟨rfl,hb1⟩;exact ⟨rfl,⟨w1,HSB.out s w1 hb1⟩,rfl⟩)|(go_at_call 58;refine (HWL2.out s.w).mono ?_;rintro e w1 ⟨rfl,hb1⟩;exact ⟨rfl,⟨w1,HSB.out s w1 hb1⟩,rfl⟩))))
    refine wpQuiet_nil ?_
    intro _ hw'
    obtain ⟨s,hw''⟩:=hw'
    subst hw''
    have HBF:=H_ (HSW.out s)
    go_wp2_with fail
    go_ret
    exact ⟨ret_bool (by rw [HR.out];simp),HBF.out⟩
   ·have HM2:=H_ (HMK.out (by rw [HOK2.out];simp [hmo]))
    refine wp_region_hw S (by kernel_rfl) (by kernel_rfl) HSD.out ?_
    repeat (go_big_quiet_step ((rename_i s;first|(go_at_call 56;refine (HWKS.out s).mono ?_;rintro e w1 ⟨rfl,hb1⟩;exact ⟨rfl,⟨w1,HSB.out s w1 hb1⟩,rfl⟩)|(go_at_call 57;refine (HATS.out s).mono ?_;rintro e w1 ⟨rfl,hb1⟩;exact ⟨rfl,⟨w1,HSB.out s w1 hb1⟩,rfl⟩)|(go_at_call 58;refine (HWL2.out s.w).mono ?_;rintro e w1 ⟨rfl,hb1⟩;exact ⟨rfl,⟨w1,HSB.out s w1 hb1⟩,rfl⟩))))
    refine wpQuiet_nil ?_
    intro _ hw'
    obtain ⟨s,hw''⟩:=hw'
    subst hw''
    have HBF:=H_ (HSW.out s)
    have HAF:=H_ (HA1.out.below (HSC.out s))
    go_wp2_with fail
    go_roundw
    case rel=>exact ⟨k+1,by omega,by go_num,HM2,HAF,HBF⟩
    case measure=>simp [intOf];omega
  ·have hlt2:¬(k:Int)<(ul:Int):=by omega
   obtain rfl:k=ul:=by omega
   have HR:=H_ (HY.out (by omega) HK.out)
   have al:=HA.out.1
   have a4:=q_ HA.out.2 4
   go_wp2_with fail
   clear a4 al HY HF HG HWR HAT HI
   go_loopw [5] (fun z wr=>∃k9:Nat,k9≤el∧z=.int .i64 k9∧Hid (∀i,i<k9→¬(es.getD i SeenR.N.zero).n<v)∧Hid (Blk w.heap.size [.slice ma ml mc,.slice ca cl cc,.slice sa sl sc,.slice ea el ec,.slice ua k uc,.slice da dl dc,.int .i64 fr] wr)∧Hid (Below w.heap.size w wr)) (fun z _=>el-(intOf z).toNat)
   case atStart=>exact ⟨0,by omega,rfl,H_ (fun i hi=>absurd hi (by omega)),HA,HB⟩
   case round =>
    clear HA HB
    obtain ⟨m,hm,rfl,HK2,HA,HB⟩:=hrel
    have al:=HA.out.1
    have a3:=q_ HA.out.2 3
    have a6:=q_ HA.out.2 6
    by_cases hlt:m<el
    ·have hlt2:(m:Int)<(el:Int):=by omega
     obtain ⟨b,off,rfl,hbl,c0,c1,c2⟩:=(HE.out.below HB.out).at m (by have:=HLE.out;omega)
     have HGK:=H_ (HGN.out m hlt)
     have HM9:Hid (¬(es.getD m SeenR.N.zero).n<v→∀i,i<m+1→¬(es.getD i SeenR.N.zero).n<v):=H_ (fun h i hi=>by
      by_cases e:i=m
      ·subst e;exact h
      ·exact HK2.out i (by omega))
     generalize es.getD m SeenR.N.zero=X at *
     obtain ⟨xi,xn,xs⟩:=X
     dsimp only at c0 c1 c2 HGK HM9
     obtain ⟨S,hS⟩:∃S:World→Prop,∀W,S W↔Below wr.heap.size wr W:=⟨_,fun _=>Iff.rfl⟩
     have HSC:Hid (∀s:HW S,Below wr.heap.size wr s.w):=H_ (fun s=>(hS _).1 s.h)
     have HSW:Hid (∀s:HW S,Below w.heap.size w s.w):=H_ (fun s=>HB.out.trans (((hS _).1 s.h).mono HB.out.size))
     have HSB:Hid (∀(s:HW S) w',Below s.w.heap.size s.w w'→S w'):=H_ (fun s w' hb=>(hS _).2 ((HSC.out s).trans (hb.mono (HSC.out s).size)))
     have HSD:Hid (S wr.drew):=H_ ((hS _).2 (Below.refl _ _).drew)
     have hne:Nonempty (HW S):=⟨⟨_,HSD.out⟩⟩
     have HVK:=H_ (fun s:HW S=>HV.out (by trivial) s.w (HSW.out s))
     have e3:∀s:HW S,s.w.cell? ⟨w.heap.size,3,none⟩=some (.slice (some ⟨b,off,none⟩) el ec):=fun s=>((HSC.out s).cell (p:=⟨w.heap.size,3,none⟩) al).trans a3
     have e6:∀s:HW S,s.w.cell? ⟨w.heap.size,6,none⟩=some (.int .i64 fr):=fun s=>((HSC.out s).cell (p:=⟨w.heap.size,6,none⟩) al).trans a6
     have g1:∀s:HW S,s.w.cell? ⟨b,off+m*3+1,none⟩=some (.int .i64 xn):=fun s=>((HSC.out s).cell (p:=⟨b,off+m*3+1,none⟩) hbl).trans c1
     clear hS
     by_cases hx:xn<v
     ·have HR2:=H_ (HGK.out hx)
      go_wp2_with fail
      clear a3 a6 c0 c1 c2 al
      refine wp_region_hw S (by kernel_rfl) (by kernel_rfl) HSD.out ?_
      repeat (go_big_quiet_step ((rename_i s;go_at_call 59;refine (HVK.out s).mono ?_;rintro e w1 ⟨rfl,hb1⟩;exact ⟨rfl,⟨w1,HSB.out s w1 hb1⟩,rfl⟩)))
      refine wpQuiet_nil ?_
      intro _ hw'
      obtain ⟨s,hw''⟩:=hw'
      subst hw''
      have HB8:=H_ (HSW.out s)
      go_wp2_with fail
      go_ret
      exact ⟨ret_bool (by rw [HR.out,HR2.out];rfl),HB8.out⟩
     ·have HM2:=H_ (HM9.out (by first|exact hx|omega))
      go_wp2_with fail
      clear a3 a6 c0 c1 c2 al
      refine wp_region_hw S (by kernel_rfl) (by kernel_rfl) HSD.out ?_
      repeat (go_big_quiet_step ((rename_i s;go_at_call 59;refine (HVK.out s).mono ?_;rintro e w1 ⟨rfl,hb1⟩;exact ⟨rfl,⟨w1,HSB.out s w1 hb1⟩,rfl⟩)))
      refine wpQuiet_nil ?_
      intro _ hw'
      obtain ⟨s,hw''⟩:=hw'
      subst hw''
      have HB8:=H_ (HSW.out s)
      have HA8:=H_ (HA.out.below (HSC.out s))
      go_wp2_with fail
      go_roundw
      case rel=>exact ⟨m+1,by omega,by go_num,H_ (fun i hi=>by have:=HM2.out i hi;omega),HA8,HB8⟩
      case measure=>simp [intOf];omega
    ·have hlt2:¬(m:Int)<(el:Int):=by omega
     obtain rfl:m=el:=by omega
     have HR2:=H_ (HGY.out (fun i hi=>by have:=HK2.out i hi;omega))
     go_wp2_with fail
     go_ret
     exact ⟨ret_bool (by rw [HR.out,HR2.out];rfl),HB.out⟩
end EngR
namespace EngR
open CatR
theorem at_first (ms:List Me) (t:ByteArray) (n:Nat):(∃k,k<n∧mN ms k=t∧∀i,i<k→mN ms i≠t)∨(∀i,i<n→mN ms i≠t):=by
 induction n with
 | zero=>exact .inr (fun i h=>absurd h (by omega))
 | succ n ih =>
  rcases ih with ⟨k,hk,h1,h2⟩|h
  ·exact .inl ⟨k,by omega,h1,h2⟩
  ·by_cases e:mN ms n=t
   ·exact .inl ⟨n,by omega,e,h⟩
   ·refine .inr (fun i hi=>?_)
    by_cases q:i=n
    ·subst q;exact e
    ·exact h i (by omega)
theorem at_ex (ms:List Me) (t:ByteArray):∃r,atB ms t r:=by
 rcases at_first ms t ms.length with ⟨k,hk,h1,h2⟩|h
 ·exact ⟨k,.inl ⟨k,hk,rfl,h1,h2⟩⟩
 ·exact ⟨-1,.inr ⟨rfl,h⟩⟩
theorem at_one {ms:List Me} {t:ByteArray} {r r':Int} (h:atB ms t r) (h':atB ms t r'):r=r':=by
 rcases h with ⟨k,hk,rfl,h1,h2⟩|⟨rfl,h⟩<;>rcases h' with ⟨k',hk',rfl,h1',h2'⟩|⟨rfl,h'⟩
 ·have a:=fun q=>h2 k' q h1'
  have b:=fun q=>h2' k q h1
  rcases Nat.lt_trichotomy k k' with q|q|q
  ·exact (b q).elim
  ·rw [q]
  ·exact (a q).elim
 ·exact absurd h1 (h' k hk)
 ·exact absurd h1' (h k' hk')
 ·rfl
theorem spec_eng (val:Value) (x:Eng) (v:Int) (w:World) (hS:x.Small) (hE:IsEng val x w)
 (hv:0≤x.fr→x.fr≤2760→∀W,Below w.heap.size w W→Calls Tryz.prog 59 #[.int .i64 x.fr] W fun e w'=>e=.returned (.int .i64 v)∧Below W.heap.size W w') :
 Calls Tryz.prog 19 #[val] w fun e w'=>e=.returned (.bool (engB x v))∧Below w.heap.size w w':=by
 obtain ⟨ma,mc,ca,cc,sa,sc,ea,ec,ua,uc,da,dc,rfl,q1,q2,q3,q4,q5,q6⟩:=hE
 refine (seright_in ma _ mc ca _ cc sa _ sc ea ec ua uc da _ dc x.fr v x.c.ms x.es x.ws (caB x.c) (SeenR.sB x.es) (LedR.lB x.ds) (srcB x.ss) (decide (0≤x.fr∧x.fr≤2760)) w q4 hS.el q5 hS.wl ?_ ?_ ?_ ?_ ?_ ?_ ?_ ?_).mono ?_
 ·intro W hW
  exact CatR.spec_ca _ x.c W hS.c ⟨ma,mc,ca,cc,rfl,q1.below hW,q2.below hW⟩
 ·intro W hW
  exact SeenR.spec_seen ea ec x.es W hS.el hS.es (q4.below hW)
 ·intro W hW
  exact LedR.spec_ledger da dc x.ds W hS.dl hS.ds (q6.below hW)
 ·intro W hW
  exact spec_srcsA sa sc x.ss W hS.sl hS.ss (q3.below hW)
 ·intro W
  exact WinR.sisMonth_any x.fr W
 ·intro k hk ta tc ha hc W hW hT hH
  have hk':=hS.ws k hk
  exact WinR.spec_window_right _ ta tc ha hc W hk'.1 hk'.2.1 hk'.2.2.1 hk'.2.2.2.1 hT hH
 ·intro t
  obtain ⟨r,hr⟩:=at_ex x.c.ms t
  refine ⟨r,at_sell hr,fun W hW=>(spec_at ma mc ca _ cc x.c.ms t W hS.c.ml (q1.below hW)).mono ?_⟩
  rintro e w' ⟨r',rfl,hr',hb⟩
  exact ⟨by rw [at_one hr' hr],hb⟩
 ·intro h W hW
  have h4:=of_decide_eq_true h
  exact hv h4.1 h4.2 W hW
 ·rintro e w' ⟨rfl,hb⟩
  refine ⟨?_,hb⟩
  unfold engB
  generalize caB x.c=a1
  generalize SeenR.sB x.es=a2
  generalize LedR.lB x.ds=a3
  generalize srcB x.ss=a4
  generalize decide (0≤x.fr∧x.fr≤2760)=a5
  generalize winB x.ws x.c.ms x.fr=a6
  generalize goneB x.es v=a7
  cases a1<;>cases a2<;>cases a3<;>cases a4<;>cases a5<;>cases a6<;>cases a7<;>rfl
theorem start_num (m:Int):∃v:Int,(0≤m→m≤2760→∀w,DateR.Laid w→Calls Tryz.prog 125 #[.int .i64 m] w fun e w'=>e=.returned (.int .i64 v)∧Below w.heap.size w w')∧(0≤m→m≤2760→∀w,Calls Tryz.prog 59 #[.int .i64 m] w fun e w'=>e=.returned (.int .i64 v)∧Below w.heap.size w w'):=by
 by_cases h:0≤m∧m≤2760
 ·obtain ⟨v,h1,h2⟩:=DateR.start_eng m h.1 h.2
  exact ⟨v,fun _ _=>h1,fun _ _=>h2⟩
 ·exact ⟨0,fun a b=>absurd ⟨a,b⟩ h,fun a b=>absurd ⟨a,b⟩ h⟩
end EngR
namespace EngR
open OwG CatR ChG DocR
open RowG (cellsAll grown_set MadeG Rws)
open EvtR (Pt)
theorem set_crA (ss:List Cr) (k:Nat) (m:Int):(cellsAll Cr.cells ss).set (k*2+1) (.int .i64 m)=cellsAll Cr.cells (ss.set k ⟨(ss.getD k Cr.zero).a,m⟩):=by
 by_cases h:k<ss.length
 ·exact set_cr ss k m h
 ·rw [List.set_eq_of_length_le (by rw [RowG.cellsAll_len Cr.len];omega),List.set_eq_of_length_le (by omega)]
theorem sm_a {x:Eng} (h:x.Small):∀c∈x.ss,c.a.size≤1048576:=fun c hc=>by
 obtain ⟨i,hi,rfl⟩:=List.getElem_of_mem hc
 have:=h.ss i hi
 simpa [List.getD,hi] using this
theorem sm_w {x:Eng} (h:x.Small):∀w∈x.ws,w.Small:=fun w hw=>by
 obtain ⟨i,hi,rfl⟩:=List.getElem_of_mem hw
 have:=h.ws i hi
 simpa [List.getD,hi] using this
theorem ok_me {x:Eng} (h:x.Ok):x.c.ms.length≤6∧x.c.cs.length≤6∧∀m∈x.c.ms,m.ts.length≤5:=by
 obtain ⟨⟨m6,hm⟩,⟨c6,_⟩⟩:=caB_iffC.1 h.c
 refine ⟨m6,c6,fun m hq=>?_⟩
 obtain ⟨i,hi,rfl⟩:=List.getElem_of_mem hq
 have:=(me_facts (hm i hi).1).2.2
 simpa [List.getD,hi] using this
theorem pc_srH {W:World} {lo hi:Nat} {v:Value} {xs:List Cr} (h:W.ownsRow lo 63 2 v xs.length (cellsAll Cr.cells xs)) (hn:xs.length≤1048576) (hb:∀b,v.ownBlock=some b→b<hi) (hh:hi≤W.heap.size):Pc (RCr xs) 39 94 (2*xs.length) lo hi v W:=by
 obtain ⟨a,c,rfl,_⟩:=RowG.own_made (z:=Cr.zero) Cr.len h
 refine ⟨hh,T1 (.slice a xs.length c),fun b q=>⟨(h.lt b q).1,hb b q⟩,fun W2 hs hb=>?_⟩
 have h2:=own_blk h hs hb
 exact ⟨⟨a,c,rfl,own_crsT h2 rfl⟩,fun K k1 k2=>mkh_src h2 k1 (by omega) hn⟩
theorem eoq_ill (cd:Int) {lo:Nat} {W:World} (hlo:lo≤W.heap.size):EoQ (E0,cd) lo (.agg #[.slice none 0 0,.slice none 0 0,.slice none 0 0,.slice none 0 0,.slice none 0 0,.slice none 0 0,.int .i64 0,.int .i64 0,.int .i64 0,.int .i64 0,.int .i64 0,.int .i64 0,.slice none 0 0,.int .i64 cd]) W:=by
 refine ⟨none,0,none,0,none,0,none,0,none,0,none,0,W.heap.size,rfl,Nat.le_refl _,none,0,none,0,none,0,none,0,none,0,none,0,W.heap.size,W.heap.size,W.heap.size,W.heap.size,W.heap.size,W.heap.size,W.heap.size,W.heap.size,W.heap.size,W.heap.size,rfl,?_,?_,?_,?_,?_,hlo,Nat.le_refl _,Nat.le_refl _,Nat.le_refl _,Nat.le_refl _,Nat.le_refl _,Nat.le_refl _,Nat.le_refl _,Nat.le_refl _,Nat.le_refl _,Nat.le_refl _⟩
 ·obtain ⟨ma,mc,e,h⟩:=pc_ca (c:=⟨[],[]⟩) (lo:=W.heap.size) (mso_nil W.heap.size W) (World.ownsRow_nil _ _ _ _) (by simp) (by simp) (by simp)
  cases e
  exact h
 ·exact pc_sr (lo:=W.heap.size) (World.ownsRow_nil _ _ _ _:W.ownsRow W.heap.size 63 2 (.slice none 0 0) ([]:List Cr).length (cellsAll Cr.cells [])) (by simp [E0])
 ·exact pc_en (lo:=W.heap.size) (World.ownsRow_nil _ _ _ _:W.ownsRow W.heap.size 110 3 (.slice none 0 0) ([]:List SeenR.N).length (cellsAll SeenR.N.cells [])) (by simp [E0])
 ·exact pc_wd (lo:=W.heap.size) (wsq_nil _ _) (by simp [E0]) (by simp [E0])
 ·exact pc_dc (lo:=W.heap.size) (LedR.dso_nil _ _) (by simp [E0]) (by simp [E0])
theorem EgQ.low {x:Eng} {lo lo' hi:Nat} {v:Value} {W:World} (h:EgQ x lo hi v W) (hl:lo'≤lo):EgQ x lo' hi v W:=by
 obtain ⟨ma,mc,ca,cc,sa,sc,ea,ec,ua,uc,da,dc,l1,h1,l2,h2,l3,h3,l4,h4,l5,h5,e,p1,p2,p3,p4,p5,q0,q1,q2,q3,q4,q5,q6,q7,q8,q9,qa⟩:=h
 exact ⟨ma,mc,ca,cc,sa,sc,ea,ec,ua,uc,da,dc,l1,h1,l2,h2,l3,h3,l4,h4,l5,h5,e,p1,p2,p3,p4,p5,Nat.le_trans hl q0,q1,q2,q3,q4,q5,q6,q7,q8,q9,qa⟩
def turn (x:Eng) (k:Nat) (m:Int):Eng:={x with ss:=x.ss.set k ⟨(x.ss.getD k Cr.zero).a,m⟩}
theorem tk_ill2 {x:Eng} {v:Int} {a:ByteArray} {m:Int} (h:8000<a.size):tkD x v a m=(E0,2):=by unfold tkD;rw [if_pos h]
theorem tk_ill1 {x:Eng} {v:Int} {a:ByteArray} {m:Int} (h:a.size≤8000) (hb:engB x v=false):tkD x v a m=(E0,1):=by unfold tkD;rw [if_neg (by omega),if_neg (by rw [hb];simp)]
theorem tk_ill6 {x:Eng} {v:Int} {a:ByteArray} {m:Int} (h:a.size≤8000) (hb:engB x v=true) (hk:¬six x.ss a<x.ss.length):tkD x v a m=(E0,6):=by unfold tkD;rw [if_neg (by omega),if_pos hb,if_neg hk]
theorem tk_ill8 {x:Eng} {v:Int} {a:ByteArray} {m:Int} (h:a.size≤8000) (hb:engB x v=true) (hk:six x.ss a<x.ss.length) (hm:¬((x.ss.getD (six x.ss a) Cr.zero).m≤m∧m≤121000000)):tkD x v a m=(E0,8):=by unfold tkD;rw [if_neg (by omega),if_pos hb,if_pos hk,if_neg hm]
theorem tk_ok {x:Eng} {v:Int} {a:ByteArray} {m:Int} (h:a.size≤8000) (hb:engB x v=true) (hk:six x.ss a<x.ss.length) (hm:(x.ss.getD (six x.ss a) Cr.zero).m≤m∧m≤121000000):tkD x v a m=(turn x (six x.ss a) m,0):=by unfold tkD turn;rw [if_neg (by omega),if_pos hb,if_pos hk,if_pos hm]
theorem icopy_tk (ma:Option Addr) (mc:Nat) (ca:Option Addr) (cc:Nat) (sa:Option Addr) (sc:Nat) (ea:Option Addr) (ec:Nat) (ua:Option Addr) (uc:Nat) (da:Option Addr) (dc:Nat) (x:Eng) (k:Nat) (m:Int) (w:World) (hS:x.Small) (hO:x.Ok) (q1:Mes ma x.c.ms.length x.c.ms w) (q2:Crs ca x.c.cs.length x.c.cs w) (q3:Crs sa x.ss.length x.ss w) (q4:SeenR.Ens ea x.es w) (q5:WinR.Wns ua x.ws w) (q6:LedR.Dcs da x.ds w) :
 Calls Tryz.prog 31 #[.agg #[.slice ma x.c.ms.length mc,.slice ca x.c.cs.length cc,.slice sa x.ss.length sc,.slice ea x.es.length ec,.slice ua x.ws.length uc,.slice da x.ds.length dc,.int .i64 x.fr]] w fun e w'=>∃(xa:Option Addr) (xc:Nat) (ya:Option Addr) (yc:Nat) (za:Option Addr) (zc:Nat) (pa:Option Addr) (pc:Nat) (ra:Option Addr) (rc:Nat) (ta:Option Addr) (tc:Nat),e=.returned (.agg #[.slice xa x.c.ms.length xc,.slice ya x.c.cs.length yc,.slice za x.ss.length zc,.slice pa x.es.length pc,.slice ra x.ws.length rc,.slice ta x.ds.length tc,.int .i64 x.fr])∧(∃g,za=some ⟨g,0,none⟩∧w.heap.size≤g∧Pt g (x.ss.length*2) w')∧(∀W2,Below w'.heap.size w' W2→∀g,za=some ⟨g,0,none⟩→∃hi,hi≤(W2.setCell ⟨g,k*2+1,none⟩ (.int .i64 m)).heap.size∧EgQ (turn x k m) w.heap.size hi (.agg #[.slice xa x.c.ms.length xc,.slice ya x.c.cs.length yc,.slice za x.ss.length zc,.slice pa x.es.length pc,.slice ra x.ws.length rc,.slice ta x.ds.length tc,.int .i64 x.fr]) (W2.setCell ⟨g,k*2+1,none⟩ (.int .i64 m)))∧Below w.heap.size w w':=by
 obtain ⟨m6,c6,t5⟩:=ok_me hO
 have hs:=hO.ss
 have he:=hO.es
 have hw:=hO.ws
 have hd:=hO.ds
 refine (icopy_in ma _ mc ca _ cc sa _ sc ea _ ec ua _ uc da _ dc x.fr
  (fun lo hi v W=>Pc (RCa x.c) 38 93 (totM x.c.ms+2*x.c.cs.length) lo hi v W)
  (fun lo hi v W=>W.ownsRow lo 63 2 v x.ss.length (cellsAll Cr.cells x.ss)∧hi≤W.heap.size∧∀b,v.ownBlock=some b→b<hi)
  (fun lo hi v W=>Pc (REn x.es) 40 95 (3*x.es.length) lo hi v W)
  (fun lo hi v W=>Pc (RWd x.ws) 41 96 (totW x.ws) lo hi v W)
  (fun lo hi v W=>Pc (RDc x.ds) 42 44 (totD x.ds) lo hi v W) w
  (fun lo hi v W W' h hb=>h.below hb) (fun lo hi v W W' g h hg hl=>h.grown hg (fun _ e=>by cases e;exact .inl hl))
  (fun lo hi v W W' h hb=>⟨RowG.own_below h.1 hb,Nat.le_trans h.2.1 hb.size,h.2.2⟩) (fun lo hi v W W' g h hg hl=>⟨own_keepG h.1 hg hl,Nat.le_trans h.2.1 hg.size,h.2.2⟩)
  (fun lo hi v W W' h hb=>h.below hb) (fun lo hi v W W' g h hg hl=>h.grown hg (fun _ e=>by cases e;exact .inl hl))
  (fun lo hi v W W' h hb=>h.below hb) (fun lo hi v W W' g h hg hl=>h.grown hg (fun _ e=>by cases e;exact .inl hl))
  (fun lo hi v W W' h hb=>h.below hb) (fun lo hi v W W' g h hg hl=>h.grown hg (fun _ e=>by cases e;exact .inl hl))
  (fun W hW=>(icopy_m ma mc ca cc x.c W hO.c (q1.below hW) (q2.below hW)).mono ?_)
  (fun W hW=>(icopy_srcs sa sc x.ss W (by omega) (sm_a hS) (q3.below hW)).mono ?_)
  (fun W hW=>(icopy_ens ea ec x.es W he hS.es (q4.below hW)).mono ?_)
  (fun W hW=>(icopy_wins ua uc x.ws W (by omega) (fun y hy=>⟨(sm_w hS y hy).1,(sm_w hS y hy).2.1,(sm_w hS y hy).2.2.1,(sm_w hS y hy).2.2.2.1,(sm_w hS y hy).2.2.2.2,(hO.wl y hy).2.1⟩) (q5.below hW)).mono ?_)
  (fun W hW=>(icopy_docs da dc x.ds W (by omega) (fun d hd=>⟨(hS.ds d hd).1,(hS.ds d hd).2.1,(hS.ds d hd).2.2,(hO.dl d hd).2⟩) (q6.below hW)).mono ?_)).mono ?_
 ·rintro e w' ⟨vm,va,cp,rfl,h1,h2,hb⟩
  obtain ⟨a,c,rfl,h3⟩:=pc_ca h1 h2 (by omega) (fun m hm=>by have:=t5 m hm;omega) (by omega)
  exact ⟨a,c,va,cp,rfl,h3,hb⟩
 ·rintro e w' ⟨v,rfl,h1,hb⟩
  obtain ⟨a,c,rfl⟩:=own_formW h1
  exact ⟨a,c,rfl,⟨h1,Nat.le_refl _,fun b q=>(h1.lt b q).2⟩,hb⟩
 ·rintro e w' ⟨v,rfl,h1,hb⟩
  obtain ⟨a,c,rfl⟩:=own_formW h1
  exact ⟨a,c,rfl,pc_en h1 (by omega),hb⟩
 ·rintro e w' ⟨v,rfl,h1,hb⟩
  have h2:=pc_wd h1 (by omega) (fun y hy=>by have:=hO.wl y hy;omega)
  obtain ⟨a,c,rfl,_⟩:=h2.reads
  exact ⟨a,c,rfl,h2,hb⟩
 ·rintro e w' ⟨v,rfl,h1,hb⟩
  have h2:=pc_dc h1 (by omega) (fun d hd=>by have:=hO.dl d hd;omega)
  obtain ⟨a,c,rfl,_⟩:=h2.reads
  exact ⟨a,c,rfl,h2,hb⟩
 ·rintro e w' ⟨xa,xc,ya,yc,za,zc,pa,pc,ra,rc,ta,tc,rfl,l1,h1,l2,h2,l3,h3,l4,h4,l5,h5,a1,⟨a2,a2h,a2b⟩,a3,a4,a5,⟨o0,o1,o2,o3,o4,o5,o6,o7,o8,o9,oa⟩,hb⟩
  refine ⟨xa,xc,ya,yc,za,zc,pa,pc,ra,rc,ta,tc,rfl,?_,?_,hb⟩
  ·rcases own_k a2 with q|⟨g,e,hg,hp⟩
   ·omega
   ·exact ⟨g,e,by omega,hp⟩
  ·intro W2 hW2 g hza
   subst hza
   have hg1:=a2.lt g rfl
   have hg2:=a2b g rfl
   have b2:=own_wrT (RowG.own_below a2 hW2) (k*2+1) (.int .i64 m)
   rw [set_crA] at b2
   have hl:(x.ss.set k ⟨(x.ss.getD k Cr.zero).a,m⟩).length=x.ss.length:=List.length_set
   rw [←hl] at b2
   have hsz:(W2.setCell ⟨g,k*2+1,none⟩ (.int .i64 m)).heap.size=W2.heap.size:=by simp
   have hW2s:=hW2.size
   have d2:=pc_srH (hi:=h2) b2 (by rw [hl];omega) (fun b q=>by rw [hl] at q;exact a2b b q) (by rw [hsz];omega)
   refine ⟨h5,by rw [hsz];omega,xa,xc,ya,yc,some ⟨g,0,none⟩,zc,pa,pc,ra,rc,ta,tc,l1,h1,l2,h2,l3,h3,l4,h4,l5,h5,?_,(a1.below hW2).put _ _ _ (.inr (by omega)),d2,(a3.below hW2).put _ _ _ (.inl (by omega)),(a4.below hW2).put _ _ _ (.inl (by omega)),(a5.below hW2).put _ _ _ (.inl (by omega)),o0,o1,o2,o3,o4,o5,o6,o7,o8,o9,Nat.le_refl _⟩
   unfold ecells turn
   simp only [List.length_set]
theorem impl_tk (val:Value) (x:Eng) (v:Int) (a:ByteArray) (m:Int) (w:World) (hS:x.Small) (hE:IsEng val x w) (hwf:∀d∈x.ds,(Lit.int .i64 d.mo).wf=true) (hL:∀W,Below w.heap.size w W→CatR.Laid W) (hL2:∀W,Below w.heap.size w W→DateR.Laid W)
 (hv:0≤x.fr→x.fr≤2760→∀W,Below w.heap.size w W→Calls Tryz.prog 125 #[.int .i64 x.fr] W fun e w'=>e=.returned (.int .i64 v)∧Below W.heap.size W w') :
 Calls Tryz.prog 7 #[val,.string a,.int .i64 m] w fun e w'=>∃v',e=.returned v'∧EoQ (tkD x v a m) w.heap.size v' w'∧Below w.heap.size w w':=by
 have hE':=hE
 obtain ⟨ma,mc,ca,cc,sa,sc,ea,ec,ua,uc,da,dc,rfl,q1,q2,q3,q4,q5,q6⟩:=hE'
 refine itick_in ma _ mc ca _ cc sa _ sc ea _ ec ua _ uc da _ dc x.fr a m (engB x v) (sixI x.ss a) (six x.ss a) (x.ss.getD (six x.ss a) Cr.zero).m (fun lo v' W=>∃hi,hi≤W.heap.size∧EgQ (turn x (six x.ss a) m) lo hi v' W) _ w ?_ ?_ ?_ ?_ ?_ ?_ ?_ ?_ ?_ ?_
 ·intro h
  unfold sixI at h ⊢
  by_cases hk:six x.ss a<x.ss.length
  ·rw [if_pos hk]
   obtain ⟨b,off,e,hb,h1⟩:=crs_at q3 _ hk
   exact ⟨rfl,hk,b,off,e,hb,h1.2⟩
  ·rw [if_neg hk] at h
   exact absurd (by decide) h
 ·exact fun W hW=>impl_eng _ x v W hS (hE.below hW) hwf (fun W2 h2=>hL W2 (hW.trans (h2.mono hW.size))) (fun W2 h2=>hL2 W2 (hW.trans (h2.mono hW.size))) (fun a b W2 h2=>hv a b W2 (hW.trans (h2.mono hW.size)))
 ·exact fun W B hW hB hc=>idxS sa sc x.ss a B W (q3.below hW) hS.sl hB hc
 ·exact fun hb W hW=>icopy_tk ma mc ca cc sa sc ea ec ua uc da dc x (six x.ss a) m W hS (eng_ok hb) (q1.below hW) (q2.below hW) (q3.below hW) (q4.below hW) (q5.below hW) (q6.below hW)
 ·rintro lo v' W W' g ⟨hi,h1,h2⟩ hg hl
  exact ⟨hi,Nat.le_trans h1 hg.size,h2.keep hg.size (fun b r1 r2=>hg.block b (by omega) (by simp;omega))⟩
 ·intro h w' hb
  rw [tk_ill2 h]
  exact ⟨_,rfl,eoq_ill 2 hb.size,hb⟩
 ·intro h h1 w' hb
  rw [tk_ill1 h h1]
  exact ⟨_,rfl,eoq_ill 1 hb.size,hb⟩
 ·intro h h1 h2 w' hb
  have hk:¬six x.ss a<x.ss.length:=fun q=>by unfold sixI at h2;rw [if_pos q] at h2;omega
  rw [tk_ill6 h h1 hk]
  exact ⟨_,rfl,eoq_ill 6 hb.size,hb⟩
 ·intro h h1 h2 h3 w' hb
  have hk:six x.ss a<x.ss.length:=Classical.byContradiction (fun q=>by unfold sixI at h2;rw [if_neg q] at h2;exact h2 (by decide))
  rw [tk_ill8 h h1 hk h3]
  exact ⟨_,rfl,eoq_ill 8 hb.size,hb⟩
 ·intro h h1 h2 h3 xa xc ya yc za zc pa pc ra rc ta tc lo w' hlo hR hb
  have hk:six x.ss a<x.ss.length:=Classical.byContradiction (fun q=>by unfold sixI at h2;rw [if_neg q] at h2;exact h2 (by decide))
  rw [tk_ok h h1 hk h3]
  obtain ⟨hi,r1,r2⟩:=hR
  refine ⟨_,rfl,⟨xa,xc,ya,yc,za,zc,pa,pc,ra,rc,ta,tc,hi,?_,r1,?_⟩,hb⟩
  ·unfold eoV turn
   simp only [List.length_set]
  ·have e:(Value.agg (ecells (turn x (six x.ss a) m) xa xc ya yc za zc pa pc ra rc ta tc))=.agg #[.slice xa x.c.ms.length xc,.slice ya x.c.cs.length yc,.slice za x.ss.length zc,.slice pa x.es.length pc,.slice ra x.ws.length rc,.slice ta x.ds.length tc,.int .i64 x.fr]:=by
    unfold ecells turn
    simp only [List.length_set]
   rw [e]
   exact r2.low hlo
end EngR
namespace EngR
open OwG CatR ChG DocR
open RowG (cellsAll grown_set MadeG Rws)
open EvtR (Pt)
theorem MsO.vb {base b:Nat} {v:Value} {ms:List Me} {W W':World} (h:MsO base v ms W) (hv:∃z,W.heap[b]? = some (.cells z 42)) (hg:W.grownBy W' (some b)):MsO base v ms W':=by
 obtain ⟨lim,xs,h1,h2,h3,h4,h5⟩:=h
 exact ⟨lim,xs,h1,own_vb h2 hv (by decide) hg,fun x hx=>own_vb (h3 x hx) hv (by decide) hg,h4,h5⟩
theorem DsO.vb {base b:Nat} {v:Value} {ds:List D} {W W':World} (h:LedR.DsO base v ds W) (hv:∃z,W.heap[b]? = some (.cells z 42)) (hg:W.grownBy W' (some b)):LedR.DsO base v ds W':=by
 obtain ⟨xs,h1,h2,h3,h4⟩:=h
 exact ⟨xs,h1,own_vb h2 hv (by decide) hg,fun x hx=>own_vb (h3 x hx) hv (by decide) hg,h4⟩
theorem DsO.oth {base base' n:Nat} {v v':Value} {ds:List D} {xs':List Value} {W W':World} (h:LedR.DsO base v ds W) (ho:W.ownsRow base' 106 8 v' n xs') (hg:W.grownBy W' v'.ownBlock):LedR.DsO base v ds W':=by
 obtain ⟨xs,h1,h2,h3,h4⟩:=h
 exact ⟨xs,h1,own_keepO h2 hg (own_apart h2 ho (by decide)),fun x hx=>own_keepO (h3 x hx) hg (own_apart (h3 x hx) ho (by decide)),h4⟩
def EgT (x:Eng) (lo:Nat) (v:Value) (W:World):Prop:=∃ma mc ca cc sa sc ea ec ua uc da dc,v=.agg (ecells x ma mc ca cc sa sc ea ec ua uc da dc)∧MsO lo (.slice ma x.c.ms.length mc) x.c.ms W∧W.ownsRow lo 151 2 (.slice ca x.c.cs.length cc) x.c.cs.length (cellsAll Cr.cells x.c.cs)∧W.ownsRow lo 63 2 (.slice sa x.ss.length sc) x.ss.length (cellsAll Cr.cells x.ss)∧W.ownsRow lo 110 3 (.slice ea x.es.length ec) x.es.length (cellsAll SeenR.N.cells x.es)∧WsT lo (.slice ua x.ws.length uc) x.ws W∧LedR.DsO lo (.slice da x.ds.length dc) x.ds W
theorem EgT.far {x:Eng} {lo g:Nat} {v:Value} {W W':World} (h:EgT x lo v W) (hg:W.grownBy W' (some g)) (hl:g<lo):EgT x lo v W':=by
 obtain ⟨ma,mc,ca,cc,sa,sc,ea,ec,ua,uc,da,dc,e,h1,h2,h3,h4,h5,h6⟩:=h
 exact ⟨ma,mc,ca,cc,sa,sc,ea,ec,ua,uc,da,dc,e,h1.far hg hl,own_keepG h2 hg hl,own_keepG h3 hg hl,own_keepG h4 hg hl,h5.far hg hl,h6.far hg hl⟩
theorem EgT.eng {x:Eng} {lo:Nat} {v:Value} {W:World} (h:EgT x lo v W):IsEng v x W:=by
 obtain ⟨ma,mc,ca,cc,sa,sc,ea,ec,ua,uc,da,dc,e,h1,h2,h3,h4,h5,h6⟩:=h
 obtain ⟨a1,c1,e1,r1⟩:=h1.mes
 cases e1
 obtain ⟨a4,c4,e4,m4⟩:=RowG.own_made (z:=SeenR.N.zero) SeenR.N.len h4
 cases e4
 obtain ⟨a5,c5,e5,r5⟩:=h5.reads
 cases e5
 obtain ⟨a6,c6,e6,r6⟩:=h6.dcs
 cases e6
 exact ⟨ma,mc,ca,cc,sa,sc,ea,ec,ua,uc,da,dc,e,r1,own_crsT h2 rfl,own_crsT h3 rfl,m4.rws,r5,r6⟩
theorem scopy_tk (ma:Option Addr) (mc:Nat) (ca:Option Addr) (cc:Nat) (sa:Option Addr) (sc:Nat) (ea:Option Addr) (ec:Nat) (ua:Option Addr) (uc:Nat) (da:Option Addr) (dc:Nat) (x:Eng) (m:Int) (w:World) (hS:x.Small) (hO:x.Ok) (q1:Mes ma x.c.ms.length x.c.ms w) (q2:Crs ca x.c.cs.length x.c.cs w) (q3:Crs sa x.ss.length x.ss w) (q4:SeenR.Ens ea x.es w) (q5:WinR.Wns ua x.ws w) (q6:LedR.Dcs da x.ds w) :
 Calls Tryz.prog 20 #[.agg #[.slice ma x.c.ms.length mc,.slice ca x.c.cs.length cc,.slice sa x.ss.length sc,.slice ea x.es.length ec,.slice ua x.ws.length uc,.slice da x.ds.length dc,.int .i64 x.fr]] w fun e w'=>∃(xa:Option Addr) (xc:Nat) (ya:Option Addr) (yc:Nat) (za:Option Addr) (zc:Nat) (pa:Option Addr) (pc:Nat) (ra:Option Addr) (rc:Nat) (ta:Option Addr) (tc:Nat),e=.returned (.agg #[.slice xa x.c.ms.length xc,.slice ya x.c.cs.length yc,.slice za x.ss.length zc,.slice pa x.es.length pc,.slice ra x.ws.length rc,.slice ta x.ds.length tc,.int .i64 x.fr])∧(x.ss.length=0∨∃g,za=some ⟨g,0,none⟩∧w.heap.size≤g∧Pt g (x.ss.length*2) w')∧Crs za x.ss.length x.ss w'∧(∀W2,Below w'.heap.size w' W2→∀k g,k<x.ss.length→za=some ⟨g,0,none⟩→EgT (turn x k m) w.heap.size (.agg #[.slice xa x.c.ms.length xc,.slice ya x.c.cs.length yc,.slice za x.ss.length zc,.slice pa x.es.length pc,.slice ra x.ws.length rc,.slice ta x.ds.length tc,.int .i64 x.fr]) (W2.setCell ⟨g,k*2+1,none⟩ (.int .i64 m)))∧Below w.heap.size w w':=by
 obtain ⟨m6,c6,t5⟩:=ok_me hO
 have hs:=hO.ss
 have he:=hO.es
 have hw:=hO.ws
 have hd:=hO.ds
 refine (scopy_in ma _ mc ca _ cc sa _ sc ea _ ec ua _ uc da _ dc x.fr x.ws
  (fun v W=>∃a c a' c',v=.agg #[.slice a x.c.ms.length c,.slice a' x.c.cs.length c']∧MsO (w.heap.size+2) (.slice a x.c.ms.length c) x.c.ms W∧W.ownsRow (w.heap.size+2) 151 2 (.slice a' x.c.cs.length c') x.c.cs.length (cellsAll Cr.cells x.c.cs))
  (fun v W=>W.ownsRow (w.heap.size+2) 63 2 v x.ss.length (cellsAll Cr.cells x.ss))
  (fun v W=>W.ownsRow (w.heap.size+2) 110 3 v x.es.length (cellsAll SeenR.N.cells x.es))
  (fun v W=>LedR.DsO (w.heap.size+2) v x.ds W) (cellsAll Cr.cells x.ss) (cellsAll SeenR.N.cells x.es) w rfl (by omega) ⟨by omega,by omega⟩ q5 (fun y hy=>⟨(sm_w hS y hy).2.2.1,(sm_w hS y hy).2.2.2.2⟩)
  ?_ ?_ ?_ ?_
  (fun v W W' h hb=>RowG.own_below h hb) (fun v b W W' h hv hg=>own_vb h hv (by decide) hg) (fun v v' n ys W W' h ho hg=>own_keepO h hg (own_apart h ho (by decide))) (fun v b W W' h hg hb=>own_keepG h hg hb)
  (fun v W W' h hb=>RowG.own_below h hb) (fun v b W W' h hv hg=>own_vb h hv (by decide) hg) (fun v v' n ys W W' h ho hg=>own_keepO h hg (own_apart h ho (by decide))) (fun v b W W' h hg hb=>own_keepG h hg hb)
  (fun v W W' h hb=>h.below hb) (fun v b W W' h hv hg=>DsO.vb h hv hg) (fun v v' n ys W W' h ho hg=>DsO.oth h ho hg) (fun v b W W' h hg hb=>h.far hg hb)
  (fun W hW hsz=>(scopy_g ma ca mc cc x.c W hO.c (q1.below hW) (q2.below hW)).mono ?_)
  (fun W hW hsz=>(LedR.scopy da dc x.ds W (by omega) (fun d hd=>(hS.ds d hd).2.1) (q6.below hW)).mono ?_)
  ⟨RowG.cellsAll_len Cr.len x.ss,crs_src q3,crs_one x.ss⟩ ⟨RowG.cellsAll_len SeenR.N.len x.es,rws_src SeenR.N.len q4,?_⟩ (fun a c W h=>h) (fun a c W h=>h)).mono ?_
 ·rintro v W W' ⟨a,c,a',c',e,h1,h2⟩ hb
  exact ⟨a,c,a',c',e,h1.below hb,RowG.own_below h2 hb⟩
 ·rintro v b W W' ⟨a,c,a',c',e,h1,h2⟩ hv hg
  exact ⟨a,c,a',c',e,MsO.vb h1 hv hg,own_vb h2 hv (by decide) hg⟩
 ·rintro v v' n ys W W' ⟨a,c,a',c',e,h1,h2⟩ ho hg
  exact ⟨a,c,a',c',e,h1.other ho hg (by decide) (by decide),own_keepO h2 hg (own_apart h2 ho (by decide))⟩
 ·rintro v b W W' ⟨a,c,a',c',e,h1,h2⟩ hg hb
  exact ⟨a,c,a',c',e,h1.far hg hb,own_keepG h2 hg hb⟩
 ·rintro e w' ⟨vm,va,cp,rfl,h1,h2,hb⟩
  obtain ⟨a,c,rfl,_⟩:=h1.mes
  exact ⟨a,c,va,cp,rfl,⟨a,c,va,cp,rfl,h1.low hsz,OwG.own_low h2 hsz⟩,hb⟩
 ·rintro e w' ⟨v,rfl,h1,hb⟩
  obtain ⟨a,c,rfl,_⟩:=h1.dcs
  exact ⟨a,c,rfl,h1.low hsz,hb⟩
 ·intro u hu
  obtain ⟨y,_,hy⟩:=List.mem_flatMap.1 hu
  simp only [SeenR.N.cells,List.mem_cons,List.not_mem_nil,or_false] at hy
  rcases hy with rfl|rfl|rfl<;>rfl
 ·rintro e w' ⟨xa,xc,ya,yc,za,zc,pa,pc,ta,tc,ra,rc,rfl,⟨a,c,a',c',e1,h1,h2⟩,h3,h4,h5,h6,hb⟩
  cases e1
  refine ⟨xa,xc,ya,yc,za,zc,pa,pc,ra,rc,ta,tc,rfl,?_,own_crsT h3 rfl,?_,hb⟩
  ·rcases own_k h3 with q|⟨g,e,hg,hp⟩
   ·exact .inl q
   ·exact .inr ⟨g,e,by omega,hp⟩
  ·intro W2 hW2 k g hk hza
   subst hza
   have hgr:=grown_set W2 g (k*2+1) (.int .i64 m)
   have b3:=RowG.own_below h3 hW2
   have b4:=own_wrT b3 (k*2+1) (.int .i64 m)
   rw [set_crA] at b4
   have hl:(x.ss.set k ⟨(x.ss.getD k Cr.zero).a,m⟩).length=x.ss.length:=List.length_set
   rw [←hl] at b4
   have ap:∀{base e' size n:Nat} {u:Value} {ys:List Value},W2.ownsRow base e' size u n ys→63≠e'→(W2.setCell ⟨g,k*2+1,none⟩ (.int .i64 m)).ownsRow base e' size u n ys:=fun h hn=>own_keepO h hgr (own_apart h b3 hn)
   have c1:=h1.below hW2
   have c5:=h5.below hW2
   have c6:=h6.below hW2
   refine ⟨xa,xc,ya,yc,some ⟨g,0,none⟩,zc,pa,pc,ra,rc,ta,tc,?_,?_,?_,?_,?_,?_,?_⟩
   ·unfold ecells turn
    simp only [List.length_set]
   ·obtain ⟨lim,xs,y1,y2,y3,y4,y5⟩:=c1
    exact MsO.low ⟨lim,xs,y1,ap y2 (by decide),fun z hz=>ap (y3 z hz) (by decide),y4,y5⟩ (by omega)
   ·exact OwG.own_low (ap (RowG.own_below h2 hW2) (by decide)) (by omega)
   ·exact OwG.own_low b4 (by omega)
   ·exact OwG.own_low (ap (RowG.own_below h4 hW2) (by decide)) (by omega)
   ·obtain ⟨xs,y1,y2,y3⟩:=c5
    exact ⟨xs,y1,OwG.own_low (ap y2 (by decide)) (by omega),fun z hz=>⟨OwG.own_low (ap (y3 z hz).1 (by decide)) (by omega),OwG.own_low (ap (y3 z hz).2 (by decide)) (by omega)⟩⟩
   ·obtain ⟨xs,y1,y2,y3,y4⟩:=c6
    exact LedR.DsO.low ⟨xs,y1,ap y2 (by decide),fun z hz=>ap (y3 z hz) (by decide),y4⟩ (by omega)
theorem spec_tk (val:Value) (x:Eng) (v:Int) (a:ByteArray) (m:Int) (w:World) (hS:x.Small) (hE:IsEng val x w)
 (hv:0≤x.fr→x.fr≤2760→∀W,Below w.heap.size w W→Calls Tryz.prog 59 #[.int .i64 x.fr] W fun e w'=>e=.returned (.int .i64 v)∧Below W.heap.size W w') :
 Calls Tryz.prog 5 #[val,.string a,.int .i64 m] w fun e w'=>∃v',e=.returned v'∧EoR (tkD x v a m) v' w'∧Below w.heap.size w w':=by
 have hE':=hE
 obtain ⟨ma,mc,ca,cc,sa,sc,ea,ec,ua,uc,da,dc,rfl,q1,q2,q3,q4,q5,q6⟩:=hE'
 refine stick_in ma _ mc ca _ cc sa _ sc ea _ ec ua _ uc da _ dc x.fr a m (engB x v) x.ss (fun k lo v' W=>EgT (turn x k m) lo v' W) _ w hS.sl ?_ ?_ ?_ ?_ ?_ ?_ ?_ ?_
 ·exact fun W hW=>spec_eng _ x v W hS (hE.below hW) (fun a b W2 h2=>hv a b W2 (hW.trans (h2.mono hW.size)))
 ·exact fun hb W hW=>scopy_tk ma mc ca cc sa sc ea ec ua uc da dc x m W hS (eng_ok hb) (q1.below hW) (q2.below hW) (q3.below hW) (q4.below hW) (q5.below hW) (q6.below hW)
 ·exact fun k lo v' W W' g h hg hl=>h.far hg hl
 ·intro h w' hb
  rw [tk_ill2 h]
  exact ⟨_,rfl,(eoq_ill 2 hb.size).reads,hb⟩
 ·intro h h1 w' hb
  rw [tk_ill1 h h1]
  exact ⟨_,rfl,(eoq_ill 1 hb.size).reads,hb⟩
 ·intro h h1 h2 w' hb
  have hk:¬six x.ss a<x.ss.length:=by rw [six_no h2];omega
  rw [tk_ill6 h h1 hk]
  exact ⟨_,rfl,(eoq_ill 6 hb.size).reads,hb⟩
 ·intro h h1 k hk hn he h3 w' hb
  have h6:=six_at hk hn he
  have hm:=(eng_ok h1).sm k hk
  rw [tk_ill8 h h1 (by rw [h6];exact hk) (by rw [h6];omega)]
  exact ⟨_,rfl,(eoq_ill 8 hb.size).reads,hb⟩
 ·intro h h1 k hk hn he h3 h4 xa xc ya yc za zc pa pc ra rc ta tc lo w' hR hb
  have h6:=six_at hk hn he
  rw [tk_ok h h1 (by rw [h6];exact hk) (by rw [h6];omega),h6]
  refine ⟨_,rfl,⟨xa,xc,ya,yc,za,zc,pa,pc,ra,rc,ta,tc,?_,?_⟩,hb⟩
  ·unfold eoV turn
   simp only [List.length_set]
  ·have e:(Value.agg (ecells (turn x k m) xa xc ya yc za zc pa pc ra rc ta tc))=.agg #[.slice xa x.c.ms.length xc,.slice ya x.c.cs.length yc,.slice za x.ss.length zc,.slice pa x.es.length pc,.slice ra x.ws.length rc,.slice ta x.ds.length tc,.int .i64 x.fr]:=by
    unfold ecells turn
    simp only [List.length_set]
   rw [e]
   exact hR.eng
end EngR
end Go.Proofs.YtnceeaccbcfopaaGreatDoor
