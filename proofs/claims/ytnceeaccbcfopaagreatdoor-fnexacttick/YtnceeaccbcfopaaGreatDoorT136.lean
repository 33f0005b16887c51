/-
  impl.EngineRight from its parts: what has been seen, the windows, all together. The conditions: those of the parts.
-/
import Derived.BigQuiet
import Derived.Deep.QuietTactic
import Derived.Test.YtnceeaccbcfopaaGreatDoorT135
namespace Go.Proofs.YtnceeaccbcfopaaGreatDoor
open Go.ChangeShapes Go.WideShapes Go.ChangeAt Go.RowKit
set_option linter.unusedVariables false
namespace EngR
open CatR
open WinR (Wd Wns wcells wB wlt Tgs Hrs)
open SeenR (sB)
def wok (ws:List Wd) (ms:List Me) (fr:Int) (k:Nat):Bool:=wB (ws.getD k Wd.zero)&&sellB ms (ws.getD k Wd.zero).m && !decide ((ws.getD k Wd.zero).mo<fr)&&(k==0||wlt (ws.getD (k-1) Wd.zero) (ws.getD k Wd.zero))
def winB (ws:List Wd) (ms:List Me) (fr:Int):Bool:=decide (ws.length≤16)&&(List.range ws.length).all (wok ws ms fr)
theorem winB_no {ws:List Wd} {ms:List Me} {fr:Int} {k:Nat} (hk:k<ws.length) (h:wok ws ms fr k=false):winB ws ms fr=false:=by
 unfold winB
 rw [List.all_eq_false.2 ⟨k,List.mem_range.2 hk,by simp [h]⟩,Bool.and_false]
theorem winB_long {ws:List Wd} {ms:List Me} {fr:Int} (h:16<ws.length):winB ws ms fr=false:=by unfold winB;rw [decide_eq_false (by omega),Bool.false_and]
theorem winB_yes {ws:List Wd} {ms:List Me} {fr:Int} (h:ws.length≤16) (h2:∀i,i<ws.length→wok ws ms fr i=true):winB ws ms fr=true:=by
 unfold winB
 rw [decide_eq_true h,Bool.true_and,List.all_eq_true]
 exact fun i hi=>h2 i (List.mem_range.1 hi)
theorem okMore {f:Nat→Bool} {k:Nat} (h:∀i,i<k→f i=true) (h1:f k=true):∀i,i<k+1→f i=true:=by
 intro i hi
 by_cases e:i=k
 ·subst e;exact h1
 ·exact h i (by omega)
set_option maxHeartbeats 4000000 in
theorem eseen_in (ma:Option Addr) (ml mc:Nat) (ca:Option Addr) (cl cc:Nat) (sa:Option Addr) (sl sc:Nat) (ea:Option Addr) (el ec:Nat) (ua:Option Addr) (ul uc:Nat) (da:Option Addr) (dl dc:Nat) (fr v:Int) (b1 b2:Bool) (w:World)
 (hm:∀W,Below w.heap.size w W→Calls Tryz.prog 125 #[.int .i64 fr] W fun e w'=>e=.returned (.int .i64 v)∧Below W.heap.size W w')
 (hs:∀W,Below w.heap.size w W→Calls Tryz.prog 127 #[.slice ea el ec] W fun e w'=>e=.returned (.bool b1)∧Below W.heap.size W w')
 (hc:∀W B,Below w.heap.size w W→B<W.heap.size→W.cell? ⟨B,0,none⟩=some (.int .i64 v)→Calls Tryz.prog 128 #[.slice ea el ec,.func (.func 126) #[] #[.pointer (some ⟨B,0,none⟩)]] W fun e w'=>e=.returned (.bool b2)∧Below W.heap.size W w') :
 Calls Tryz.prog 74 #[.agg #[.slice ma ml mc,.slice ca cl cc,.slice sa sl sc,.slice ea el ec,.slice ua ul uc,.slice da dl dc,.int .i64 fr]] w fun e w'=>e=.returned (.bool (b1 && !b2))∧Below w.heap.size w w':=by
 have HM:=H_ hm
 have HS:=H_ hs
 have HC:=H_ hc
 obtain ⟨W0,hW0⟩:∃z,z=w.alloc (.cells #[.slice ma ml mc,.slice ca cl cc,.slice sa sl sc,.slice ea el ec,.slice ua ul uc,.slice da dl dc,.int .i64 fr] 42):=⟨_,rfl⟩
 have hal:Below w.heap.size w W0:=by rw [hW0];exact (Below.refl _ _).alloc (Nat.le_refl _) _
 have hA:Blk w.heap.size [.slice ma ml mc,.slice ca cl cc,.slice sa sl sc,.slice ea el ec,.slice ua ul uc,.slice da dl dc,.int .i64 fr] W0:=by rw [hW0];exact Blk.new w _ _
 have HB0:=H_ hal
 have HA0:=H_ hA
 have HW:=H_ hW0
 clear hm hs hc hal hA hW0
 go_enter Tryz.func74,Tryz.ntmps74
 go_wp2_with fail
 rw [←HW.out]
 refine (HM.out _ HB0.out).mono ?_
 rintro e w1 ⟨rfl,hb⟩
 have HB1:=H_ (HB0.out.trans (hb.mono HB0.out.size))
 have hA1:=HA0.out.below hb
 clear hb HW HB0 HA0 HM
 obtain ⟨hl1,ak⟩:=hA1
 have p3:w1.cell? ⟨w.heap.size,3,none⟩=some (.slice ea el ec):=ak 3 (by simp)
 obtain ⟨W2,hW2⟩:∃z,z=w1.alloc (.cells #[.int .i64 v] 2):=⟨_,rfl⟩
 have hal2:Below w1.heap.size w1 W2:=by rw [hW2];exact (Below.refl _ _).alloc (Nat.le_refl _) _
 have q3:W2.cell? ⟨w.heap.size,3,none⟩=some (.slice ea el ec):=(hal2.cell (p:=⟨w.heap.size,3,none⟩) hl1).trans p3
 have qv:W2.cell? ⟨w1.heap.size,0,none⟩=some (.int .i64 v):=by rw [hW2];simp [go_sem]
 have ql:w1.heap.size<W2.heap.size:=by rw [hW2];simp
 have HB2:=H_ (HB1.out.trans (hal2.mono HB1.out.size))
 have HW:=H_ hW2
 have HQV:=H_ qv
 have hl2:w.heap.size<W2.heap.size:=by omega
 clear hal2 hW2 ak qv
 go_wp2_with fail
 rw [←HW.out]
 clear HW HB1 p3
 generalize w1.heap.size=B at *
 refine (HS.out _ HB2.out).mono ?_
 rintro e w3 ⟨rfl,hb⟩
 have HB3:=H_ (HB2.out.trans (hb.mono HB2.out.size))
 have r3:w3.cell? ⟨w.heap.size,3,none⟩=some (.slice ea el ec):=(hb.cell (p:=⟨w.heap.size,3,none⟩) hl2).trans q3
 have HRV:=H_ ((hb.cell (p:=⟨B,0,none⟩) ql).trans HQV.out)
 have rl:B<w3.heap.size:=by have:=hb.size;omega
 have rl2:w.heap.size<w3.heap.size:=by have:=hb.size;omega
 clear hb q3 HQV HB2 HS ql hl2 hl1
 cases b1
 ·go_wp2_with fail
  go_ret
  exact ⟨rfl,HB3.out⟩
 ·go_wp2_with fail
  refine (HC.out _ _ HB3.out rl HRV.out).mono ?_
  rintro e w4 ⟨rfl,hb⟩
  have HB4:=H_ (HB3.out.trans (hb.mono HB3.out.size))
  clear hb
  go_wp2_with fail
  go_ret
  exact ⟨rfl,HB4.out⟩
set_option maxRecDepth 100000 in
set_option maxHeartbeats 4000000 in
theorem ewin_in (ma:Option Addr) (ml mc:Nat) (ca:Option Addr) (cl cc:Nat) (sa:Option Addr) (sl sc:Nat) (ea:Option Addr) (el ec:Nat) (ua:Option Addr) (uc:Nat) (da:Option Addr) (dl dc:Nat) (fr:Int) (ws:List Wd) (ms:List Me) (w:World)
 (hI:Wns ua ws w) (hlen:ws.length≤1048576)
 (hw:∀k,k<ws.length→∀ta tc ha hc W,Below w.heap.size w W→Tgs ta (ws.getD k Wd.zero).ts W→Hrs ha (ws.getD k Wd.zero).hs W→Calls Tryz.prog 129 #[.agg (wcells (ws.getD k Wd.zero) ta tc ha hc)] W fun e w'=>e=.returned (.bool (wB (ws.getD k Wd.zero)))∧Below W.heap.size W w')
 (hs:∀t W,Below w.heap.size w W→Calls Tryz.prog 130 #[.agg #[.slice ma ml mc,.slice ca cl cc],.string t] W fun e w'=>e=.returned (.bool (sellB ms t))∧Below W.heap.size W w') :
 Calls Tryz.prog 75 #[.agg #[.slice ma ml mc,.slice ca cl cc,.slice sa sl sc,.slice ea el ec,.slice ua ws.length uc,.slice da dl dc,.int .i64 fr]] w fun e w'=>e=.returned (.bool (winB ws ms fr))∧Below w.heap.size w w':=by
 have HI:=H_ hI
 have HWR:=H_ hw
 have HSE:=H_ hs
 have HF:Hid (∀k,k<ws.length→wok ws ms fr k=false→winB ws ms fr=false):=H_ (fun k hk h=>winB_no hk h)
 have HG:Hid (16<ws.length→winB ws ms fr=false):=H_ (fun h=>winB_long h)
 have HY:Hid (ws.length≤16→(∀i,i<ws.length→wok ws ms fr i=true)→winB ws ms fr=true):=H_ (fun h h2=>winB_yes h h2)
 generalize winB ws ms fr=R at *
 obtain ⟨len,hl⟩:∃len,len=ws.length:=⟨_,rfl⟩
 have HL:=H_ hl
 rw [←hl] at hlen HF HG HY ⊢
 clear hI hw hs hl
 obtain ⟨W0,hW0⟩:∃z,z=w.alloc (.cells #[.slice ma ml mc,.slice ca cl cc,.slice sa sl sc,.slice ea el ec,.slice ua len uc,.slice da dl dc,.int .i64 fr] 42):=⟨_,rfl⟩
 have hal:Below w.heap.size w W0:=by rw [hW0];exact (Below.refl _ _).alloc (Nat.le_refl _) _
 have hA:Blk w.heap.size [.slice ma ml mc,.slice ca cl cc,.slice sa sl sc,.slice ea el ec,.slice ua len uc,.slice da dl dc,.int .i64 fr] W0:=by rw [hW0];exact Blk.new w _ _
 have HB0:=H_ hal
 have HA0:=H_ hA
 have HW:=H_ hW0
 clear hal hA hW0
 by_cases h16:16<len
 ·have h2:(16:Int)<(len:Int):=by omega
  have HR:=H_ (HG.out h16)
  rw [HW.out] at HB0
  go_enter Tryz.func75,Tryz.ntmps75
  go_wp2_with fail
  go_ret
  exact ⟨ret_bool HR.out.symm,HB0.out⟩
 have h2:¬(16:Int)<(len:Int):=by omega
 go_enter Tryz.func75,Tryz.ntmps75
 go_wp2_with fail
 rw [←HW.out]
 clear HW
 go_loopw [12] (fun z wr=>∃k:Nat,k≤len∧z=.int .i64 k∧Hid (∀i,i<k→wok ws ms fr i=true)∧Hid (Blk w.heap.size [.slice ma ml mc,.slice ca cl cc,.slice sa sl sc,.slice ea el ec,.slice ua len uc,.slice da dl dc,.int .i64 fr] wr)∧Hid (Below w.heap.size w wr)) (fun z _=>len-(intOf z).toNat)
 case atStart=>exact ⟨0,by omega,rfl,H_ (fun i hi=>absurd hi (by omega)),HA0,HB0⟩
 case round =>
  clear HA0 HB0
  obtain ⟨k,hk,rfl,HK,HA,HB⟩:=hrel
  by_cases hlt:k<len
  ·have hlt2:(k:Int)<(len:Int):=by omega
   obtain ⟨b,off,ta,tc,ha,hc,rfl,hbl,c0,c1,c2,c3,c4,c5,c6,c7,hT,hH⟩:=(HI.out.below HB.out).at k (by have:=HL.out;omega)
   have hlk:k<ws.length:=by have:=HL.out;omega
   have HWK:=H_ (HWR.out k hlk ta tc ha hc)
   have HFK:=H_ (HF.out k hlt)
   have HMK:Hid (wok ws ms fr k=true→∀i,i<k+1→wok ws ms fr i=true):=H_ (fun h=>okMore HK.out h)
   have HOK:Hid (wok ws ms fr k=(wB (ws.getD k Wd.zero)&&sellB ms (ws.getD k Wd.zero).m && !decide ((ws.getD k Wd.zero).mo<fr)&&(k==0||wlt (ws.getD (k-1) Wd.zero) (ws.getD k Wd.zero)))):=H_ rfl
   obtain ⟨X,hX⟩:∃z,z=ws.getD k Wd.zero:=⟨_,rfl⟩
   rw [←hX] at c0 c1 c2 c3 c4 c5 c6 c7 hT hH HWK HOK
   have HWL:Hid (∀(Y:Wd) (ta' ha':Option Addr) (tc' hc':Nat),∃n:Int,((n<0)=(wlt Y X=true))∧∀W:World,Calls Tryz.prog 131 #[.agg (wcells Y ta' tc' ha' hc'),.agg (wcells X ta tc ha hc)] W fun e w'=>e=.returned (.int .i64 n)∧Below W.heap.size W w'):=H_ (fun Y ta' ha' tc' hc'=>⟨_,WinR.order_lt Y X,fun W=>WinR.iorder_in Y.a Y.m Y.mo Y.ev Y.su Y.mx ta' _ tc' ha' _ hc' X.a X.m X.mo X.ev X.su X.mx ta _ tc ha _ hc W⟩)
   generalize hqw:wB X=bw at *
   clear hqw
   generalize hqw:(fun Y=>wlt Y X)=WL at *
   have hWL:∀Y,wlt Y X=WL Y:=fun Y=>congrFun hqw Y
   simp only [hWL] at HWL HOK
   clear hqw hWL hX
   obtain ⟨xa,xm,xo,xe,xs,xx,xt,xh⟩:=X
   dsimp only [wcells] at c0 c1 c2 c3 c4 c5 c6 c7 hT hH HWK HOK HWL
   obtain ⟨W1,hW1⟩:∃z,z=wr.alloc (.cells #[.string xa,.string xm,.int .i64 xo,.int .i64 xe,.int .i64 xs,.int .i64 xx,.slice ta xt.length tc,.slice ha xh.length hc] 106):=⟨_,rfl⟩
   have hal:Below wr.heap.size wr W1:=by rw [hW1];exact (Below.refl _ _).alloc (Nat.le_refl _) _
   have HX1:Hid (Blk wr.heap.size [.string xa,.string xm,.int .i64 xo,.int .i64 xe,.int .i64 xs,.int .i64 xx,.slice ta xt.length tc,.slice ha xh.length hc] W1):=H_ (by rw [hW1];exact Blk.new wr _ _)
   have HB1:=H_ (HB.out.trans (hal.mono HB.out.size))
   have HA1:=H_ (HA.out.below hal)
   have HW1:=H_ hW1
   have HWK1:=H_ (HWK.out W1 HB1.out (hT.below hal) (hH.below hal))
   clear hT hH hal hW1 HWK HWR HA
   generalize xt.length=tl at *
   generalize xh.length=hl at *
   go_wp2_with fail
   rw [←HW1.out]
   clear HW1 c0 c1 c2 c3 c4 c5 c6 c7
   generalize wr.heap.size=B at *
   refine HWK1.out.mono ?_
   rintro e w2 ⟨rfl,hb⟩
   have HB2:=H_ (HB1.out.trans (hb.mono HB1.out.size))
   have hA2:=HA1.out.below hb
   have hX2:=HX1.out.below hb
   clear hb HB1 HA1 HX1 HWK1
   cases bw
   ·have HR:=H_ (HFK.out (by rw [HOK.out];simp))
    go_wp2_with fail
    go_ret
    exact ⟨ret_bool HR.out.symm,HB2.out⟩
   have HSE2:=H_ (HSE.out xm w2 HB2.out)
   have HA2:=H_ hA2
   have HX2:=H_ hX2
   have al:=hA2.1
   have a0:w2.cell? ⟨w.heap.size,0,none⟩=some (.slice ma ml mc):=hA2.2 0 (by simp)
   have a1:w2.cell? ⟨w.heap.size,1,none⟩=some (.slice ca cl cc):=hA2.2 1 (by simp)
   have x1:w2.cell? ⟨B,1,none⟩=some (.string xm):=hX2.2 1 (by simp)
   generalize sellB ms xm=bs at *
   clear hA2 hX2 HSE
   go_wp2_with fail
   refine HSE2.out.mono ?_
   rintro e w3 ⟨rfl,hb⟩
   have HB3:=H_ (HB2.out.trans (hb.mono HB2.out.size))
   have hA3:=HA2.out.below hb
   have hX3:=HX2.out.below hb
   clear hb HB2 HA2 HX2 HSE2 al a0 a1 x1
   cases bs
   ·have HR:=H_ (HFK.out (by rw [HOK.out];simp))
    go_wp2_with fail
    go_ret
    exact ⟨ret_bool HR.out.symm,HB3.out⟩
   have HA3:=H_ hA3
   have HX3:=H_ hX3
   have al:=hA3.1
   have bl:=hX3.1
   have a4:w3.cell? ⟨w.heap.size,4,none⟩=some (.slice (some ⟨b,off,none⟩) len uc):=hA3.2 4 (by simp)
   have a6:w3.cell? ⟨w.heap.size,6,none⟩=some (.int .i64 fr):=hA3.2 6 (by simp)
   have x2:w3.cell? ⟨B,2,none⟩=some (.int .i64 xo):=hX3.2 2 (by simp)
   by_cases hmo:xo<fr
   ·have HR:=H_ (HFK.out (by rw [HOK.out];simp [hmo]))
    clear hA3 hX3
    go_wp2_with fail
    go_ret
    exact ⟨ret_bool HR.out.symm,HB3.out⟩
   rcases (show k=0∨∃j,k=j+1 from by rcases k with _|j;exact .inl rfl;exact .inr ⟨j,rfl⟩) with rfl|⟨j,hkj⟩
   ·have HM2:=H_ (HMK.out (by rw [HOK.out];simp [hmo]))
    clear hA3 hX3
    go_wp2_with fail
    go_quiet (fail)
    go_wp2_with fail
    go_roundw
    case rel=>exact ⟨0+1,by omega,by go_num,HM2,H_ (HA3.out.drewN _),H_ (StxR.bdN HB3.out _)⟩
    case measure=>simp [intOf];omega
   obtain ⟨b',off',ta',tc',ha',hc',hbo,hbl',d0,d1,d2,d3,d4,d5,d6,d7,_,_⟩:=(HI.out.below HB3.out).at j (by have:=HL.out;omega)
   obtain ⟨rfl,rfl⟩:b=b'∧off=off':=by simpa using hbo
   clear hbo
   obtain ⟨n,hn,hWL2⟩:=HWL.out (ws.getD j Wd.zero) ta' ha' tc' hc'
   have HWL2:=H_ hWL2
   clear hWL2
   have HOK2:Hid (wok ws ms fr k=WL (ws.getD j Wd.zero)):=H_ (by rw [HOK.out];simp [hmo,hkj])
   clear HOK HWL
   generalize WL (ws.getD j Wd.zero)=lb at *
   generalize ws.getD j Wd.zero=Y at *
   obtain ⟨ya,ym,yo,ye,ys,yx,yt,yh⟩:=Y
   dsimp only [wcells] at d0 d1 d2 d3 d4 d5 d6 d7 HWL2
   generalize yt.length=tl' at *
   generalize yh.length=hl' at *
   have hj1:IntKind.i64.wrap ((k:Int)-1)=(j:Int):=by rw [IntKind.wrap_i64];omega
   have hj2:0<k:=by omega
   have hj3:(j:Int)<(len:Int):=by omega
   clear hkj
   have x0:w3.cell? ⟨B,0,none⟩=some (.string xa):=hX3.2 0 (by simp)
   have x1:w3.cell? ⟨B,1,none⟩=some (.string xm):=hX3.2 1 (by simp)
   have x3:w3.cell? ⟨B,3,none⟩=some (.int .i64 xe):=hX3.2 3 (by simp)
   have x4:w3.cell? ⟨B,4,none⟩=some (.int .i64 xs):=hX3.2 4 (by simp)
   have x5:w3.cell? ⟨B,5,none⟩=some (.int .i64 xx):=hX3.2 5 (by simp)
   have x6:w3.cell? ⟨B,6,none⟩=some (.slice ta tl tc):=hX3.2 6 (by simp)
   have x7:w3.cell? ⟨B,7,none⟩=some (.slice ha hl hc):=hX3.2 7 (by simp)
   obtain ⟨S,hS⟩:∃S:World→Prop,∀W,S W↔Below w3.heap.size w3 W:=⟨_,fun _=>Iff.rfl⟩
   have HSC:Hid (∀s:HW S,Below w3.heap.size w3 s.w):=H_ (fun s=>(hS _).1 s.h)
   have HSB:Hid (∀(s:HW S) w',Below s.w.heap.size s.w w'→S w'):=H_ (fun s w' hb=>(hS _).2 ((HSC.out s).trans (hb.mono (HSC.out s).size)))
   have HSD:Hid (S w3.drew):=H_ ((hS _).2 (Below.refl _ _).drew)
   have hne:Nonempty (HW S):=⟨⟨_,HSD.out⟩⟩
   have e4:∀s:HW S,s.w.cell? ⟨w.heap.size,4,none⟩=some (.slice (some ⟨b,off,none⟩) len uc):=fun s=>((HSC.out s).cell (p:=⟨w.heap.size,4,none⟩) al).trans a4
   have f0:∀s:HW S,s.w.cell? ⟨B,0,none⟩=some (.string xa):=fun s=>((HSC.out s).cell (p:=⟨B,0,none⟩) bl).trans x0
   have f1:∀s:HW S,s.w.cell? ⟨B,1,none⟩=some (.string xm):=fun s=>((HSC.out s).cell (p:=⟨B,1,none⟩) bl).trans x1
   have f2:∀s:HW S,s.w.cell? ⟨B,2,none⟩=some (.int .i64 xo):=fun s=>((HSC.out s).cell (p:=⟨B,2,none⟩) bl).trans x2
   have f3:∀s:HW S,s.w.cell? ⟨B,3,none⟩=some (.int .i64 xe):=fun s=>((HSC.out s).cell (p:=⟨B,3,none⟩) bl).trans x3
   have f4:∀s:HW S,s.w.cell? ⟨B,4,none⟩=some (.int .i64 xs):=fun s=>((HSC.out s).cell (p:=⟨B,4,none⟩) bl).trans x4
   have f5:∀s:HW S,s.w.cell? ⟨B,5,none⟩=some (.int .i64 xx):=fun s=>((HSC.out s).cell (p:=⟨B,5,none⟩) bl).trans x5
   have f6:∀s:HW S,s.w.cell? ⟨B,6,none⟩=some (.slice ta tl tc):=fun s=>((HSC.out s).cell (p:=⟨B,6,none⟩) bl).trans x6
   have f7:∀s:HW S,s.w.cell? ⟨B,7,none⟩=some (.slice ha hl hc):=fun s=>((HSC.out s).cell (p:=⟨B,7,none⟩) bl).trans x7
   have g0:∀s:HW S,s.w.cell? ⟨b,off+j*8,none⟩=some (.string ya):=fun s=>((HSC.out s).cell (p:=⟨b,off+j*8,none⟩) hbl').trans d0
   have g1:∀s:HW S,s.w.cell? ⟨b,off+j*8+1,none⟩=some (.string ym):=fun s=>((HSC.out s).cell (p:=⟨b,off+j*8+1,none⟩) hbl').trans d1
   have g2:∀s:HW S,s.w.cell? ⟨b,off+j*8+2,none⟩=some (.int .i64 yo):=fun s=>((HSC.out s).cell (p:=⟨b,off+j*8+2,none⟩) hbl').trans d2
   have g3:∀s:HW S,s.w.cell? ⟨b,off+j*8+3,none⟩=some (.int .i64 ye):=fun s=>((HSC.out s).cell (p:=⟨b,off+j*8+3,none⟩) hbl').trans d3
   have g4:∀s:HW S,s.w.cell? ⟨b,off+j*8+4,none⟩=some (.int .i64 ys):=fun s=>((HSC.out s).cell (p:=⟨b,off+j*8+4,none⟩) hbl').trans d4
   have g5:∀s:HW S,s.w.cell? ⟨b,off+j*8+5,none⟩=some (.int .i64 yx):=fun s=>((HSC.out s).cell (p:=⟨b,off+j*8+5,none⟩) hbl').trans d5
   have g6:∀s:HW S,s.w.cell? ⟨b,off+j*8+6,none⟩=some (.slice ta' tl' tc'):=fun s=>((HSC.out s).cell (p:=⟨b,off+j*8+6,none⟩) hbl').trans d6
   have g7:∀s:HW S,s.w.cell? ⟨b,off+j*8+7,none⟩=some (.slice ha' hl' hc'):=fun s=>((HSC.out s).cell (p:=⟨b,off+j*8+7,none⟩) hbl').trans d7
   go_wp2_with fail
   clear hA3 hX3 hS al bl a4 a6 x0 x1 x2 x3 x4 x5 x6 x7 d0 d1 d2 d3 d4 d5 d6 d7
   have HN:=H_ hn
   clear hn
   refine wp_region_hw S (by kernel_rfl) (by kernel_rfl) HSD.out ?_
   repeat (go_big_quiet_step ((rename_i s;go_at_call 131;refine (HWL2.out _).mono ?_;rintro e w1 ⟨rfl,hb1⟩;exact ⟨rfl,⟨w1,HSB.out s w1 hb1⟩,rfl⟩)))
   refine wpQuiet_nil ?_
   intro _ hw'
   obtain ⟨s,hw''⟩:=hw'
   subst hw''
   have HB4:=H_ (HB3.out.trans ((HSC.out s).mono HB3.out.size))
   have HA4:=H_ (HA3.out.below (HSC.out s))
   clear HA3 HB3 HX3 HWL2 HSC HSB HSD hne e4 f0 f1 f2 f3 f4 f5 f6 f7 g0 g1 g2 g3 g4 g5 g6 g7
   have hn:=HN.out
   clear HN
   cases lb
   ·have HR:=H_ (HFK.out HOK2.out)
    have hn2:0≤n:=by
     rcases Int.lt_or_le n 0 with h|h
     ·rw [eq_iff_iff] at hn
      exact absurd (hn.1 h) (by simp)
     ·exact h
    clear hn HFK HMK HOK2
    go_wp2_with fail
    go_ret
    exact ⟨ret_bool HR.out.symm,HB4.out⟩
   ·have HM2:=H_ (HMK.out HOK2.out)
    have hn2:¬0≤n:=by
     rw [eq_iff_iff] at hn
     have:=hn.2 rfl
     omega
    clear hn HFK HMK HOK2
    go_wp2_with fail
    go_roundw
    case rel=>exact ⟨k+1,by omega,by go_num,HM2,HA4,HB4⟩
    case measure=>simp [intOf];omega
  ·have hlt2:¬(k:Int)<(len:Int):=by omega
   obtain rfl:k=len:=by omega
   have HR:=H_ (HY.out (by omega) HK.out)
   go_wp2_with fail
   go_ret
   exact ⟨ret_bool HR.out.symm,HB.out⟩
end EngR
end Go.Proofs.YtnceeaccbcfopaaGreatDoor
