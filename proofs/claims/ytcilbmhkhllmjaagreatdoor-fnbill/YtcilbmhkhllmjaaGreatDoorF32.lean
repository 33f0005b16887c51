/-
  FnBill: for every two lists of bytes that are drawn from the law's call returns true: what a drawn account is billed is what the model says, and right; what is left of drawn lines behind a credit is right, no more and less by no more than it, and none below 0 is another; both sides tell the same. The conditions: at most 1048576 bytes to draw from; the program's own variables hold what its text lays.
-/
import Derived.Deep.RegionHeld3
import Derived.Test.YtcilbmhkhllmjaaGreatDoorF31
namespace Go.Proofs.YtcilbmhkhllmjaaGreatDoor
open Go.ChangeShapes Go.WideShapes Go.ChangeAt Go.RowKit
set_option linter.unusedVariables false
set_option linter.unusedSimpArgs false
namespace BillLaw
open LinR DrawR
open CatR (Ca Mes Crs IsCa Blk Blk.new)
open WinR (Wd Wns Sm)
open BilR (WP billB BlO impl_bill spec_bill bill_len2 bill_right draw_sum draw_zero draw_found draw_right)
def LX (wb:World) (B5 B8:Nat) (u0 u1 v0 v1:Value) (W:World):Prop:=Below wb.heap.size wb W∧B5<W.heap.size∧B8<W.heap.size∧W.cell? ⟨B5,0,none⟩=some u0∧W.cell? ⟨B5,1,none⟩=some u1∧W.cell? ⟨B8,0,none⟩=some v0∧W.cell? ⟨B8,1,none⟩=some v1
theorem LX.below {wb:World} {B5 B8:Nat} {u0 u1 v0 v1:Value} {W W':World} (h:LX wb B5 B8 u0 u1 v0 v1 W) (hb:Below W.heap.size W W'):LX wb B5 B8 u0 u1 v0 v1 W':=by
 obtain ⟨h0,l1,l2,c0,c1,d0,d1⟩:=h
 have f:=fun o=>hb.cell (p:=⟨B5,o,none⟩) l1
 have g:=fun o=>hb.cell (p:=⟨B8,o,none⟩) l2
 have:=hb.size
 exact ⟨h0.trans (hb.mono h0.size),by omega,by omega,(f _).trans c0,(f _).trans c1,(g _).trans d0,(g _).trans d1⟩
theorem kn_size {L:List N} (h:∀e∈L,Kn e.i):∀e∈L,e.i.size≤1048576:=fun e he=>by have:=(h e he).size;omega
theorem draw_kn {c:Int} {L:List N} (h:∀e∈L,Kn e.i):∀e∈drawB c L,e.i.size≤1048576:=fun e he=>by
 unfold drawB at he
 cases hq:sB L&&decide (0≤c∧c≤1000000000000000)
 ·rw [hq] at he;cases he
 ·rw [hq,cond_true] at he
  unfold drawL at he
  obtain ⟨x,hx,e1⟩:=dl_mem (Nat.le_refl _) e (List.mem_filter.1 he).1
  rw [e1]
  exact kn_size h x hx
theorem sr_size {L:List N} (h:SRight L):∀e∈L,e.i.size≤1048576:=fun e he=>by
 obtain ⟨i,hi,rfl⟩:=List.getElem_of_mem he
 have:=(h.2 i hi).2
 rw [show L.getD i N.zero=L[i] by simp [List.getD,hi]] at this
 unfold lOk at this
 simp only [Bool.and_eq_true] at this
 have:=(CatR.name_le this.1).2
 omega
theorem drawB_len {c:Int} {L:List N} (h:L.length≤1048576):(drawB c L).length≤1048576:=by
 have h2:=draw_len (c:=c) (es:=L)
 omega
theorem sum_bd {L:List N} (h:SRight L):-6000000000000000≤sumL L∧sumL L≤6000000000000000:=by
 have h1:=sum_in h L.length (Nat.le_refl _)
 rw [List.take_length] at h1
 have h2:=h.1
 omega
set_option maxRecDepth 100000 in
set_option maxHeartbeats 16000000 in
theorem law_in (w:World) (a0 a1:Option Addr) (len0 cap0 len1 cap1:Nat) (h0:len0≤1048576) (h1:len1≤1048576) (hB0:Bytes a0 len0 w) (hB1:Bytes a1 len1 w) (hL:LayB.Ok w) :
 Calls Tryz.prog 4 #[.slice a0 len0 cap0,.slice a1 len1 cap1] w fun e w'=>e=.returned (.bool true)∧Below w.heap.size w w':=by
 have q0:¬(1048576:Int)<(len0:Int):=by omega
 have q1:¬(1048576:Int)<(len1:Int):=by omega
 have HD0:=H_ (bof_any a0 len0 cap0 w h0 hB0)
 have HDR:=H_ (fun W (hb:Below w.heap.size w W)=>ddr_any a1 len1 cap1 W h1 (hB1.below hb))
 have HDT:=H_ (fun W (hb:Below w.heap.size w W)=>dto_any a1 len1 cap1 W h1 (hB1.below hb))
 have HLY:=H_ hL
 clear hB0 hB1 hL
 go_enter Tryz.func4,Tryz.ntmps4
 go_wp2_with fail
 refine HD0.out.mono ?_
 rintro e w1 ⟨⟨c,ma,mc,ca,cc,a,wo,wc,ps,rfl,hM,hC,hSm,hA,hP4,hWn,hPs⟩,hb1⟩
 obtain ⟨ws,hws⟩:∃z,z=ps.map BilR.WP.d:=⟨_,rfl⟩
 have hwl:ps.length=ws.length:=by rw [hws,List.length_map]
 rw [←hws] at hWn
 rw [hwl] at hP4 ⊢
 have HSW:Hid (∀i,i<ws.length→(ws.getD i Wd.zero).Small):=H_ (fun i hi=>by
  have hm:=RowG.getD_mem (z:=Wd.zero) ws i hi
  rw [hws] at hm ⊢
  obtain ⟨p,hp,e⟩:=List.mem_map.1 hm
  rw [←e]
  exact (hPs p hp).small (by omega))
 have HIB:Hid (∀W,Below w1.heap.size w1 W→Calls Tryz.prog 10 #[.agg #[.slice ma c.ms.length mc,.slice ca c.cs.length cc],.string a,.slice wo ws.length wc] W fun e w'=>∃ao cap,e=.returned (.agg #[.slice ao (billB c a ws).1.length cap,.int .i64 (billB c a ws).2])∧Lis ao (billB c a ws).1 w'∧Below W.heap.size W w'):=H_ (fun W hW=>by
  have hl:=HLY.out.below (hb1.trans (hW.mono hb1.size))
  refine (impl_bill _ c a wo wc ws W (by omega) (by omega) hSm HSW.out ⟨ma,mc,ca,cc,rfl,hM.below hW,hC.below hW⟩ hl.1 hl.2.1 hl.2.2 (hWn.below hW)).mono ?_
  rintro e w' ⟨ao,cap,rfl,hm,hb⟩
  exact ⟨ao,cap,rfl,hm.rws,hb⟩)
 have HSB:Hid (∀W,Below w1.heap.size w1 W→Calls Tryz.prog 7 #[.agg #[.slice ma c.ms.length mc,.slice ca c.cs.length cc],.string a,.slice wo ws.length wc] W fun e w'=>∃ao cap,e=.returned (.agg #[.slice ao (billB c a ws).1.length cap,.int .i64 (billB c a ws).2])∧Lis ao (billB c a ws).1 w'∧Below W.heap.size W w'):=H_ (fun W hW=>by
  refine (spec_bill _ c a wo wc ws W (by omega) (by omega) hSm HSW.out ⟨ma,mc,ca,cc,rfl,hM.below hW,hC.below hW⟩ (hWn.below hW)).mono ?_
  rintro e w' ⟨ao,cap,rfl,hm,hb⟩
  exact ⟨ao,cap,rfl,hm.rws,hb⟩)
 have hbl:=bill_len2 (c:=c) (a:=a) (ws:=ws) (by omega)
 have HBR:=H_ (bill_right (c:=c) (a:=a) (ws:=ws) (by omega))
 have HB:=H_ hb1
 clear hM hC hSm hA hWn hPs hws hwl hb1 HSW
 generalize billB c a ws=D at *
 obtain ⟨DL,d2⟩:=D
 dsimp only at *
 obtain ⟨ml,hml⟩:∃z,z=c.ms.length:=⟨_,rfl⟩
 obtain ⟨cl,hcl⟩:∃z,z=c.cs.length:=⟨_,rfl⟩
 obtain ⟨wl,hwl⟩:∃z,z=ws.length:=⟨_,rfl⟩
 obtain ⟨n1,hn1⟩:∃z,z=DL.length:=⟨_,rfl⟩
 rw [←hml,←hcl,←hwl] at HIB HSB ⊢
 rw [←hn1] at HIB HSB hbl
 have HN1:=H_ hn1
 clear hml hcl hwl hn1
 go_wp2_with fail
 obtain ⟨B5,hB5⟩:∃z,z=w1.heap.size:=⟨_,rfl⟩
 obtain ⟨w2,hw2⟩:∃z,z=w1.alloc (.cells #[.slice ma ml mc,.slice ca cl cc] 36):=⟨_,rfl⟩
 have hal:Below w1.heap.size w1 w2:=by rw [hw2];exact (Below.refl _ _).alloc (Nat.le_refl _) _
 have HX5:Hid (Blk B5 [.slice ma ml mc,.slice ca cl cc] w2):=H_ (by rw [hB5,hw2];exact Blk.new w1 [.slice ma ml mc,.slice ca cl cc] _)
 have HQ:=H_ hal
 rw [←hB5,←hw2]
 clear hal hw2 hB5
 have x0:w2.cell? ⟨B5,0,none⟩=some (.slice ma ml mc):=HX5.out.2 0 (by simp)
 have x1:w2.cell? ⟨B5,1,none⟩=some (.slice ca cl cc):=HX5.out.2 1 (by simp)
 have xl:=HX5.out.1
 go_wp2_with fail
 refine (HIB.out _ HQ.out).mono ?_
 rintro e w3 ⟨io,icp,rfl,hI,hb3⟩
 have HI:=H_ hI
 have HX3:=H_ (HX5.out.below hb3)
 have HQ3:=H_ (HQ.out.trans (hb3.mono HQ.out.size))
 clear x0 x1 xl hI hb3 HX5 HQ HIB
 go_wp2_with fail
 obtain ⟨B8,hB8⟩:∃z,z=w3.heap.size:=⟨_,rfl⟩
 obtain ⟨w4,hw4⟩:∃z,z=w3.alloc (.cells #[.slice io n1 icp,.int .i64 d2] 31):=⟨_,rfl⟩
 have hal:Below w3.heap.size w3 w4:=by rw [hw4];exact (Below.refl _ _).alloc (Nat.le_refl _) _
 have HX:Hid (LX w1 B5 B8 (.slice ma ml mc) (.slice ca cl cc) (.slice io n1 icp) (.int .i64 d2) w4):=H_ (by
  have h5:=HX3.out.below hal
  have h8:Blk B8 [.slice io n1 icp,.int .i64 d2] w4:=by rw [hB8,hw4];exact Blk.new w3 [.slice io n1 icp,.int .i64 d2] _
  exact ⟨HQ3.out.trans (hal.mono HQ3.out.size),h5.1,h8.1,h5.2 0 (by simp),h5.2 1 (by simp),h8.2 0 (by simp),h8.2 1 (by simp)⟩)
 have HI4:=H_ (HI.out.below hal)
 rw [←hB8,←hw4]
 clear hal hw4 hB8 HX3 HQ3 HI
 have HB4:=H_ (HB.out.trans (HX.out.1.mono HB.out.size))
 refine (HDR.out _ HB4.out).mono ?_
 rintro e w5 ⟨⟨lb,lcp,L,cr,rfl,hl4,hkn,hLi,hc1,hc2⟩,hb5⟩
 have HX5:=H_ (HX.out.below hb5)
 have HI5:=H_ (HI4.out.below hb5)
 have HLI:=H_ hLi
 have HKN:=H_ hkn
 clear HX HI4 HB4 hb5 hLi hkn HDR
 have HID:Hid (∀W,Below w5.heap.size w5 W→Calls Tryz.prog 20 #[.slice (some ⟨lb,0,none⟩) L.length lcp,.int .i64 cr] W fun e w'=>Res W (drawB cr L) e w'):=H_ (fun W hW=>impl_drawn _ lcp L cr W (by omega) (kn_size HKN.out) (HLI.out.below hW))
 have HSD:Hid (∀W,Below w5.heap.size w5 W→Calls Tryz.prog 24 #[.slice (some ⟨lb,0,none⟩) L.length lcp,.int .i64 cr] W fun e w'=>Res W (drawB cr L) e w'):=H_ (fun W hW=>spec_drawn _ lcp L cr W (by omega) (kn_size HKN.out) (HLI.out.below hW))
 have HID0:Hid (∀W,Below w5.heap.size w5 W→Calls Tryz.prog 20 #[.slice (some ⟨lb,0,none⟩) L.length lcp,.int .i64 0] W fun e w'=>Res W (drawB 0 L) e w'):=H_ (fun W hW=>impl_drawn _ lcp L 0 W (by omega) (kn_size HKN.out) (HLI.out.below hW))
 have HTL:Hid (∀W,Below w5.heap.size w5 W→Calls Tryz.prog 25 #[.slice (some ⟨lb,0,none⟩) L.length lcp] W fun e w'=>e=.returned (.int .i64 (totL L))∧Below W.heap.size W w'):=H_ (fun W hW=>impl_total _ lcp L W (by omega) (kn_size HKN.out) (HLI.out.below hW))
 have HSL:Hid (∀W,Below w5.heap.size w5 W→Calls Tryz.prog 28 #[.slice (some ⟨lb,0,none⟩) L.length lcp] W fun e w'=>e=.returned (.bool (sB L))∧Below W.heap.size W w'):=H_ (fun W hW=>spec_lines _ lcp L W (by omega) (kn_size HKN.out) (HLI.out.below hW))
 have hdl:=drawB_len (c:=cr) (L:=L) (by omega)
 have HDK:Hid (∀e∈drawB cr L,e.i.size≤1048576):=H_ (draw_kn HKN.out)
 obtain ⟨nl,hnl⟩:∃z,z=L.length:=⟨_,rfl⟩
 rw [←hnl] at hl4 HID HSD HID0 HTL HSL ⊢
 have HNL:=H_ hnl
 clear hnl
 go_wp2_with fail
 refine (HID.out _ (Below.refl _ _)).mono ?_
 rintro e w6 ⟨do_,dcp,rfl,hm,hb6⟩
 have HDI:=H_ (show Lis do_ (drawB cr L) w6 from hm.rws)
 have HX6:=H_ (HX5.out.below hb6)
 have HI6:=H_ (HI5.out.below hb6)
 have HB6:=H_ hb6
 obtain ⟨DD,hDD⟩:∃z,z=drawB cr L:=⟨_,rfl⟩
 rw [←hDD] at HDI HSD hdl HDK ⊢
 have HDE:=H_ hDD
 obtain ⟨n2,hn2⟩:∃z,z=DD.length:=⟨_,rfl⟩
 rw [←hn2] at hdl ⊢
 have HN2:=H_ hn2
 clear hm hb6 HX5 HI5 HID hn2 hDD
 have HB5w:=H_ (HB.out.trans (HX6.out.1.mono HB.out.size))
 go_wp2_with fail
 refine (HDT.out _ HB5w.out).mono ?_
 rintro e w7 ⟨⟨tb,tcp,TT,rfl,ht4,htk,htl⟩,hb7⟩
 have HX7:=H_ (HX6.out.below hb7)
 have HI7:=H_ (HI6.out.below hb7)
 have HD7:=H_ (HDI.out.below hb7)
 have HB7:=H_ (HB6.out.trans (hb7.mono HB6.out.size))
 have HTI:=H_ htl
 have HTK:=H_ htk
 clear HX6 HI6 HDI HB6 HB5w hb7 htl htk HDT
 obtain ⟨nt,hnt⟩:∃z,z=TT.length:=⟨_,rfl⟩
 rw [←hnt] at ht4 ⊢
 have HNT:=H_ hnt
 clear hnt
 go_wp2_with fail
 have h3l:=drawB_len (c:=0) (L:=TT) (by have:=HNT.out;omega)
 obtain ⟨E3,hE3⟩:∃z,z=drawB 0 TT:=⟨_,rfl⟩
 obtain ⟨n3,hn3⟩:∃z,z=E3.length:=⟨_,rfl⟩
 rw [←hE3] at h3l
 rw [←hn3] at h3l
 have HSB7:Hid (∀W,Below w7.heap.size w7 W→Calls Tryz.prog 7 #[.agg #[.slice ma ml mc,.slice ca cl cc],.string a,.slice wo wl wc] W fun e w'=>∃ao cap,e=.returned (.agg #[.slice ao n1 cap,.int .i64 d2])∧Lis ao DL w'∧Below W.heap.size W w'):=H_ (fun W hW=>HSB.out W (HX7.out.1.trans (hW.mono HX7.out.1.size)))
 have HLB:Hid (∀so scp W,Below w7.heap.size w7 W→Lis so DL W→Calls Tryz.prog 22 #[.agg #[.slice io n1 icp,.int .i64 d2],.agg #[.slice so n1 scp,.int .i64 d2]] W fun e w'=>e=.returned (.bool true)∧Below W.heap.size W w'):=H_ (fun so scp W hW hs=>by have e1:=HN1.out;subst e1;exact LedR.lwBill_any io so icp scp DL d2 W hbl (HI7.out.below hW) hs)
 have HSD7:Hid (∀W,Below w7.heap.size w7 W→Calls Tryz.prog 24 #[.slice (some ⟨lb,0,none⟩) nl lcp,.int .i64 cr] W fun e w'=>∃ao cap,e=.returned (.slice ao n2 cap)∧Lis ao DD w'∧Below W.heap.size W w'):=H_ (fun W hW=>by have e1:=HN2.out;subst e1;exact (HSD.out W (HB7.out.trans (hW.mono HB7.out.size))).mono (by rintro e w' ⟨ao,cap,rfl,hm,hb⟩;exact ⟨ao,cap,rfl,hm.rws,hb⟩))
 have HLL:Hid (∀ao cap W,Below w7.heap.size w7 W→Lis ao DD W→Calls Tryz.prog 23 #[.slice do_ n2 dcp,.slice ao n2 cap] W fun e w'=>e=.returned (.bool true)∧Below W.heap.size W w'):=H_ (fun ao cap W hW hs=>by have e1:=HN2.out;subst e1;exact LedR.lwLi_any do_ ao dcp cap DD W hdl (HD7.out.below hW) hs)
 have HT1:Hid (∀W,Below w7.heap.size w7 W→Calls Tryz.prog 25 #[.slice (some ⟨tb,0,none⟩) nt tcp] W fun e w'=>e=.returned (.int .i64 (totL TT))∧Below W.heap.size W w'):=H_ (fun W hW=>by have e1:=HNT.out;subst e1;exact impl_total _ tcp TT W (by omega) (kn_size HTK.out) (HTI.out.below hW))
 have HT2:Hid (∀W,Below w7.heap.size w7 W→Calls Tryz.prog 26 #[.slice (some ⟨tb,0,none⟩) nt tcp] W fun e w'=>e=.returned (.int .i64 (totL TT))∧Below W.heap.size W w'):=H_ (fun W hW=>by have e1:=HNT.out;subst e1;exact spec_total _ tcp TT W (by omega) (kn_size HTK.out) (HTI.out.below hW))
 have HT3:Hid (∀W,Below w7.heap.size w7 W→Calls Tryz.prog 27 #[.slice (some ⟨tb,0,none⟩) nt tcp] W fun e w'=>e=.returned (.bool (sB TT))∧Below W.heap.size W w'):=H_ (fun W hW=>by have e1:=HNT.out;subst e1;exact impl_lines _ tcp TT W (by omega) (kn_size HTK.out) (HTI.out.below hW))
 have HT4:Hid (∀W,Below w7.heap.size w7 W→Calls Tryz.prog 28 #[.slice (some ⟨tb,0,none⟩) nt tcp] W fun e w'=>e=.returned (.bool (sB TT))∧Below W.heap.size W w'):=H_ (fun W hW=>by have e1:=HNT.out;subst e1;exact spec_lines _ tcp TT W (by omega) (kn_size HTK.out) (HTI.out.below hW))
 have HT5:Hid (∀W,Below w7.heap.size w7 W→Calls Tryz.prog 20 #[.slice (some ⟨tb,0,none⟩) nt tcp,.int .i64 0] W fun e w'=>∃ao cap,e=.returned (.slice ao n3 cap)∧Lis ao E3 w'∧Below W.heap.size W w'):=H_ (fun W hW=>by have e1:=HNT.out;subst e1;subst hn3;subst hE3;exact (impl_drawn _ tcp TT 0 W (by omega) (kn_size HTK.out) (HTI.out.below hW)).mono (by rintro e w' ⟨ao,cap,rfl,hm,hb⟩;exact ⟨ao,cap,rfl,hm.rws,hb⟩))
 have HT6:Hid (∀W,Below w7.heap.size w7 W→Calls Tryz.prog 24 #[.slice (some ⟨tb,0,none⟩) nt tcp,.int .i64 0] W fun e w'=>∃ao cap,e=.returned (.slice ao n3 cap)∧Lis ao E3 w'∧Below W.heap.size W w'):=H_ (fun W hW=>by have e1:=HNT.out;subst e1;subst hn3;subst hE3;exact (spec_drawn _ tcp TT 0 W (by omega) (kn_size HTK.out) (HTI.out.below hW)).mono (by rintro e w' ⟨ao,cap,rfl,hm,hb⟩;exact ⟨ao,cap,rfl,hm.rws,hb⟩))
 have HT7:Hid (∀ao cap bo cap2 W,Lis ao E3 W→Lis bo E3 W→Calls Tryz.prog 23 #[.slice ao n3 cap,.slice bo n3 cap2] W fun e w'=>e=.returned (.bool true)∧Below W.heap.size W w'):=H_ (fun ao cap bo cap2 W h1 h2=>by subst hn3;exact LedR.lwLi_any ao bo cap cap2 E3 W h3l h1 h2)
 clear hE3 hn3
 generalize totL TT=t1 at *
 generalize sB TT=t2 at *
 have HX8:Hid (LX w7 B5 B8 (.slice ma ml mc) (.slice ca cl cc) (.slice io n1 icp) (.int .i64 d2) w7.drew):=H_ (LX.below (show LX w7 B5 B8 (.slice ma ml mc) (.slice ca cl cc) (.slice io n1 icp) (.int .i64 d2) w7 from ⟨Below.refl _ _,HX7.out.2⟩) (Below.refl _ _).drew)
 refine wp_region_held_drew (S:=(fun W=>Below w7.heap.size w7 W∧B5<W.heap.size∧B8<W.heap.size∧W.cell? ⟨B5,0,none⟩=some (.slice ma ml mc)∧W.cell? ⟨B5,1,none⟩=some (.slice ca cl cc)∧W.cell? ⟨B8,0,none⟩=some (.slice io n1 icp)∧W.cell? ⟨B8,1,none⟩=some (.int .i64 d2))) (by kernel_rfl) HX8.out (fun hHeld=>?_)
 have hx0:=HX8.out
 generalize w7.drew=kd at *
 refine tk 0 (⟨some 44,.load 31 (.tmp 8),31,"laws.go:449",#[],none⟩) ?_
 refine tk 1 (⟨some 45,.load 36 (.tmp 5),36,"laws.go:449",#[],none⟩) ?_
 refine tk 2 (⟨some 46,.move (.tmp 6),9,"laws.go:449",#[],none⟩) ?_
 refine tk 3 (⟨some 47,.move (.tmp 7),38,"laws.go:449",#[],none⟩) ?_
 refine rd 4 (⟨some 48,.call {callee:=Callee.value (.func 7),args:=#[.tmp 45,.tmp 46,.tmp 47],argTypes:=#[36,9,38]},31,"laws.go:449",#[⟨1,.data⟩,⟨2,.data⟩,⟨3,.data⟩],none⟩) (fun K hK=>?_)
 go_simp
 go_at_call 7
 refine (HSB7.out _ hx0.1).mono ?_
 rintro e q1 ⟨so,scp,rfl,hso,hb1⟩
 try go_wp2_with fail
 have hx1:=LX.below hx0 hb1
 refine hK.out _ _ hx1 (fun _=>?_)
 clear hK K
 try simp only [Act.put,SL]
 refine rd 5 (⟨some 49,.call {callee:=Callee.value (.func 22),args:=#[.tmp 44,.tmp 48],argTypes:=#[31,31]},4,"laws.go:449",#[⟨0,.data⟩,⟨4,.data⟩,⟨4,.chain⟩],none⟩) (fun K hK=>?_)
 go_simp
 go_at_call 22
 refine (HLB.out _ _ _ hx1.1 hso).mono ?_
 rintro e q2 ⟨rfl,hb2⟩
 try go_wp2_with fail
 have hx2:=LX.below hx1 hb2
 refine hK.out _ _ hx2 (fun _=>?_)
 clear hK K
 try simp only [Act.put,SL]
 refine tk 6 (⟨some 50,.unOp UnOp.not 4 (.tmp 49),4,"laws.go:449",#[⟨5,.data⟩],none⟩) ?_
 refine tk 7 (⟨some 51,.move (.tmp 50),4,"laws.go:449",#[⟨6,.data⟩,⟨5,.chain⟩],none⟩) ?_
 refine tk 8 (⟨some 52,.move (.tmp 11),29,"laws.go:449",#[⟨7,.guard⟩],some (7,false)⟩) ?_
 refine tk 9 (⟨some 53,.move (.tmp 9),29,"laws.go:449",#[⟨7,.guard⟩],some (7,false)⟩) ?_
 refine tk 10 (⟨some 54,.move (.tmp 10),2,"laws.go:449",#[⟨7,.guard⟩],some (7,false)⟩) ?_
 refine rd 11 (⟨some 55,.call {callee:=Callee.value (.func 24),args:=#[.tmp 53,.tmp 54],argTypes:=#[29,2]},29,"laws.go:449",#[⟨9,.data⟩,⟨10,.data⟩,⟨7,.chain⟩,⟨7,.guard⟩],some (7,false)⟩) (fun K hK=>?_)
 go_simp
 go_at_call 24
 refine (HSD7.out _ hx2.1).mono ?_
 rintro e q3 ⟨sd,sdc,rfl,hsd,hb3⟩
 try go_wp2_with fail
 have hx3:=LX.below hx2 hb3
 refine hK.out _ _ hx3 (fun _=>?_)
 clear hK K
 try simp only [Act.put,SL]
 refine rd 12 (⟨some 56,.call {callee:=Callee.value (.func 23),args:=#[.tmp 52,.tmp 55],argTypes:=#[29,29]},4,"laws.go:449",#[⟨8,.data⟩,⟨11,.data⟩,⟨11,.chain⟩,⟨7,.guard⟩],some (7,false)⟩) (fun K hK=>?_)
 go_simp
 go_at_call 23
 refine (HLL.out _ _ _ hx3.1 hsd).mono ?_
 rintro e q4 ⟨rfl,hb4⟩
 try go_wp2_with fail
 have hx4:=LX.below hx3 hb4
 refine hK.out _ _ hx4 (fun _=>?_)
 clear hK K
 try simp only [Act.put,SL]
 refine tk 13 (⟨some 57,.unOp UnOp.not 4 (.tmp 56),4,"laws.go:449",#[⟨12,.data⟩,⟨7,.guard⟩],some (7,false)⟩) ?_
 refine tk 14 (⟨some 58,.pick (.tmp 51) (.const (Value.bool true)) (.tmp 57),4,"laws.go:449",#[⟨7,.data⟩,⟨13,.data⟩],none⟩) ?_
 refine tk 15 (⟨some 59,.move (.tmp 58),4,"laws.go:449",#[⟨14,.data⟩,⟨12,.chain⟩],none⟩) ?_
 refine tk 16 (⟨some 60,.move (.tmp 12),29,"laws.go:449",#[⟨15,.guard⟩],some (15,false)⟩) ?_
 refine tk 18 (⟨some 62,.move (.tmp 12),29,"laws.go:449",#[⟨15,.guard⟩],some (15,false)⟩) ?_
 refine rd 17 (⟨some 61,.call {callee:=Callee.value (.func 25),args:=#[.tmp 60],argTypes:=#[29]},2,"laws.go:449",#[⟨16,.data⟩,⟨15,.chain⟩,⟨15,.guard⟩],some (15,false)⟩) (fun K hK=>?_)
 go_simp
 go_at_call 25
 refine (HT1.out _ hx4.1).mono ?_
 rintro e q5 ⟨rfl,hb5⟩
 try go_wp2_with fail
 have hx5:=LX.below hx4 hb5
 refine hK.out _ _ hx5 (fun _=>?_)
 clear hK K
 try simp only [Act.put,SL]
 refine rd 19 (⟨some 63,.call {callee:=Callee.value (.func 26),args:=#[.tmp 62],argTypes:=#[29]},2,"laws.go:449",#[⟨18,.data⟩,⟨17,.chain⟩,⟨15,.guard⟩],some (15,false)⟩) (fun K hK=>?_)
 go_simp
 go_at_call 26
 refine (HT2.out _ hx5.1).mono ?_
 rintro e q6 ⟨rfl,hb6⟩
 try go_wp2_with fail
 have hx6:=LX.below hx5 hb6
 refine hK.out _ _ hx6 (fun _=>?_)
 clear hK K
 try simp only [Act.put,SL]
 refine tk 20 (⟨some 64,.binOp BinOp.neq 2 (.tmp 61) (.tmp 63) 2,4,"laws.go:449",#[⟨17,.data⟩,⟨19,.data⟩,⟨15,.guard⟩],some (15,false)⟩) ?_
 refine tk 21 (⟨some 65,.pick (.tmp 59) (.const (Value.bool true)) (.tmp 64),4,"laws.go:449",#[⟨15,.data⟩,⟨20,.data⟩],none⟩) ?_
 refine tk 22 (⟨some 66,.move (.tmp 65),4,"laws.go:449",#[⟨21,.data⟩,⟨19,.chain⟩],none⟩) ?_
 refine tk 23 (⟨some 67,.move (.tmp 12),29,"laws.go:449",#[⟨22,.guard⟩],some (22,false)⟩) ?_
 refine tk 25 (⟨some 69,.move (.tmp 12),29,"laws.go:449",#[⟨22,.guard⟩],some (22,false)⟩) ?_
 refine rd 24 (⟨some 68,.call {callee:=Callee.value (.func 27),args:=#[.tmp 67],argTypes:=#[29]},4,"laws.go:449",#[⟨23,.data⟩,⟨22,.chain⟩,⟨22,.guard⟩],some (22,false)⟩) (fun K hK=>?_)
 go_simp
 go_at_call 27
 refine (HT3.out _ hx6.1).mono ?_
 rintro e q7 ⟨rfl,hb7⟩
 try go_wp2_with fail
 have hx7:=LX.below hx6 hb7
 refine hK.out _ _ hx7 (fun _=>?_)
 clear hK K
 try simp only [Act.put,SL]
 refine rd 26 (⟨some 70,.call {callee:=Callee.value (.func 28),args:=#[.tmp 69],argTypes:=#[29]},4,"laws.go:449",#[⟨25,.data⟩,⟨24,.chain⟩,⟨22,.guard⟩],some (22,false)⟩) (fun K hK=>?_)
 go_simp
 go_at_call 28
 refine (HT4.out _ hx7.1).mono ?_
 rintro e q8 ⟨rfl,hb8⟩
 try go_wp2_with fail
 have hx8:=LX.below hx7 hb8
 refine hK.out _ _ hx8 (fun _=>?_)
 clear hK K
 try simp only [Act.put,SL]
 refine tk 27 (⟨some 71,.binOp BinOp.neq 4 (.tmp 68) (.tmp 70) 4,4,"laws.go:449",#[⟨24,.data⟩,⟨26,.data⟩,⟨22,.guard⟩],some (22,false)⟩) ?_
 refine tk 28 (⟨some 72,.pick (.tmp 66) (.const (Value.bool true)) (.tmp 71),4,"laws.go:449",#[⟨22,.data⟩,⟨27,.data⟩],none⟩) ?_
 refine tk 29 (⟨some 73,.move (.tmp 72),4,"laws.go:449",#[⟨28,.data⟩,⟨26,.chain⟩],none⟩) ?_
 refine tk 30 (⟨some 74,.move (.tmp 12),29,"laws.go:449",#[⟨29,.guard⟩],some (29,false)⟩) ?_
 refine tk 32 (⟨some 76,.move (.tmp 12),29,"laws.go:449",#[⟨29,.guard⟩],some (29,false)⟩) ?_
 refine rd 31 (⟨some 75,.call {callee:=Callee.value (.func 20),args:=#[.tmp 74,.const (Value.int IntKind.i64 0)],argTypes:=#[29,2]},29,"laws.go:449",#[⟨30,.data⟩,⟨29,.chain⟩,⟨29,.guard⟩],some (29,false)⟩) (fun K hK=>?_)
 go_simp
 go_at_call 20
 refine (HT5.out _ hx8.1).mono ?_
 rintro e q9 ⟨t5,t5c,rfl,ht5,hb9⟩
 try go_wp2_with fail
 have hx9:=LX.below hx8 hb9
 refine hK.out _ _ hx9 (fun _=>?_)
 clear hK K
 try simp only [Act.put,SL]
 refine rd 33 (⟨some 77,.call {callee:=Callee.value (.func 24),args:=#[.tmp 76,.const (Value.int IntKind.i64 0)],argTypes:=#[29,2]},29,"laws.go:449",#[⟨32,.data⟩,⟨31,.chain⟩,⟨29,.guard⟩],some (29,false)⟩) (fun K hK=>?_)
 go_simp
 go_at_call 24
 refine (HT6.out _ hx9.1).mono ?_
 rintro e q10 ⟨t6,t6c,rfl,ht6,hb10⟩
 try go_wp2_with fail
 have hx10:=LX.below hx9 hb10
 refine hK.out _ _ hx10 (fun _=>?_)
 clear hK K
 try simp only [Act.put,SL]
 refine rd 34 (⟨some 78,.call {callee:=Callee.value (.func 23),args:=#[.tmp 75,.tmp 77],argTypes:=#[29,29]},4,"laws.go:449",#[⟨31,.data⟩,⟨33,.data⟩,⟨33,.chain⟩,⟨29,.guard⟩],some (29,false)⟩) (fun K hK=>?_)
 go_simp
 go_at_call 23
 refine (HT7.out _ _ _ _ _ (ht5.below hb10) ht6).mono ?_
 rintro e q11 ⟨rfl,hb11⟩
 try go_wp2_with fail
 have hx11:=LX.below hx10 hb11
 refine hK.out _ _ hx11 (fun _=>?_)
 clear hK K
 try simp only [Act.put,SL]
 refine tk 35 (⟨some 79,.unOp UnOp.not 4 (.tmp 78),4,"laws.go:449",#[⟨34,.data⟩,⟨29,.guard⟩],some (29,false)⟩) ?_
 refine tk 36 (⟨some 80,.pick (.tmp 73) (.const (Value.bool true)) (.tmp 79),4,"laws.go:449",#[⟨29,.data⟩,⟨35,.data⟩],none⟩) ?_
 refine wpAnyH_done (by kernel_rfl) ?_ _
 have HXE:=H_ hx11
 clear hx0 hx1 hx2 hx3 hx4 hx5 hx6 hx7 hx8 hx9 hx10 hx11 hb1 hb2 hb3 hb4 hb5 hb6 hb7 hb8 hb9 hb10 hb11 hso hsd ht5 ht6
 clear HSB7 HLB HSD7 HLL HT1 HT2 HT3 HT4 HT5 HT6 HT7
 have HWE:=H_ HXE.out.1
 by_cases hd:d2=0
 ·subst hd
  have hsd:=HBR.out rfl
  have HLR:Hid (∀W,Below w7.heap.size w7 W→Calls Tryz.prog 27 #[.slice io n1 icp] W fun e w'=>e=.returned (.bool true)∧Below W.heap.size W w'):=H_ (fun W hW=>by
   have e1:=HN1.out
   subst e1
   rw [←sB_yes hsd]
   exact impl_lines _ icp DL W hbl (sr_size hsd) (HI7.out.below hW))
  have z1:q11.cell? ⟨B8,1,none⟩=some (.int .i64 0):=HXE.out.2.2.2.2.2.2
  have z0:q11.cell? ⟨B8,0,none⟩=some (.slice io n1 icp):=HXE.out.2.2.2.2.2.1
  have zl:=HXE.out.2.2.1
  go_wp2_with fail
  refine (HLR.out _ HWE.out).mono ?_
  rintro e r1 ⟨rfl,hb1⟩
  have HW:=H_ (HWE.out.trans (hb1.mono HWE.out.size))
  clear hb1 z0 z1 zl hsd HXE HWE HLR HBR HN1 HI7
  have HW5:=H_ (HB7.out.trans (HW.out.mono HB7.out.size))
  go_wp2_with fail
  refine (HSL.out _ HW5.out).mono ?_
  rintro e r2 ⟨rfl,hb2⟩
  have HW2:=H_ (HW.out.trans (hb2.mono HW.out.size))
  clear hb2 HW5
  by_cases hsr:SRight L
  rotate_left
  ·have hsb:=sB_no hsr
   rw [hsb]
   have hn0:n2=0:=by rw [HN2.out,HDE.out,show drawB cr L=[] from by unfold drawB;rw [hsb];rfl];rfl
   subst hn0
   have HWF:=H_ ((HB.out.trans (HX7.out.1.mono HB.out.size)).trans (HW2.out.mono (HB.out.trans (HX7.out.1.mono HB.out.size)).size))
   clear HN2
   go_wp2_with fail
   go_ret
   exact ⟨rfl,HWF.out⟩
  rw [sB_yes hsr]
  by_cases hc0:cr<0
  ·have hn0:n2=0:=by rw [HN2.out,HDE.out,show drawB cr L=[] from by unfold drawB;rw [decide_eq_false (by omega),Bool.and_false];rfl];rfl
   subst hn0
   have HWF:=H_ ((HB.out.trans (HX7.out.1.mono HB.out.size)).trans (HW2.out.mono (HB.out.trans (HX7.out.1.mono HB.out.size)).size))
   clear HN2
   go_wp2_with fail
   go_ret
   exact ⟨rfl,HWF.out⟩
  by_cases hc9:(1000000000000000:Int)<cr
  ·have hn0:n2=0:=by rw [HN2.out,HDE.out,show drawB cr L=[] from by unfold drawB;rw [decide_eq_false (by omega),Bool.and_false];rfl];rfl
   subst hn0
   have HWF:=H_ ((HB.out.trans (HX7.out.1.mono HB.out.size)).trans (HW2.out.mono (HB.out.trans (HX7.out.1.mono HB.out.size)).size))
   clear HN2
   go_wp2_with fail
   go_ret
   exact ⟨rfl,HWF.out⟩
  have hde:DD=drawL cr L:=by rw [HDE.out];unfold drawB;rw [sB_yes hsr,decide_eq_true (by omega)];rfl
  have hdr:SRight DD:=by rw [hde];exact draw_right hsr (by omega)
  have hs1:=draw_sum (c:=cr) L (by omega)
  have hb1:=sum_bd hsr
  have hb2:=sum_bd hdr
  rw [←hde] at hs1
  have HTD:Hid (∀W,Below w7.heap.size w7 W→Calls Tryz.prog 25 #[.slice do_ n2 dcp] W fun e w'=>e=.returned (.int .i64 (sumL DD))∧Below W.heap.size W w'):=H_ (fun W hW=>by
   have e1:=HN2.out
   have e2:totL DD=sumL DD:=by unfold totL;rw [sB_yes hdr];rfl
   subst e1
   rw [←e2]
   exact impl_total _ dcp DD W hdl HDK.out (HD7.out.below hW))
  have HTL2:Hid (∀W,Below w7.heap.size w7 W→Calls Tryz.prog 25 #[.slice (some ⟨lb,0,none⟩) nl lcp] W fun e w'=>e=.returned (.int .i64 (sumL L))∧Below W.heap.size W w'):=H_ (fun W hW=>by
   have e2:totL L=sumL L:=by unfold totL;rw [sB_yes hsr];rfl
   rw [←e2]
   exact HTL.out W (HB7.out.trans (hW.mono HB7.out.size)))
  have HDR2:Hid (∀W,Below w7.heap.size w7 W→Calls Tryz.prog 27 #[.slice do_ n2 dcp] W fun e w'=>e=.returned (.bool true)∧Below W.heap.size W w'):=H_ (fun W hW=>by
   have e1:=HN2.out
   subst e1
   rw [←sB_yes hdr]
   exact impl_lines _ dcp DD W hdl HDK.out (HD7.out.below hW))
  have HFD:Hid (∀k,k<nl→(L.getD k N.zero).n<0→∀W,Below w7.heap.size w7 W→Calls Tryz.prog 29 #[.slice do_ n2 dcp,.agg #[.string (L.getD k N.zero).i,.int .i64 (L.getD k N.zero).n]] W fun e w'=>e=.returned (.bool true)∧Below W.heap.size W w'):=H_ (fun k hk hn W hW=>by
   have e1:=HN2.out
   subst e1
   exact LedR.lwFound_any do_ dcp DD _ W hdl (by rw [hde];exact draw_found (by omega) (by have:=HNL.out;omega) hn) (HD7.out.below hW))
  have HID9:Hid (∀W,Below w7.heap.size w7 W→Calls Tryz.prog 20 #[.slice (some ⟨lb,0,none⟩) nl lcp,.int .i64 0] W fun e w'=>∃ao cap,e=.returned (.slice ao nl cap)∧Lis ao L w'∧Below W.heap.size W w'):=H_ (fun W hW=>by
   have e1:drawB 0 L=L:=by unfold drawB;rw [sB_yes hsr,decide_eq_true (by omega)];exact draw_zero hsr
   have h:=HID0.out W (HB7.out.trans (hW.mono HB7.out.size))
   rw [e1] at h
   refine h.mono ?_
   rintro e w' ⟨ao,cap,rfl,hm,hb⟩
   have e2:=HNL.out
   subst e2
   exact ⟨ao,cap,rfl,hm.rws,hb⟩)
  have HLL9:Hid (∀ao cap W,Below w7.heap.size w7 W→Lis ao L W→Calls Tryz.prog 23 #[.slice ao nl cap,.slice (some ⟨lb,0,none⟩) nl lcp] W fun e w'=>e=.returned (.bool true)∧Below W.heap.size W w'):=H_ (fun ao cap W hW hs=>by
   have e2:=HNL.out
   subst e2
   exact LedR.lwLi_any ao _ cap lcp L W (by omega) hs (HLI.out.below (HB7.out.trans (hW.mono HB7.out.size))))
  have HL7:=H_ (HLI.out.below HB7.out)
  generalize sumL L=s1 at *
  generalize sumL DD=s2 at *
  clear HDE HN2 HDK HD7 HTL HSL HID0 hde hdr HKN
  go_wp2_with fail
  refine (HTL2.out _ HW2.out).mono ?_
  rintro e r3 ⟨rfl,hb3⟩
  have HW3:=H_ (HW2.out.trans (hb3.mono HW2.out.size))
  clear hb3 HW2
  go_wp2_with fail
  refine (HTD.out _ HW3.out).mono ?_
  rintro e r4 ⟨rfl,hb4⟩
  have HW4:=H_ (HW3.out.trans (hb4.mono HW3.out.size))
  clear hb4 HW3 HTD HTL2
  go_wp2_with fail
  go_loopw [15] (fun z wr=>∃k:Nat,k≤nl∧z=.int .i64 k∧Hid (Below w7.heap.size w7 wr)) (fun z _=>nl-(intOf z).toNat)
  case atStart=>exact ⟨0,by omega,rfl,HW4⟩
  case round =>
   obtain ⟨k,hk,rfl,HWr⟩:=hrel
   by_cases hlt:k<nl
   ·have hlt2:(k:Int)<(nl:Int):=by omega
    obtain ⟨b,off,hbo,hbl,c0,c1⟩:=(HL7.out.below HWr.out).at k (by have:=HNL.out;omega)
    simp only [Option.some.injEq,Addr.mk.injEq,and_true] at hbo
    obtain ⟨rfl,rfl⟩:=hbo
    have HFK:=H_ (HFD.out k hlt)
    generalize L.getD k N.zero=X at *
    obtain ⟨xi,xn⟩:=X
    dsimp only at c0 c1 HFK
    simp only [Nat.zero_add] at c0 c1
    by_cases hx:xn<0
    ·replace HFK:=H_ (HFK.out hx)
     go_wp2_with fail
     refine (HFK.out _ HWr.out).mono ?_
     rintro e r5 ⟨rfl,hb5⟩
     have HW6:=H_ (HWr.out.trans (hb5.mono HWr.out.size))
     clear hb5
     go_wp2_with fail
     go_roundw
     case rel=>exact ⟨k+1,by omega,by go_num,HW6⟩
     case measure=>simp [intOf];omega
    ·go_wp2_with fail
     go_roundw
     case rel=>exact ⟨k+1,by omega,by go_num,HWr⟩
     case measure=>simp [intOf];omega
   ·have hlt2:¬(k:Int)<(nl:Int):=by omega
    go_wp2_with fail
    have hw1:IntKind.i64.wrap (s1-s2)=s1-s2:=IntWalk.i64_in _ ⟨by omega,by omega⟩
    have hw2:wrap64 (s1-s2)=s1-s2:=by unfold wrap64;omega
    have hw3:s2≤s1:=hs1.1
    have hw4:s1-s2≤cr:=hs1.2
    refine (HID9.out _ HWr.out).mono ?_
    rintro e q1 ⟨p9,p9c,rfl,hp9,hz1⟩
    have HY1:=H_ (HWr.out.trans (hz1.mono HWr.out.size))
    have HLW:=H_ (HLL9.out p9 p9c q1 HY1.out hp9)
    clear hz1 hp9
    go_wp2_with fail
    refine HLW.out.mono ?_
    rintro e q2 ⟨rfl,hz2⟩
    have HY2:=H_ (HY1.out.trans (hz2.mono HY1.out.size))
    clear hz2 HY1 HLW
    go_wp2_with fail
    refine (HDR2.out _ HY2.out).mono ?_
    rintro e q3 ⟨rfl,hz3⟩
    have HY3:=H_ (HY2.out.trans (hz3.mono HY2.out.size))
    clear hz3 HY2
    have hwf:=(HB.out.trans (HX7.out.1.mono HB.out.size))
    have HWF:=H_ (hwf.trans (HY3.out.mono hwf.size))
    clear hwf
    go_wp2_with fail
    go_ret
    exact ⟨rfl,HWF.out⟩
 have z1:q11.cell? ⟨B8,1,none⟩=some (.int .i64 d2):=HXE.out.2.2.2.2.2.2
 have zl:=HXE.out.2.2.1
 have HW:=HWE
 clear z1 zl HXE HWE HBR HN1 HI7
 have HW5:=H_ (HB7.out.trans (HW.out.mono HB7.out.size))
 go_wp2_with fail
 refine (HSL.out _ HW5.out).mono ?_
 rintro e r2 ⟨rfl,hb2⟩
 have HW2:=H_ (HW.out.trans (hb2.mono HW.out.size))
 clear hb2 HW5
 by_cases hsr:SRight L
 rotate_left
 ·have hsb:=sB_no hsr
  rw [hsb]
  have hn0:n2=0:=by rw [HN2.out,HDE.out,show drawB cr L=[] from by unfold drawB;rw [hsb];rfl];rfl
  subst hn0
  have HWF:=H_ ((HB.out.trans (HX7.out.1.mono HB.out.size)).trans (HW2.out.mono (HB.out.trans (HX7.out.1.mono HB.out.size)).size))
  clear HN2
  go_wp2_with fail
  go_ret
  exact ⟨rfl,HWF.out⟩
 rw [sB_yes hsr]
 by_cases hc0:cr<0
 ·have hn0:n2=0:=by rw [HN2.out,HDE.out,show drawB cr L=[] from by unfold drawB;rw [decide_eq_false (by omega),Bool.and_false];rfl];rfl
  subst hn0
  have HWF:=H_ ((HB.out.trans (HX7.out.1.mono HB.out.size)).trans (HW2.out.mono (HB.out.trans (HX7.out.1.mono HB.out.size)).size))
  clear HN2
  go_wp2_with fail
  go_ret
  exact ⟨rfl,HWF.out⟩
 by_cases hc9:(1000000000000000:Int)<cr
 ·have hn0:n2=0:=by rw [HN2.out,HDE.out,show drawB cr L=[] from by unfold drawB;rw [decide_eq_false (by omega),Bool.and_false];rfl];rfl
  subst hn0
  have HWF:=H_ ((HB.out.trans (HX7.out.1.mono HB.out.size)).trans (HW2.out.mono (HB.out.trans (HX7.out.1.mono HB.out.size)).size))
  clear HN2
  go_wp2_with fail
  go_ret
  exact ⟨rfl,HWF.out⟩
 have hde:DD=drawL cr L:=by rw [HDE.out];unfold drawB;rw [sB_yes hsr,decide_eq_true (by omega)];rfl
 have hdr:SRight DD:=by rw [hde];exact draw_right hsr (by omega)
 have hs1:=draw_sum (c:=cr) L (by omega)
 have hb1:=sum_bd hsr
 have hb2:=sum_bd hdr
 rw [←hde] at hs1
 have HTD:Hid (∀W,Below w7.heap.size w7 W→Calls Tryz.prog 25 #[.slice do_ n2 dcp] W fun e w'=>e=.returned (.int .i64 (sumL DD))∧Below W.heap.size W w'):=H_ (fun W hW=>by
  have e1:=HN2.out
  have e2:totL DD=sumL DD:=by unfold totL;rw [sB_yes hdr];rfl
  subst e1
  rw [←e2]
  exact impl_total _ dcp DD W hdl HDK.out (HD7.out.below hW))
 have HTL2:Hid (∀W,Below w7.heap.size w7 W→Calls Tryz.prog 25 #[.slice (some ⟨lb,0,none⟩) nl lcp] W fun e w'=>e=.returned (.int .i64 (sumL L))∧Below W.heap.size W w'):=H_ (fun W hW=>by
  have e2:totL L=sumL L:=by unfold totL;rw [sB_yes hsr];rfl
  rw [←e2]
  exact HTL.out W (HB7.out.trans (hW.mono HB7.out.size)))
 have HDR2:Hid (∀W,Below w7.heap.size w7 W→Calls Tryz.prog 27 #[.slice do_ n2 dcp] W fun e w'=>e=.returned (.bool true)∧Below W.heap.size W w'):=H_ (fun W hW=>by
  have e1:=HN2.out
  subst e1
  rw [←sB_yes hdr]
  exact impl_lines _ dcp DD W hdl HDK.out (HD7.out.below hW))
 have HFD:Hid (∀k,k<nl→(L.getD k N.zero).n<0→∀W,Below w7.heap.size w7 W→Calls Tryz.prog 29 #[.slice do_ n2 dcp,.agg #[.string (L.getD k N.zero).i,.int .i64 (L.getD k N.zero).n]] W fun e w'=>e=.returned (.bool true)∧Below W.heap.size W w'):=H_ (fun k hk hn W hW=>by
  have e1:=HN2.out
  subst e1
  exact LedR.lwFound_any do_ dcp DD _ W hdl (by rw [hde];exact draw_found (by omega) (by have:=HNL.out;omega) hn) (HD7.out.below hW))
 have HID9:Hid (∀W,Below w7.heap.size w7 W→Calls Tryz.prog 20 #[.slice (some ⟨lb,0,none⟩) nl lcp,.int .i64 0] W fun e w'=>∃ao cap,e=.returned (.slice ao nl cap)∧Lis ao L w'∧Below W.heap.size W w'):=H_ (fun W hW=>by
  have e1:drawB 0 L=L:=by unfold drawB;rw [sB_yes hsr,decide_eq_true (by omega)];exact draw_zero hsr
  have h:=HID0.out W (HB7.out.trans (hW.mono HB7.out.size))
  rw [e1] at h
  refine h.mono ?_
  rintro e w' ⟨ao,cap,rfl,hm,hb⟩
  have e2:=HNL.out
  subst e2
  exact ⟨ao,cap,rfl,hm.rws,hb⟩)
 have HLL9:Hid (∀ao cap W,Below w7.heap.size w7 W→Lis ao L W→Calls Tryz.prog 23 #[.slice ao nl cap,.slice (some ⟨lb,0,none⟩) nl lcp] W fun e w'=>e=.returned (.bool true)∧Below W.heap.size W w'):=H_ (fun ao cap W hW hs=>by
  have e2:=HNL.out
  subst e2
  exact LedR.lwLi_any ao _ cap lcp L W (by omega) hs (HLI.out.below (HB7.out.trans (hW.mono HB7.out.size))))
 have HL7:=H_ (HLI.out.below HB7.out)
 generalize sumL L=s1 at *
 generalize sumL DD=s2 at *
 clear HDE HN2 HDK HD7 HTL HSL HID0 hde hdr HKN
 go_wp2_with fail
 refine (HTL2.out _ HW2.out).mono ?_
 rintro e r3 ⟨rfl,hb3⟩
 have HW3:=H_ (HW2.out.trans (hb3.mono HW2.out.size))
 clear hb3 HW2
 go_wp2_with fail
 refine (HTD.out _ HW3.out).mono ?_
 rintro e r4 ⟨rfl,hb4⟩
 have HW4:=H_ (HW3.out.trans (hb4.mono HW3.out.size))
 clear hb4 HW3 HTD HTL2
 go_wp2_with fail
 go_loopw [15] (fun z wr=>∃k:Nat,k≤nl∧z=.int .i64 k∧Hid (Below w7.heap.size w7 wr)) (fun z _=>nl-(intOf z).toNat)
 case atStart=>exact ⟨0,by omega,rfl,HW4⟩
 case round =>
  obtain ⟨k,hk,rfl,HWr⟩:=hrel
  by_cases hlt:k<nl
  ·have hlt2:(k:Int)<(nl:Int):=by omega
   obtain ⟨b,off,hbo,hbl,c0,c1⟩:=(HL7.out.below HWr.out).at k (by have:=HNL.out;omega)
   simp only [Option.some.injEq,Addr.mk.injEq,and_true] at hbo
   obtain ⟨rfl,rfl⟩:=hbo
   have HFK:=H_ (HFD.out k hlt)
   generalize L.getD k N.zero=X at *
   obtain ⟨xi,xn⟩:=X
   dsimp only at c0 c1 HFK
   simp only [Nat.zero_add] at c0 c1
   by_cases hx:xn<0
   ·replace HFK:=H_ (HFK.out hx)
    go_wp2_with fail
    refine (HFK.out _ HWr.out).mono ?_
    rintro e r5 ⟨rfl,hb5⟩
    have HW6:=H_ (HWr.out.trans (hb5.mono HWr.out.size))
    clear hb5
    go_wp2_with fail
    go_roundw
    case rel=>exact ⟨k+1,by omega,by go_num,HW6⟩
    case measure=>simp [intOf];omega
   ·go_wp2_with fail
    go_roundw
    case rel=>exact ⟨k+1,by omega,by go_num,HWr⟩
    case measure=>simp [intOf];omega
  ·have hlt2:¬(k:Int)<(nl:Int):=by omega
   go_wp2_with fail
   have hw1:IntKind.i64.wrap (s1-s2)=s1-s2:=IntWalk.i64_in _ ⟨by omega,by omega⟩
   have hw2:wrap64 (s1-s2)=s1-s2:=by unfold wrap64;omega
   have hw3:s2≤s1:=hs1.1
   have hw4:s1-s2≤cr:=hs1.2
   refine (HID9.out _ HWr.out).mono ?_
   rintro e q1 ⟨p9,p9c,rfl,hp9,hz1⟩
   have HY1:=H_ (HWr.out.trans (hz1.mono HWr.out.size))
   have HLW:=H_ (HLL9.out p9 p9c q1 HY1.out hp9)
   clear hz1 hp9
   go_wp2_with fail
   refine HLW.out.mono ?_
   rintro e q2 ⟨rfl,hz2⟩
   have HY2:=H_ (HY1.out.trans (hz2.mono HY1.out.size))
   clear hz2 HY1 HLW
   go_wp2_with fail
   refine (HDR2.out _ HY2.out).mono ?_
   rintro e q3 ⟨rfl,hz3⟩
   have HY3:=H_ (HY2.out.trans (hz3.mono HY2.out.size))
   clear hz3 HY2
   have hwf:=(HB.out.trans (HX7.out.1.mono HB.out.size))
   have HWF:=H_ (hwf.trans (HY3.out.mono hwf.size))
   clear hwf
   go_wp2_with fail
   go_ret
   exact ⟨rfl,HWF.out⟩
end BillLaw
end Go.Proofs.YtcilbmhkhllmjaaGreatDoor
