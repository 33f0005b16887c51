/-
  FnJoin: for every two lists of bytes that are drawn from the law's call returns true: two drawn windows joined are the same either way and what the model says; three are the same however they are joined; what all together used is no less than what each did and no more than what both did. The conditions: at most 1048576 bytes to draw from; the program's own variable holds what its text lays.
-/
import Derived.Deep.RegionHeld3
import Derived.Test.YteejpnkmnmoebaaDoorJ22
namespace Go.Proofs.YteejpnkmnmoebaaDoor
open Go.ChangeShapes Go.WideShapes Go.ChangeAt Go.RowKit
set_option linter.unusedVariables false
set_option linter.unusedSimpArgs false
namespace JoinLaw
open DrawR
open WinR (Wd Sm wcells ocells WdP Two JR jr_ex jr_comm jr_ok jr_no jr_right jr_assoc jr_sm jr_val sm_two impl_jr impl_jp WdB WdX spec_jr lwWs_any impl_value spec_value valueV wB impl_window_right spec_window_right Tgs Hrs)
open CatR (Blk Blk.new)
open DateR (Laid)
def CC (b:Nat):Nat→List Value→World→Prop
 | _,[],_=>True
 | o,v::l,W=>W.cell? ⟨b,o,none⟩=some v∧CC b (o+1) l W
theorem cc_of {b:Nat} {W:World}:∀(l:List Value) (o:Nat),(∀i,i<l.length→W.cell? ⟨b,o+i,none⟩=l[i]?)→CC b o l W
 | [],_,_=>trivial
 | v::l,o,h=>⟨by simpa using h 0 (by simp),cc_of l (o+1) (fun i hi=>by
  have:=h (i+1) (by simpa using hi)
  rw [show o+1+i=o+(i+1) by omega]
  simpa using this)⟩
theorem cc_below {b:Nat} {W W':World} (hb:Below W.heap.size W W') (hl:b<W.heap.size):∀(l:List Value) (o:Nat),CC b o l W→CC b o l W'
 | [],_,_=>trivial
 | _::l,o,h=>⟨(hb.cell (p:=⟨b,o,none⟩) hl).trans h.1,cc_below hb hl l (o+1) h.2⟩
theorem cc_blk {b:Nat} {l:List Value} {W:World} (h:Blk b l W):CC b 0 l W:=cc_of l 0 (fun i hi=>by rw [Nat.zero_add];exact h.2 i hi)
def JX (wb:World) (B5 B6 B9 B10:Nat) (A B Z V:List Value) (W:World):Prop:=Below wb.heap.size wb W∧B5<W.heap.size∧B6<W.heap.size∧B9<W.heap.size∧B10<W.heap.size∧CC B5 0 A W∧CC B6 0 B W∧CC B9 0 Z W∧CC B10 0 V W
theorem JX.below {wb:World} {B5 B6 B9 B10:Nat} {A B Z V:List Value} {W W':World} (h:JX wb B5 B6 B9 B10 A B Z V W) (hb:Below W.heap.size W W'):JX wb B5 B6 B9 B10 A B Z V W':=by
 obtain ⟨h0,l1,l2,l3,l4,c1,c2,c3,c4⟩:=h
 have:=hb.size
 exact ⟨h0.trans (hb.mono h0.size),by omega,by omega,by omega,by omega,cc_below hb l1 _ _ c1,cc_below hb l2 _ _ c2,cc_below hb l3 _ _ c3,cc_below hb l4 _ _ c4⟩
theorem cc_far {b g:Nat} {W W':World} (hg:W.grownBy W' (some g)) (hl:b<W.heap.size) (hne:b≠g):∀(l:List Value) (o:Nat),CC b o l W→CC b o l W'
 | [],_,_=>trivial
 | _::l,o,h=>⟨(World.cell?_of_block (a:=⟨b,o,none⟩) (hg.block b hl (by simpa using hne))).trans h.1,cc_far hg hl hne l (o+1) h.2⟩
theorem JX.far {wb:World} {B5 B6 B9 B10 g:Nat} {A B Z V:List Value} {W W':World} (h:JX wb B5 B6 B9 B10 A B Z V W) (hg:W.grownBy W' (some g)) (hlo:wb.heap.size≤g) (a5:B5<wb.heap.size) (a6:B6<wb.heap.size) (a9:B9<wb.heap.size) (a10:B10<wb.heap.size):JX wb B5 B6 B9 B10 A B Z V W':=by
 obtain ⟨h0,l1,l2,l3,l4,c1,c2,c3,c4⟩:=h
 have:=hg.size
 exact ⟨h0.grown hg h0.size (fun k e=>by cases e;exact hlo),by omega,by omega,by omega,by omega,cc_far hg l1 (by omega) _ _ c1,cc_far hg l2 (by omega) _ _ c2,cc_far hg l3 (by omega) _ _ c3,cc_far hg l4 (by omega) _ _ c4⟩
set_option maxRecDepth 100000 in
set_option maxHeartbeats 16000000 in
theorem law_in (w:World) (a0 a1:Option Addr) (len0 cap0 len1 cap1:Nat) (h0:len0≤1048576) (h1:len1≤1048576) (hB0:Bytes a0 len0 w) (hB1:Bytes a1 len1 w) (hL:Laid w) :
 Calls Tryd.prog 3 #[.slice a0 len0 cap0,.slice a1 len1 cap1] w fun e w'=>e=.returned (.bool true)∧Below w.heap.size w w':=by
 have q0:¬(1048576:Int)<(len0:Int):=by omega
 have q1:¬(1048576:Int)<(len1:Int):=by omega
 have HD0:=H_ (djn_any a0 len0 cap0 w h0 hB0)
 have HD1:=H_ (fun W (hb:Below w.heap.size w W)=>djn_any a1 len1 cap1 W h1 (hB1.below hb))
 have HD2:=H_ (fun W (hb:Below w.heap.size w W)=>dva_any a1 len1 cap1 W h1 (hB1.below hb))
 have HLY:=H_ hL
 clear hB0 hB1 hL h0 h1
 go_enter Tryd.func3,Tryd.ntmps3
 go_wp2_with fail
 refine HD0.out.mono ?_
 rintro e w1 ⟨⟨a,b,at0,atc,ah,ahc,bt,btc,bh,bhc,rfl,sa,sb,pa,pb⟩,hb1⟩
 obtain ⟨an,hna⟩:∃q,q=a.ts.length:=⟨_,rfl⟩
 obtain ⟨ak,hka⟩:∃q,q=a.hs.length:=⟨_,rfl⟩
 obtain ⟨bn,hnb⟩:∃q,q=b.ts.length:=⟨_,rfl⟩
 obtain ⟨bk,hkb⟩:∃q,q=b.hs.length:=⟨_,rfl⟩
 unfold wcells
 rw [←hna,←hka,←hnb,←hkb]
 have HSA:=H_ sa
 have HSB:=H_ sb
 have HPA:=H_ pa
 have HPB:=H_ pb
 have HB1:=H_ hb1
 have HNA:=H_ hna
 have HKA:=H_ hka
 have HNB:=H_ hnb
 have HKB:=H_ hkb
 clear sa sb pa pb hb1 hna hka hnb hkb HD0
 go_wp2_with fail
 obtain ⟨B5,hB5⟩:∃q,q=w1.heap.size:=⟨_,rfl⟩
 obtain ⟨B6,hB6⟩:∃q,q=w1.heap.size+1:=⟨_,rfl⟩
 obtain ⟨w2,hw⟩:∃q,q=(w1.alloc (.cells #[.string a.a,.string a.m,.int .i64 a.mo,.int .i64 a.ev,.int .i64 a.su,.int .i64 a.mx,.slice at0 an atc,.slice ah ak ahc] 26)).alloc (.cells #[.string b.a,.string b.m,.int .i64 b.mo,.int .i64 b.ev,.int .i64 b.su,.int .i64 b.mx,.slice bt bn btc,.slice bh bk bhc] 26):=⟨_,rfl⟩
 have hal:Below w1.heap.size w1 w2:=by rw [hw];exact ((Below.refl _ _).alloc (Nat.le_refl _) _).alloc (by simp) _
 have HXB5:Hid (Blk B5 [.string a.a,.string a.m,.int .i64 a.mo,.int .i64 a.ev,.int .i64 a.su,.int .i64 a.mx,.slice at0 an atc,.slice ah ak ahc] w2):=H_ (by rw [hB5,hw];exact (Blk.new w1 [.string a.a,.string a.m,.int .i64 a.mo,.int .i64 a.ev,.int .i64 a.su,.int .i64 a.mx,.slice at0 an atc,.slice ah ak ahc] _).below ((Below.refl _ _).alloc (Nat.le_refl _) _))
 have HXB6:Hid (Blk B6 [.string b.a,.string b.m,.int .i64 b.mo,.int .i64 b.ev,.int .i64 b.su,.int .i64 b.mx,.slice bt bn btc,.slice bh bk bhc] w2):=H_ (by rw [hB6,hw];simpa using Blk.new (w1.alloc (.cells #[.string a.a,.string a.m,.int .i64 a.mo,.int .i64 a.ev,.int .i64 a.su,.int .i64 a.mx,.slice at0 an atc,.slice ah ak ahc] 26)) [.string b.a,.string b.m,.int .i64 b.mo,.int .i64 b.ev,.int .i64 b.su,.int .i64 b.mx,.slice bt bn btc,.slice bh bk bhc] 26)
 have HAw2:=H_ hal
 rw [←hB6,←hB5,←hw]
 clear hal hw hB5 hB6
 have HB2:=H_ (HB1.out.trans (HAw2.out.mono HB1.out.size))
 refine (HD1.out _ HB2.out).mono ?_
 rintro e w3 ⟨⟨c,d,ct,ctc,ch,chc,dt,dtc,dh,dhc,rfl,sc,sd,pc,pd⟩,hb3⟩
 obtain ⟨cn,hnc⟩:∃q,q=c.ts.length:=⟨_,rfl⟩
 obtain ⟨ck,hkc⟩:∃q,q=c.hs.length:=⟨_,rfl⟩
 obtain ⟨dn,hnd⟩:∃q,q=d.ts.length:=⟨_,rfl⟩
 obtain ⟨dk,hkd⟩:∃q,q=d.hs.length:=⟨_,rfl⟩
 unfold wcells
 rw [←hnc,←hkc,←hnd,←hkd]
 have HSC:=H_ sc
 have HPC:=H_ pc
 have HA3:=H_ hb3
 have HB3:=H_ (HB2.out.trans (hb3.mono HB2.out.size))
 have HNC:=H_ hnc
 have HKC:=H_ hkc
 clear sc sd pc pd hnc hkc hnd hkd HD1 HB1 HB2
 replace HXB5:=H_ (HXB5.out.below hb3)
 replace HXB6:=H_ (HXB6.out.below hb3)
 clear hb3
 have u0:w3.cell? ⟨B5,0,none⟩=some (.string a.a):=HXB5.out.2 0 (by simp)
 have u1:w3.cell? ⟨B5,1,none⟩=some (.string a.m):=HXB5.out.2 1 (by simp)
 have u2:w3.cell? ⟨B5,2,none⟩=some (.int .i64 a.mo):=HXB5.out.2 2 (by simp)
 have u3:w3.cell? ⟨B5,3,none⟩=some (.int .i64 a.ev):=HXB5.out.2 3 (by simp)
 have u4:w3.cell? ⟨B5,4,none⟩=some (.int .i64 a.su):=HXB5.out.2 4 (by simp)
 have u5:w3.cell? ⟨B5,5,none⟩=some (.int .i64 a.mx):=HXB5.out.2 5 (by simp)
 have u6:w3.cell? ⟨B5,6,none⟩=some (.slice at0 an atc):=HXB5.out.2 6 (by simp)
 have u7:w3.cell? ⟨B5,7,none⟩=some (.slice ah ak ahc):=HXB5.out.2 7 (by simp)
 have ul:=HXB5.out.1
 have v0:w3.cell? ⟨B6,0,none⟩=some (.string b.a):=HXB6.out.2 0 (by simp)
 have v1:w3.cell? ⟨B6,1,none⟩=some (.string b.m):=HXB6.out.2 1 (by simp)
 have v2:w3.cell? ⟨B6,2,none⟩=some (.int .i64 b.mo):=HXB6.out.2 2 (by simp)
 have v3:w3.cell? ⟨B6,3,none⟩=some (.int .i64 b.ev):=HXB6.out.2 3 (by simp)
 have v4:w3.cell? ⟨B6,4,none⟩=some (.int .i64 b.su):=HXB6.out.2 4 (by simp)
 have v5:w3.cell? ⟨B6,5,none⟩=some (.int .i64 b.mx):=HXB6.out.2 5 (by simp)
 have v6:w3.cell? ⟨B6,6,none⟩=some (.slice bt bn btc):=HXB6.out.2 6 (by simp)
 have v7:w3.cell? ⟨B6,7,none⟩=some (.slice bh bk bhc):=HXB6.out.2 7 (by simp)
 have vl:=HXB6.out.1
 go_wp2_with fail
 clear u0 u1 u2 u3 u4 u5 u6 u7 ul v0 v1 v2 v3 v4 v5 v6 v7 vl
 obtain ⟨B7,hB7⟩:∃q,q=w3.heap.size:=⟨_,rfl⟩
 obtain ⟨B8,hB8⟩:∃q,q=w3.heap.size+1:=⟨_,rfl⟩
 obtain ⟨w4,hw⟩:∃q,q=(w3.alloc (.cells #[.string c.a,.string c.m,.int .i64 c.mo,.int .i64 c.ev,.int .i64 c.su,.int .i64 c.mx,.slice ct cn ctc,.slice ch ck chc] 26)).alloc (.cells #[.string d.a,.string d.m,.int .i64 d.mo,.int .i64 d.ev,.int .i64 d.su,.int .i64 d.mx,.slice dt dn dtc,.slice dh dk dhc] 26):=⟨_,rfl⟩
 have hal:Below w3.heap.size w3 w4:=by rw [hw];exact ((Below.refl _ _).alloc (Nat.le_refl _) _).alloc (by simp) _
 have HXB7:Hid (Blk B7 [.string c.a,.string c.m,.int .i64 c.mo,.int .i64 c.ev,.int .i64 c.su,.int .i64 c.mx,.slice ct cn ctc,.slice ch ck chc] w4):=H_ (by rw [hB7,hw];exact (Blk.new w3 [.string c.a,.string c.m,.int .i64 c.mo,.int .i64 c.ev,.int .i64 c.su,.int .i64 c.mx,.slice ct cn ctc,.slice ch ck chc] _).below ((Below.refl _ _).alloc (Nat.le_refl _) _))
 have HXB8:Hid (Blk B8 [.string d.a,.string d.m,.int .i64 d.mo,.int .i64 d.ev,.int .i64 d.su,.int .i64 d.mx,.slice dt dn dtc,.slice dh dk dhc] w4):=H_ (by rw [hB8,hw];simpa using Blk.new (w3.alloc (.cells #[.string c.a,.string c.m,.int .i64 c.mo,.int .i64 c.ev,.int .i64 c.su,.int .i64 c.mx,.slice ct cn ctc,.slice ch ck chc] 26)) [.string d.a,.string d.m,.int .i64 d.mo,.int .i64 d.ev,.int .i64 d.su,.int .i64 d.mx,.slice dt dn dtc,.slice dh dk dhc] 26)
 have HAw4:=H_ hal
 rw [←hB8,←hB7,←hw]
 clear hal hw hB7 hB8
 have HU:Hid (Below w1.heap.size w1 w4):=H_ ((HAw2.out.trans (HA3.out.mono HAw2.out.size)).trans (HAw4.out.mono (HAw2.out.trans (HA3.out.mono HAw2.out.size)).size))
 replace HXB5:=H_ (HXB5.out.below HAw4.out)
 replace HXB6:=H_ (HXB6.out.below HAw4.out)
 replace HPA:=H_ (HPA.out.below HU.out)
 replace HPB:=H_ (HPB.out.below HU.out)
 replace HPC:=H_ (HPC.out.below HAw4.out)
 have HB4:=H_ (HB3.out.trans (HAw4.out.mono HB3.out.size))
 have HL4:=H_ (HLY.out.below HB4.out)
 clear HU HAw2 HAw4 HA3 HB3 HXB8
 obtain ⟨z,cd,hj⟩:=jr_ex a b
 have HJ:=H_ hj
 have HSZ:=H_ (jr_sm HSA.out HSB.out hj)
 clear hj
 have HJX:Hid (∀W,Below w4.heap.size w4 W→Calls Tryd.prog 5 #[.agg #[.string a.a,.string a.m,.int .i64 a.mo,.int .i64 a.ev,.int .i64 a.su,.int .i64 a.mx,.slice at0 an atc,.slice ah ak ahc],.agg #[.string b.a,.string b.m,.int .i64 b.mo,.int .i64 b.ev,.int .i64 b.su,.int .i64 b.mx,.slice bt bn btc,.slice bh bk bhc]] W fun e w'=>∃ta tc ha hc,e=.returned (.agg (ocells z ta tc ha hc cd))∧WdP z ta tc ha hc w'∧Below W.heap.size W w'):=H_ (fun W hW=>by
  have e1:=HNA.out;have e2:=HKA.out;have e3:=HNB.out;have e4:=HKB.out
  subst e1 e2 e3 e4
  exact impl_jp HJ.out W (sm_two HSA.out HSB.out) (HL4.out.below hW) (HPA.out.below hW) (HPB.out.below hW))
 have HJY:Hid (∀W,Below w4.heap.size w4 W→Calls Tryd.prog 5 #[.agg #[.string b.a,.string b.m,.int .i64 b.mo,.int .i64 b.ev,.int .i64 b.su,.int .i64 b.mx,.slice bt bn btc,.slice bh bk bhc],.agg #[.string a.a,.string a.m,.int .i64 a.mo,.int .i64 a.ev,.int .i64 a.su,.int .i64 a.mx,.slice at0 an atc,.slice ah ak ahc]] W fun e w'=>∃ta tc ha hc,e=.returned (.agg (ocells z ta tc ha hc cd))∧WdP z ta tc ha hc w'∧Below W.heap.size W w'):=H_ (fun W hW=>by
  have e1:=HNA.out;have e2:=HKA.out;have e3:=HNB.out;have e4:=HKB.out
  subst e1 e2 e3 e4
  exact impl_jp (jr_comm HJ.out) W (sm_two HSB.out HSA.out) (HL4.out.below hW) (HPB.out.below hW) (HPA.out.below hW))
 have HJS:Hid (∀W,Below w4.heap.size w4 W→Calls Tryd.prog 8 #[.agg #[.string a.a,.string a.m,.int .i64 a.mo,.int .i64 a.ev,.int .i64 a.su,.int .i64 a.mx,.slice at0 an atc,.slice ah ak ahc],.agg #[.string b.a,.string b.m,.int .i64 b.mo,.int .i64 b.ev,.int .i64 b.su,.int .i64 b.mx,.slice bt bn btc,.slice bh bk bhc]] W fun e w'=>∃ta tc ha hc,e=.returned (.agg (ocells z ta tc ha hc cd))∧Tgs ta z.ts w'∧Hrs ha z.hs w'∧Below W.heap.size W w'):=H_ (fun W hW=>by
  have e1:=HNA.out;have e2:=HKA.out;have e3:=HNB.out;have e4:=HKB.out
  subst e1 e2 e3 e4
  exact spec_jr HJ.out W (sm_two HSA.out HSB.out) (HPA.out.below hW) (HPB.out.below hW))
 have HVA:Hid (∀g W,Below w4.heap.size w4 W→Calls Tryd.prog 9 #[.agg #[.string a.a,.string a.m,.int .i64 a.mo,.int .i64 a.ev,.int .i64 a.su,.int .i64 a.mx,.slice at0 an atc,.slice ah ak ahc],.int .i64 g] W fun e w'=>e=.returned (.int .i64 (valueV a g))∧Below W.heap.size W w'):=H_ (fun g W hW=>by
  have e1:=HNA.out;have e2:=HKA.out
  subst e1 e2
  have hs:=HSA.out.small (by omega)
  exact impl_value a g at0 atc ah ahc W hs.1 hs.2.1 hs.2.2.1 hs.2.2.2.1 hs.2.2.2.2 (HL4.out.below hW) (HPA.out.below hW).tg (HPA.out.below hW).hr)
 have HVB:Hid (∀g W,Below w4.heap.size w4 W→Calls Tryd.prog 9 #[.agg #[.string b.a,.string b.m,.int .i64 b.mo,.int .i64 b.ev,.int .i64 b.su,.int .i64 b.mx,.slice bt bn btc,.slice bh bk bhc],.int .i64 g] W fun e w'=>e=.returned (.int .i64 (valueV b g))∧Below W.heap.size W w'):=H_ (fun g W hW=>by
  have e1:=HNB.out;have e2:=HKB.out
  subst e1 e2
  have hs:=HSB.out.small (by omega)
  exact impl_value b g bt btc bh bhc W hs.1 hs.2.1 hs.2.2.1 hs.2.2.2.1 hs.2.2.2.2 (HL4.out.below hW) (HPB.out.below hW).tg (HPB.out.below hW).hr)
 refine (HJX.out _ (Below.refl _ _)).mono ?_
 rintro e w5 ⟨zt,ztc,zh,zhc,rfl,pz,hb5⟩
 obtain ⟨zn,hnz⟩:∃q,q=z.ts.length:=⟨_,rfl⟩
 obtain ⟨zk,hkz⟩:∃q,q=z.hs.length:=⟨_,rfl⟩
 unfold ocells
 rw [←hnz,←hkz]
 have HNZ:=H_ hnz
 have HKZ:=H_ hkz
 have HPZ:=H_ pz
 replace HXB5:=H_ (HXB5.out.below hb5)
 replace HXB6:=H_ (HXB6.out.below hb5)
 replace HXB7:=H_ (HXB7.out.below hb5)
 have HW5:=H_ hb5
 clear pz hb5 hnz hkz HJX
 go_wp2_with fail
 obtain ⟨B9,hB9⟩:∃q,q=w5.heap.size:=⟨_,rfl⟩
 obtain ⟨w6,hw⟩:∃q,q=w5.alloc (.cells #[.string z.a,.string z.m,.int .i64 z.mo,.int .i64 z.ev,.int .i64 z.su,.int .i64 z.mx,.slice zt zn ztc,.slice zh zk zhc,.int .i64 cd] 30):=⟨_,rfl⟩
 have hal:Below w5.heap.size w5 w6:=by rw [hw];exact (Below.refl _ _).alloc (Nat.le_refl _) _
 have HXB9:Hid (Blk B9 [.string z.a,.string z.m,.int .i64 z.mo,.int .i64 z.ev,.int .i64 z.su,.int .i64 z.mx,.slice zt zn ztc,.slice zh zk zhc,.int .i64 cd] w6):=H_ (by rw [hB9,hw];exact Blk.new w5 [.string z.a,.string z.m,.int .i64 z.mo,.int .i64 z.ev,.int .i64 z.su,.int .i64 z.mx,.slice zt zn ztc,.slice zh zk zhc,.int .i64 cd] _)
 rw [←hB9,←hw]
 clear hw hB9
 replace HXB5:=H_ (HXB5.out.below hal)
 replace HXB6:=H_ (HXB6.out.below hal)
 replace HXB7:=H_ (HXB7.out.below hal)
 replace HPZ:=H_ (HPZ.out.below hal)
 have HW6:=H_ (HW5.out.trans (hal.mono HW5.out.size))
 clear hal HW5
 refine (HD2.out _ (HB4.out.trans (HW6.out.mono HB4.out.size))).mono ?_
 rintro e w7 ⟨⟨v,vt,vtc,vh,vhc,ag,rfl,sv,pv⟩,hb7⟩
 obtain ⟨vn,hnv⟩:∃q,q=v.ts.length:=⟨_,rfl⟩
 obtain ⟨vk,hkv⟩:∃q,q=v.hs.length:=⟨_,rfl⟩
 unfold wcells
 rw [←hnv,←hkv]
 have HNV:=H_ hnv
 have HKV:=H_ hkv
 have HSV:=H_ sv
 have HPV:=H_ pv
 replace HXB5:=H_ (HXB5.out.below hb7)
 replace HXB6:=H_ (HXB6.out.below hb7)
 replace HXB7:=H_ (HXB7.out.below hb7)
 replace HXB9:=H_ (HXB9.out.below hb7)
 replace HPZ:=H_ (HPZ.out.below hb7)
 have HW7:=H_ (HW6.out.trans (hb7.mono HW6.out.size))
 clear hb7 sv pv hnv hkv HD2 HW6
 go_wp2_with fail
 obtain ⟨B10,hB10⟩:∃q,q=w7.heap.size:=⟨_,rfl⟩
 obtain ⟨w8,hw⟩:∃q,q=w7.alloc (.cells #[.string v.a,.string v.m,.int .i64 v.mo,.int .i64 v.ev,.int .i64 v.su,.int .i64 v.mx,.slice vt vn vtc,.slice vh vk vhc] 26):=⟨_,rfl⟩
 have hal:Below w7.heap.size w7 w8:=by rw [hw];exact (Below.refl _ _).alloc (Nat.le_refl _) _
 have HXB10:Hid (Blk B10 [.string v.a,.string v.m,.int .i64 v.mo,.int .i64 v.ev,.int .i64 v.su,.int .i64 v.mx,.slice vt vn vtc,.slice vh vk vhc] w8):=H_ (by rw [hB10,hw];exact Blk.new w7 [.string v.a,.string v.m,.int .i64 v.mo,.int .i64 v.ev,.int .i64 v.su,.int .i64 v.mx,.slice vt vn vtc,.slice vh vk vhc] _)
 rw [←hB10,←hw]
 clear hw hB10
 replace HXB5:=H_ (HXB5.out.below hal)
 replace HXB6:=H_ (HXB6.out.below hal)
 replace HXB7:=H_ (HXB7.out.below hal)
 replace HXB9:=H_ (HXB9.out.below hal)
 replace HPZ:=H_ (HPZ.out.below hal)
 replace HPV:=H_ (HPV.out.below hal)
 have HPC8:=H_ (HPC.out.below (HW7.out.trans (hal.mono HW7.out.size)))
 have HW8:=H_ (HW7.out.trans (hal.mono HW7.out.size))
 clear hal HW7
 have HJS8:Hid (∀W,Below w8.heap.size w8 W→Calls Tryd.prog 8 #[.agg #[.string a.a,.string a.m,.int .i64 a.mo,.int .i64 a.ev,.int .i64 a.su,.int .i64 a.mx,.slice at0 an atc,.slice ah ak ahc],.agg #[.string b.a,.string b.m,.int .i64 b.mo,.int .i64 b.ev,.int .i64 b.su,.int .i64 b.mx,.slice bt bn btc,.slice bh bk bhc]] W fun e w'=>∃rt rtc rh rhc,e=.returned (.agg #[.string z.a,.string z.m,.int .i64 z.mo,.int .i64 z.ev,.int .i64 z.su,.int .i64 z.mx,.slice rt zn rtc,.slice rh zk rhc,.int .i64 cd])∧Tgs rt z.ts w'∧Hrs rh z.hs w'∧Below W.heap.size W w'):=H_ (fun W hW=>by have e1:=HNZ.out;have e2:=HKZ.out;subst e1 e2;exact HJS.out W (HW8.out.trans (hW.mono HW8.out.size)))
 have HJY8:Hid (∀W,Below w8.heap.size w8 W→Calls Tryd.prog 5 #[.agg #[.string b.a,.string b.m,.int .i64 b.mo,.int .i64 b.ev,.int .i64 b.su,.int .i64 b.mx,.slice bt bn btc,.slice bh bk bhc],.agg #[.string a.a,.string a.m,.int .i64 a.mo,.int .i64 a.ev,.int .i64 a.su,.int .i64 a.mx,.slice at0 an atc,.slice ah ak ahc]] W fun e w'=>∃rt rtc rh rhc,e=.returned (.agg #[.string z.a,.string z.m,.int .i64 z.mo,.int .i64 z.ev,.int .i64 z.su,.int .i64 z.mx,.slice rt zn rtc,.slice rh zk rhc,.int .i64 cd])∧WdP z rt rtc rh rhc w'∧Below W.heap.size W w'):=H_ (fun W hW=>by have e1:=HNZ.out;have e2:=HKZ.out;subst e1 e2;exact HJY.out W (HW8.out.trans (hW.mono HW8.out.size)))
 have HLW:Hid (∀rt rtc rh rhc W,Below w8.heap.size w8 W→Tgs rt z.ts W→Hrs rh z.hs W→Calls Tryd.prog 7 #[.agg #[.string z.a,.string z.m,.int .i64 z.mo,.int .i64 z.ev,.int .i64 z.su,.int .i64 z.mx,.slice zt zn ztc,.slice zh zk zhc,.int .i64 cd],.agg #[.string z.a,.string z.m,.int .i64 z.mo,.int .i64 z.ev,.int .i64 z.su,.int .i64 z.mx,.slice rt zn rtc,.slice rh zk rhc,.int .i64 cd]] W fun e w'=>e=.returned (.bool true)∧Below W.heap.size W w'):=H_ (fun rt rtc rh rhc W hW hT hH=>by have e1:=HNZ.out;have e2:=HKZ.out;subst e1 e2;exact lwWs_any z cd (jr_right HJ.out) (HSZ.out.small (by omega)) zt ztc zh zhc rt rtc rh rhc W (HPZ.out.below hW).tg (HPZ.out.below hW).hr hT hH)
 have HLV:Hid (∀rt rtc rh rhc W,Below w8.heap.size w8 W→WdP z rt rtc rh rhc W→Calls Tryd.prog 7 #[.agg #[.string z.a,.string z.m,.int .i64 z.mo,.int .i64 z.ev,.int .i64 z.su,.int .i64 z.mx,.slice rt zn rtc,.slice rh zk rhc,.int .i64 cd],.agg #[.string z.a,.string z.m,.int .i64 z.mo,.int .i64 z.ev,.int .i64 z.su,.int .i64 z.mx,.slice zt zn ztc,.slice zh zk zhc,.int .i64 cd]] W fun e w'=>e=.returned (.bool true)∧Below W.heap.size W w'):=H_ (fun rt rtc rh rhc W hW hR=>by have e1:=HNZ.out;have e2:=HKZ.out;subst e1 e2;exact lwWs_any z cd (jr_right HJ.out) (HSZ.out.small (by omega)) rt rtc rh rhc zt ztc zh zhc W hR.tg hR.hr (HPZ.out.below hW).tg (HPZ.out.below hW).hr)
 have HV1:Hid (∀W,Below w8.heap.size w8 W→Calls Tryd.prog 9 #[.agg #[.string v.a,.string v.m,.int .i64 v.mo,.int .i64 v.ev,.int .i64 v.su,.int .i64 v.mx,.slice vt vn vtc,.slice vh vk vhc],.int .i64 ag] W fun e w'=>e=.returned (.int .i64 (valueV v ag))∧Below W.heap.size W w'):=H_ (fun W hW=>by have e1:=HNV.out;have e2:=HKV.out;subst e1 e2;have hs:=HSV.out.small (by omega);exact impl_value v ag vt vtc vh vhc W hs.1 hs.2.1 hs.2.2.1 hs.2.2.2.1 hs.2.2.2.2 ((HL4.out.below HW8.out).below hW) (HPV.out.below hW).tg (HPV.out.below hW).hr)
 have HV2:Hid (∀W,Below w8.heap.size w8 W→Calls Tryd.prog 10 #[.agg #[.string v.a,.string v.m,.int .i64 v.mo,.int .i64 v.ev,.int .i64 v.su,.int .i64 v.mx,.slice vt vn vtc,.slice vh vk vhc],.int .i64 ag] W fun e w'=>e=.returned (.int .i64 (valueV v ag))∧Below W.heap.size W w'):=H_ (fun W hW=>by have e1:=HNV.out;have e2:=HKV.out;subst e1 e2;have hs:=HSV.out.small (by omega);exact spec_value v ag vt vtc vh vhc W hs.1 hs.2.1 hs.2.2.1 hs.2.2.2.1 hs.2.2.2.2 (HPV.out.below hW).tg (HPV.out.below hW).hr)
 have HV3:Hid (∀W,Below w8.heap.size w8 W→Calls Tryd.prog 11 #[.agg #[.string v.a,.string v.m,.int .i64 v.mo,.int .i64 v.ev,.int .i64 v.su,.int .i64 v.mx,.slice vt vn vtc,.slice vh vk vhc]] W fun e w'=>e=.returned (.bool (wB v))∧Below W.heap.size W w'):=H_ (fun W hW=>by have e1:=HNV.out;have e2:=HKV.out;subst e1 e2;have hs:=HSV.out.small (by omega);exact impl_window_right v vt vtc vh vhc W hs.1 hs.2.1 hs.2.2.1 hs.2.2.2.1 hs.2.2.2.2 ((HL4.out.below HW8.out).below hW) (HPV.out.below hW).tg (HPV.out.below hW).hr)
 have HV4:Hid (∀W,Below w8.heap.size w8 W→Calls Tryd.prog 12 #[.agg #[.string v.a,.string v.m,.int .i64 v.mo,.int .i64 v.ev,.int .i64 v.su,.int .i64 v.mx,.slice vt vn vtc,.slice vh vk vhc]] W fun e w'=>e=.returned (.bool (wB v))∧Below W.heap.size W w'):=H_ (fun W hW=>by have e1:=HNV.out;have e2:=HKV.out;subst e1 e2;have hs:=HSV.out.small (by omega);exact spec_window_right v vt vtc vh vhc W hs.1 hs.2.1 hs.2.2.1 hs.2.2.2.1 (HPV.out.below hW).tg (HPV.out.below hW).hr)
 generalize valueV v ag=v1 at *
 generalize wB v=v2 at *
 have HX8:Hid (JX w8 B5 B6 B9 B10 [.string a.a,.string a.m,.int .i64 a.mo,.int .i64 a.ev,.int .i64 a.su,.int .i64 a.mx,.slice at0 an atc,.slice ah ak ahc] [.string b.a,.string b.m,.int .i64 b.mo,.int .i64 b.ev,.int .i64 b.su,.int .i64 b.mx,.slice bt bn btc,.slice bh bk bhc] [.string z.a,.string z.m,.int .i64 z.mo,.int .i64 z.ev,.int .i64 z.su,.int .i64 z.mx,.slice zt zn ztc,.slice zh zk zhc,.int .i64 cd] [.string v.a,.string v.m,.int .i64 v.mo,.int .i64 v.ev,.int .i64 v.su,.int .i64 v.mx,.slice vt vn vtc,.slice vh vk vhc] w8):=H_ ⟨Below.refl _ _,HXB5.out.1,HXB6.out.1,HXB9.out.1,HXB10.out.1,cc_blk HXB5.out,cc_blk HXB6.out,cc_blk HXB9.out,cc_blk HXB10.out⟩
 have HX9:=H_ (HX8.out.below (Below.refl _ _).drew)
 refine wp_region_held_drew (S:=(fun W=>Below w8.heap.size w8 W∧B5<W.heap.size∧B6<W.heap.size∧B9<W.heap.size∧B10<W.heap.size∧(W.cell? ⟨B5,0,none⟩=some (.string a.a)∧W.cell? ⟨B5,1,none⟩=some (.string a.m)∧W.cell? ⟨B5,2,none⟩=some (.int .i64 a.mo)∧W.cell? ⟨B5,3,none⟩=some (.int .i64 a.ev)∧W.cell? ⟨B5,4,none⟩=some (.int .i64 a.su)∧W.cell? ⟨B5,5,none⟩=some (.int .i64 a.mx)∧W.cell? ⟨B5,6,none⟩=some (.slice at0 an atc)∧W.cell? ⟨B5,7,none⟩=some (.slice ah ak ahc)∧True)∧(W.cell? ⟨B6,0,none⟩=some (.string b.a)∧W.cell? ⟨B6,1,none⟩=some (.string b.m)∧W.cell? ⟨B6,2,none⟩=some (.int .i64 b.mo)∧W.cell? ⟨B6,3,none⟩=some (.int .i64 b.ev)∧W.cell? ⟨B6,4,none⟩=some (.int .i64 b.su)∧W.cell? ⟨B6,5,none⟩=some (.int .i64 b.mx)∧W.cell? ⟨B6,6,none⟩=some (.slice bt bn btc)∧W.cell? ⟨B6,7,none⟩=some (.slice bh bk bhc)∧True)∧(W.cell? ⟨B9,0,none⟩=some (.string z.a)∧W.cell? ⟨B9,1,none⟩=some (.string z.m)∧W.cell? ⟨B9,2,none⟩=some (.int .i64 z.mo)∧W.cell? ⟨B9,3,none⟩=some (.int .i64 z.ev)∧W.cell? ⟨B9,4,none⟩=some (.int .i64 z.su)∧W.cell? ⟨B9,5,none⟩=some (.int .i64 z.mx)∧W.cell? ⟨B9,6,none⟩=some (.slice zt zn ztc)∧W.cell? ⟨B9,7,none⟩=some (.slice zh zk zhc)∧W.cell? ⟨B9,8,none⟩=some (.int .i64 cd)∧True)∧(W.cell? ⟨B10,0,none⟩=some (.string v.a)∧W.cell? ⟨B10,1,none⟩=some (.string v.m)∧W.cell? ⟨B10,2,none⟩=some (.int .i64 v.mo)∧W.cell? ⟨B10,3,none⟩=some (.int .i64 v.ev)∧W.cell? ⟨B10,4,none⟩=some (.int .i64 v.su)∧W.cell? ⟨B10,5,none⟩=some (.int .i64 v.mx)∧W.cell? ⟨B10,6,none⟩=some (.slice vt vn vtc)∧W.cell? ⟨B10,7,none⟩=some (.slice vh vk vhc)∧True))) (by kernel_rfl) HX9.out (fun hHeld=>?_)
 have hx0:=HX9.out
 generalize w8.drew=kd at *
 refine tk 0 (⟨some 42,.load 30 (.tmp 9),30,"laws.go:360",#[],none⟩) ?_
 refine tk 1 (⟨some 43,.load 26 (.tmp 5),26,"laws.go:360",#[],none⟩) ?_
 refine tk 2 (⟨some 44,.load 26 (.tmp 6),26,"laws.go:360",#[],none⟩) ?_
 refine rd 3 (⟨some 45,.call {callee:=Callee.value (.func 8),args:=#[.tmp 43,.tmp 44],argTypes:=#[26,26]},30,"laws.go:360",#[⟨1,.data⟩,⟨2,.data⟩],none⟩) (fun K hK=>?_)
 go_simp
 go_at_call 8
 refine (HJS8.out _ hx0.1).mono ?_
 rintro e q1 ⟨rt,rtc,rh,rhc,rfl,rT,rH,hb1⟩
 try go_wp2_with fail
 have hx1:=JX.below hx0 hb1
 refine hK.out _ _ hx1 (fun _=>?_)
 clear hK K
 try simp only [Act.put,SL]
 refine rd 4 (⟨some 46,.call {callee:=Callee.value (.func 7),args:=#[.tmp 42,.tmp 45],argTypes:=#[30,30]},4,"laws.go:360",#[⟨0,.data⟩,⟨3,.data⟩,⟨3,.chain⟩],none⟩) (fun K hK=>?_)
 go_simp
 go_at_call 7
 refine (HLW.out _ _ _ _ _ hx1.1 rT rH).mono ?_
 rintro e q2 ⟨rfl,hb2⟩
 try go_wp2_with fail
 have hx2:=JX.below hx1 hb2
 refine hK.out _ _ hx2 (fun _=>?_)
 clear hK K
 try simp only [Act.put,SL]
 refine tk 5 (⟨some 47,.unOp UnOp.not 4 (.tmp 46),4,"laws.go:360",#[⟨4,.data⟩],none⟩) ?_
 refine tk 6 (⟨some 48,.move (.tmp 47),4,"laws.go:360",#[⟨5,.data⟩,⟨4,.chain⟩],none⟩) ?_
 refine tk 7 (⟨some 49,.load 26 (.tmp 6),26,"laws.go:360",#[⟨6,.guard⟩],some (6,false)⟩) ?_
 refine tk 8 (⟨some 50,.load 26 (.tmp 5),26,"laws.go:360",#[⟨6,.guard⟩],some (6,false)⟩) ?_
 refine tk 10 (⟨some 52,.load 30 (.tmp 9),30,"laws.go:360",#[⟨6,.guard⟩],some (6,false)⟩) ?_
 refine rd 9 (⟨some 51,.call {callee:=Callee.value (.func 5),args:=#[.tmp 49,.tmp 50],argTypes:=#[26,26]},30,"laws.go:360",#[⟨7,.data⟩,⟨8,.data⟩,⟨6,.chain⟩,⟨6,.guard⟩],some (6,false)⟩) (fun K hK=>?_)
 go_simp
 go_at_call 5
 refine (HJY8.out _ hx2.1).mono ?_
 rintro e q3 ⟨st,stc,sh,shc,rfl,sP,hb3⟩
 try go_wp2_with fail
 have hx3:=JX.below hx2 hb3
 refine hK.out _ _ hx3 (fun _=>?_)
 clear hK K
 try simp only [Act.put,SL]
 refine rd 11 (⟨some 53,.call {callee:=Callee.value (.func 7),args:=#[.tmp 51,.tmp 52],argTypes:=#[30,30]},4,"laws.go:360",#[⟨9,.data⟩,⟨10,.data⟩,⟨9,.chain⟩,⟨6,.guard⟩],some (6,false)⟩) (fun K hK=>?_)
 go_simp
 go_at_call 7
 refine (HLV.out _ _ _ _ _ hx3.1 sP).mono ?_
 rintro e q4 ⟨rfl,hb4⟩
 try go_wp2_with fail
 have hx4:=JX.below hx3 hb4
 refine hK.out _ _ hx4 (fun _=>?_)
 clear hK K
 try simp only [Act.put,SL]
 refine tk 12 (⟨some 54,.unOp UnOp.not 4 (.tmp 53),4,"laws.go:360",#[⟨11,.data⟩,⟨6,.guard⟩],some (6,false)⟩) ?_
 refine tk 13 (⟨some 55,.pick (.tmp 48) (.const (Value.bool true)) (.tmp 54),4,"laws.go:360",#[⟨6,.data⟩,⟨12,.data⟩],none⟩) ?_
 refine tk 14 (⟨some 56,.move (.tmp 55),4,"laws.go:360",#[⟨13,.data⟩,⟨11,.chain⟩],none⟩) ?_
 refine tk 15 (⟨some 57,.load 26 (.tmp 10),26,"laws.go:360",#[⟨14,.guard⟩],some (14,false)⟩) ?_
 refine tk 16 (⟨some 58,.move (.tmp 11),2,"laws.go:360",#[⟨14,.guard⟩],some (14,false)⟩) ?_
 refine tk 18 (⟨some 60,.load 26 (.tmp 10),26,"laws.go:360",#[⟨14,.guard⟩],some (14,false)⟩) ?_
 refine tk 19 (⟨some 61,.move (.tmp 11),2,"laws.go:360",#[⟨14,.guard⟩],some (14,false)⟩) ?_
 refine rd 17 (⟨some 59,.call {callee:=Callee.value (.func 9),args:=#[.tmp 57,.tmp 58],argTypes:=#[26,2]},2,"laws.go:360",#[⟨15,.data⟩,⟨16,.data⟩,⟨14,.chain⟩,⟨14,.guard⟩],some (14,false)⟩) (fun K hK=>?_)
 go_simp
 go_at_call 9
 refine (HV1.out _ hx4.1).mono ?_
 rintro e q5 ⟨rfl,hb5⟩
 try go_wp2_with fail
 have hx5:=JX.below hx4 hb5
 refine hK.out _ _ hx5 (fun _=>?_)
 clear hK K
 try simp only [Act.put,SL]
 refine rd 20 (⟨some 62,.call {callee:=Callee.value (.func 10),args:=#[.tmp 60,.tmp 61],argTypes:=#[26,2]},2,"laws.go:360",#[⟨18,.data⟩,⟨19,.data⟩,⟨17,.chain⟩,⟨14,.guard⟩],some (14,false)⟩) (fun K hK=>?_)
 go_simp
 go_at_call 10
 refine (HV2.out _ hx5.1).mono ?_
 rintro e q6 ⟨rfl,hb6⟩
 try go_wp2_with fail
 have hx6:=JX.below hx5 hb6
 refine hK.out _ _ hx6 (fun _=>?_)
 clear hK K
 try simp only [Act.put,SL]
 refine tk 21 (⟨some 63,.binOp BinOp.neq 2 (.tmp 59) (.tmp 62) 2,4,"laws.go:360",#[⟨17,.data⟩,⟨20,.data⟩,⟨14,.guard⟩],some (14,false)⟩) ?_
 refine tk 22 (⟨some 64,.pick (.tmp 56) (.const (Value.bool true)) (.tmp 63),4,"laws.go:360",#[⟨14,.data⟩,⟨21,.data⟩],none⟩) ?_
 refine tk 23 (⟨some 65,.move (.tmp 64),4,"laws.go:360",#[⟨22,.data⟩,⟨20,.chain⟩],none⟩) ?_
 refine tk 24 (⟨some 66,.load 26 (.tmp 10),26,"laws.go:360",#[⟨23,.guard⟩],some (23,false)⟩) ?_
 refine tk 26 (⟨some 68,.load 26 (.tmp 10),26,"laws.go:360",#[⟨23,.guard⟩],some (23,false)⟩) ?_
 refine rd 25 (⟨some 67,.call {callee:=Callee.value (.func 11),args:=#[.tmp 66],argTypes:=#[26]},4,"laws.go:360",#[⟨24,.data⟩,⟨23,.chain⟩,⟨23,.guard⟩],some (23,false)⟩) (fun K hK=>?_)
 go_simp
 go_at_call 11
 refine (HV3.out _ hx6.1).mono ?_
 rintro e q7 ⟨rfl,hb7⟩
 try go_wp2_with fail
 have hx7:=JX.below hx6 hb7
 refine hK.out _ _ hx7 (fun _=>?_)
 clear hK K
 try simp only [Act.put,SL]
 refine rd 27 (⟨some 69,.call {callee:=Callee.value (.func 12),args:=#[.tmp 68],argTypes:=#[26]},4,"laws.go:360",#[⟨26,.data⟩,⟨25,.chain⟩,⟨23,.guard⟩],some (23,false)⟩) (fun K hK=>?_)
 go_simp
 go_at_call 12
 refine (HV4.out _ hx7.1).mono ?_
 rintro e q8 ⟨rfl,hb8⟩
 try go_wp2_with fail
 have hx8:=JX.below hx7 hb8
 refine hK.out _ _ hx8 (fun _=>?_)
 clear hK K
 try simp only [Act.put,SL]
 refine tk 28 (⟨some 70,.binOp BinOp.neq 4 (.tmp 67) (.tmp 69) 4,4,"laws.go:360",#[⟨25,.data⟩,⟨27,.data⟩,⟨23,.guard⟩],some (23,false)⟩) ?_
 refine tk 29 (⟨some 71,.pick (.tmp 65) (.const (Value.bool true)) (.tmp 70),4,"laws.go:360",#[⟨23,.data⟩,⟨28,.data⟩],none⟩) ?_
 refine tk 30 (⟨some 72,.move (.tmp 71),4,"laws.go:360",#[⟨29,.data⟩,⟨27,.chain⟩],none⟩) ?_
 refine tk 31 (⟨some 73,.fieldAddr 30 (.tmp 9) 1,0,"laws.go:360",#[⟨30,.guard⟩],some (30,false)⟩) ?_
 refine tk 32 (⟨some 74,.load 2 (.tmp 73),2,"laws.go:360",#[⟨31,.data⟩,⟨30,.guard⟩],some (30,false)⟩) ?_
 refine tk 33 (⟨some 75,.binOp BinOp.neq 2 (.tmp 74) (.const (Value.int IntKind.i64 0)) 2,4,"laws.go:360",#[⟨32,.data⟩,⟨30,.guard⟩],some (30,false)⟩) ?_
 refine tk 34 (⟨some 76,.pick (.tmp 72) (.const (Value.bool true)) (.tmp 75),4,"laws.go:360",#[⟨30,.data⟩,⟨33,.data⟩],none⟩) ?_
 refine wpAnyH_done (by kernel_rfl) ?_ _
 have HXE:=H_ hx8
 clear hx0 hx1 hx2 hx3 hx4 hx5 hx6 hx7 hx8 hb1 hb2 hb3 hb4 hb5 hb6 hb7 hb8 rT rH sP
 by_cases h0:cd=0
 rotate_left
 ·have hcd:(cd==0)=false:=by simpa using h0
  go_wp2_with fail
  have HXG:=H_ (HXE.out.below (Below.refl _ _).drew)
  refine wp_region_held_drew (S:=(fun W=>Below w8.heap.size w8 W∧B5<W.heap.size∧B6<W.heap.size∧B9<W.heap.size∧B10<W.heap.size∧(W.cell? ⟨B5,0,none⟩=some (.string a.a)∧W.cell? ⟨B5,1,none⟩=some (.string a.m)∧W.cell? ⟨B5,2,none⟩=some (.int .i64 a.mo)∧W.cell? ⟨B5,3,none⟩=some (.int .i64 a.ev)∧W.cell? ⟨B5,4,none⟩=some (.int .i64 a.su)∧W.cell? ⟨B5,5,none⟩=some (.int .i64 a.mx)∧W.cell? ⟨B5,6,none⟩=some (.slice at0 an atc)∧W.cell? ⟨B5,7,none⟩=some (.slice ah ak ahc)∧True)∧(W.cell? ⟨B6,0,none⟩=some (.string b.a)∧W.cell? ⟨B6,1,none⟩=some (.string b.m)∧W.cell? ⟨B6,2,none⟩=some (.int .i64 b.mo)∧W.cell? ⟨B6,3,none⟩=some (.int .i64 b.ev)∧W.cell? ⟨B6,4,none⟩=some (.int .i64 b.su)∧W.cell? ⟨B6,5,none⟩=some (.int .i64 b.mx)∧W.cell? ⟨B6,6,none⟩=some (.slice bt bn btc)∧W.cell? ⟨B6,7,none⟩=some (.slice bh bk bhc)∧True)∧(W.cell? ⟨B9,0,none⟩=some (.string z.a)∧W.cell? ⟨B9,1,none⟩=some (.string z.m)∧W.cell? ⟨B9,2,none⟩=some (.int .i64 z.mo)∧W.cell? ⟨B9,3,none⟩=some (.int .i64 z.ev)∧W.cell? ⟨B9,4,none⟩=some (.int .i64 z.su)∧W.cell? ⟨B9,5,none⟩=some (.int .i64 z.mx)∧W.cell? ⟨B9,6,none⟩=some (.slice zt zn ztc)∧W.cell? ⟨B9,7,none⟩=some (.slice zh zk zhc)∧W.cell? ⟨B9,8,none⟩=some (.int .i64 cd)∧True)∧(W.cell? ⟨B10,0,none⟩=some (.string v.a)∧W.cell? ⟨B10,1,none⟩=some (.string v.m)∧W.cell? ⟨B10,2,none⟩=some (.int .i64 v.mo)∧W.cell? ⟨B10,3,none⟩=some (.int .i64 v.ev)∧W.cell? ⟨B10,4,none⟩=some (.int .i64 v.su)∧W.cell? ⟨B10,5,none⟩=some (.int .i64 v.mx)∧W.cell? ⟨B10,6,none⟩=some (.slice vt vn vtc)∧W.cell? ⟨B10,7,none⟩=some (.slice vh vk vhc)∧True))) (by kernel_rfl) HXG.out (fun hHeld=>?_)
  have hx0:=HXG.out
  generalize q8.drew=kd at *
  refine tk 0 (⟨some 77,.load 30 (.tmp 9),30,"laws.go:361",#[],none⟩) ?_
  refine tk 1 (⟨some 78,.load 26 (.tmp 5),26,"laws.go:361",#[],none⟩) ?_
  refine tk 2 (⟨some 79,.load 26 (.tmp 6),26,"laws.go:361",#[],none⟩) ?_
  refine rd 3 (⟨some 80,.call {callee:=Callee.value (.func 8),args:=#[.tmp 78,.tmp 79],argTypes:=#[26,26]},30,"laws.go:361",#[⟨1,.data⟩,⟨2,.data⟩],none⟩) (fun K hK=>?_)
  go_simp
  go_at_call 8
  refine (HJS8.out _ hx0.1).mono ?_
  rintro e q1 ⟨rt,rtc,rh,rhc,rfl,rT,rH,hb1⟩
  try go_wp2_with fail
  have hx1:=JX.below hx0 hb1
  refine hK.out _ _ hx1 (fun _=>?_)
  clear hK K
  try simp only [Act.put,SL]
  refine rd 4 (⟨some 81,.call {callee:=Callee.value (.func 7),args:=#[.tmp 77,.tmp 80],argTypes:=#[30,30]},4,"laws.go:361",#[⟨0,.data⟩,⟨3,.data⟩,⟨3,.chain⟩],none⟩) (fun K hK=>?_)
  go_simp
  go_at_call 7
  refine (HLW.out _ _ _ _ _ hx1.1 rT rH).mono ?_
  rintro e q2 ⟨rfl,hb2⟩
  try go_wp2_with fail
  have hx2:=JX.below hx1 hb2
  refine hK.out _ _ hx2 (fun _=>?_)
  clear hK K
  try simp only [Act.put,SL]
  refine tk 5 (⟨some 82,.move (.tmp 81),4,"laws.go:361",#[⟨4,.data⟩,⟨4,.chain⟩],none⟩) ?_
  refine tk 6 (⟨some 83,.load 26 (.tmp 6),26,"laws.go:361",#[⟨5,.guard⟩],some (5,true)⟩) ?_
  refine tk 7 (⟨some 84,.load 26 (.tmp 5),26,"laws.go:361",#[⟨5,.guard⟩],some (5,true)⟩) ?_
  refine tk 9 (⟨some 86,.load 30 (.tmp 9),30,"laws.go:361",#[⟨5,.guard⟩],some (5,true)⟩) ?_
  refine rd 8 (⟨some 85,.call {callee:=Callee.value (.func 5),args:=#[.tmp 83,.tmp 84],argTypes:=#[26,26]},30,"laws.go:361",#[⟨6,.data⟩,⟨7,.data⟩,⟨5,.chain⟩,⟨5,.guard⟩],some (5,true)⟩) (fun K hK=>?_)
  go_simp
  go_at_call 5
  refine (HJY8.out _ hx2.1).mono ?_
  rintro e q3 ⟨st,stc,sh,shc,rfl,sP,hb3⟩
  try go_wp2_with fail
  have hx3:=JX.below hx2 hb3
  refine hK.out _ _ hx3 (fun _=>?_)
  clear hK K
  try simp only [Act.put,SL]
  refine rd 10 (⟨some 87,.call {callee:=Callee.value (.func 7),args:=#[.tmp 85,.tmp 86],argTypes:=#[30,30]},4,"laws.go:361",#[⟨8,.data⟩,⟨9,.data⟩,⟨8,.chain⟩,⟨5,.guard⟩],some (5,true)⟩) (fun K hK=>?_)
  go_simp
  go_at_call 7
  refine (HLV.out _ _ _ _ _ hx3.1 sP).mono ?_
  rintro e q4 ⟨rfl,hb4⟩
  try go_wp2_with fail
  have hx4:=JX.below hx3 hb4
  refine hK.out _ _ hx4 (fun _=>?_)
  clear hK K
  try simp only [Act.put,SL]
  refine tk 11 (⟨some 88,.pick (.tmp 82) (.tmp 87) (.const (Value.bool false)),4,"laws.go:361",#[⟨5,.data⟩,⟨10,.data⟩],none⟩) ?_
  refine tk 12 (⟨some 4,.assign (.tmp 88),4,"laws.go:361",#[⟨11,.data⟩,⟨10,.chain⟩,⟨0,.phase⟩,⟨1,.phase⟩,⟨2,.phase⟩,⟨3,.phase⟩,⟨4,.phase⟩,⟨5,.phase⟩,⟨6,.phase⟩,⟨7,.phase⟩,⟨8,.phase⟩,⟨9,.phase⟩,⟨10,.phase⟩,⟨11,.phase⟩],none⟩) ?_
  refine wpAnyH_done (by kernel_rfl) ?_ _
  have HXF:=H_ hx4
  clear hx0 hx1 hx2 hx3 hx4 hb1 hb2 hb3 hb4 rT rH sP
  have HWF:=H_ (HB4.out.trans ((HW8.out.trans (HXF.out.1.mono HW8.out.size)).mono HB4.out.size))
  go_wp2_with fail
  go_ret
  exact ⟨rfl,HWF.out⟩
 subst h0
 have HVZ:Hid (∀g W,Below w8.heap.size w8 W→Calls Tryd.prog 9 #[.agg #[.string z.a,.string z.m,.int .i64 z.mo,.int .i64 z.ev,.int .i64 z.su,.int .i64 z.mx,.slice zt zn ztc,.slice zh zk zhc],.int .i64 g] W fun e w'=>e=.returned (.int .i64 (valueV z g))∧Below W.heap.size W w'):=H_ (fun g W hW=>by have e1:=HNZ.out;have e2:=HKZ.out;subst e1 e2;have hs:=HSZ.out.small (by omega);exact impl_value z g zt ztc zh zhc W hs.1 hs.2.1 hs.2.2.1 hs.2.2.2.1 hs.2.2.2.2 ((HL4.out.below HW8.out).below hW) (HPZ.out.below hW).tg (HPZ.out.below hW).hr)
 have HVR:=H_ (fun g=>jr_val HJ.out g)
 clear HJY HJS HJS8 HJY8 HLV HV1 HV2 HV3 HV4 HX8 HX9 HXB10 HNV HKV HSV HPV
 go_wp2_with fail
 go_loopw [12] (fun zz wr=>∃G:Int,1≤G∧G≤5∧zz=.int .i64 G∧Hid (JX w8 B5 B6 B9 B10 [.string a.a,.string a.m,.int .i64 a.mo,.int .i64 a.ev,.int .i64 a.su,.int .i64 a.mx,.slice at0 an atc,.slice ah ak ahc] [.string b.a,.string b.m,.int .i64 b.mo,.int .i64 b.ev,.int .i64 b.su,.int .i64 b.mx,.slice bt bn btc,.slice bh bk bhc] [.string z.a,.string z.m,.int .i64 z.mo,.int .i64 z.ev,.int .i64 z.su,.int .i64 z.mx,.slice zt zn ztc,.slice zh zk zhc,.int .i64 0] [.string v.a,.string v.m,.int .i64 v.mo,.int .i64 v.ev,.int .i64 v.su,.int .i64 v.mx,.slice vt vn vtc,.slice vh vk vhc] wr)) (fun zz _=>(5-intOf zz).toNat)
 case atStart=>exact ⟨1,by omega,by omega,rfl,HXE⟩
 case round =>
  obtain ⟨G,hG1,hG5,rfl,HR⟩:=hrel
  by_cases hlt:G≤4
  ·have HZ:Hid (∀W,Below w8.heap.size w8 W→Calls Tryd.prog 9 #[.agg #[.string z.a,.string z.m,.int .i64 z.mo,.int .i64 z.ev,.int .i64 z.su,.int .i64 z.mx,.slice zt zn ztc,.slice zh zk zhc],.int .i64 G] W fun e w'=>e=.returned (.int .i64 (valueV z G))∧Below W.heap.size W w'):=H_ (HVZ.out G)
   have HA:Hid (∀W,Below w8.heap.size w8 W→Calls Tryd.prog 9 #[.agg #[.string a.a,.string a.m,.int .i64 a.mo,.int .i64 a.ev,.int .i64 a.su,.int .i64 a.mx,.slice at0 an atc,.slice ah ak ahc],.int .i64 G] W fun e w'=>e=.returned (.int .i64 (valueV a G))∧Below W.heap.size W w'):=H_ (fun W hW=>HVA.out G W (HW8.out.trans (hW.mono HW8.out.size)))
   have HB:Hid (∀W,Below w8.heap.size w8 W→Calls Tryd.prog 9 #[.agg #[.string b.a,.string b.m,.int .i64 b.mo,.int .i64 b.ev,.int .i64 b.su,.int .i64 b.mx,.slice bt bn btc,.slice bh bk bhc],.int .i64 G] W fun e w'=>e=.returned (.int .i64 (valueV b G))∧Below W.heap.size W w'):=H_ (fun W hW=>HVB.out G W (HW8.out.trans (hW.mono HW8.out.size)))
   obtain ⟨r1,r2,r3,r4,r5,r6,r7⟩:=HVR.out G
   generalize valueV z G=pz at *
   generalize valueV a G=pa at *
   generalize valueV b G=pb at *
   have c1:¬pz<pa:=by omega
   have c2:¬pz<pb:=by omega
   have c3:¬pa+pb<pz:=by omega
   have c4:IntKind.i64.wrap (pa+pb)=pa+pb:=IntWalk.i64_in _ ⟨by omega,by omega⟩
   have c5:wrap64 (pa+pb)=pa+pb:=by unfold wrap64;omega
   have HC1:=H_ c1
   have HC2:=H_ c2
   have HC3:=H_ (And.intro c3 (And.intro c4 c5))
   clear c1 c2 c3 c4 c5 r1 r2 r3 r4 r5 r6 r7
   go_wp2_with fail
   have HXG:=H_ (HR.out.below (Below.refl _ _).drew)
   refine wp_region_held_drew (S:=(fun W=>Below w8.heap.size w8 W∧B5<W.heap.size∧B6<W.heap.size∧B9<W.heap.size∧B10<W.heap.size∧(W.cell? ⟨B5,0,none⟩=some (.string a.a)∧W.cell? ⟨B5,1,none⟩=some (.string a.m)∧W.cell? ⟨B5,2,none⟩=some (.int .i64 a.mo)∧W.cell? ⟨B5,3,none⟩=some (.int .i64 a.ev)∧W.cell? ⟨B5,4,none⟩=some (.int .i64 a.su)∧W.cell? ⟨B5,5,none⟩=some (.int .i64 a.mx)∧W.cell? ⟨B5,6,none⟩=some (.slice at0 an atc)∧W.cell? ⟨B5,7,none⟩=some (.slice ah ak ahc)∧True)∧(W.cell? ⟨B6,0,none⟩=some (.string b.a)∧W.cell? ⟨B6,1,none⟩=some (.string b.m)∧W.cell? ⟨B6,2,none⟩=some (.int .i64 b.mo)∧W.cell? ⟨B6,3,none⟩=some (.int .i64 b.ev)∧W.cell? ⟨B6,4,none⟩=some (.int .i64 b.su)∧W.cell? ⟨B6,5,none⟩=some (.int .i64 b.mx)∧W.cell? ⟨B6,6,none⟩=some (.slice bt bn btc)∧W.cell? ⟨B6,7,none⟩=some (.slice bh bk bhc)∧True)∧(W.cell? ⟨B9,0,none⟩=some (.string z.a)∧W.cell? ⟨B9,1,none⟩=some (.string z.m)∧W.cell? ⟨B9,2,none⟩=some (.int .i64 z.mo)∧W.cell? ⟨B9,3,none⟩=some (.int .i64 z.ev)∧W.cell? ⟨B9,4,none⟩=some (.int .i64 z.su)∧W.cell? ⟨B9,5,none⟩=some (.int .i64 z.mx)∧W.cell? ⟨B9,6,none⟩=some (.slice zt zn ztc)∧W.cell? ⟨B9,7,none⟩=some (.slice zh zk zhc)∧W.cell? ⟨B9,8,none⟩=some (.int .i64 0)∧True)∧(W.cell? ⟨B10,0,none⟩=some (.string v.a)∧W.cell? ⟨B10,1,none⟩=some (.string v.m)∧W.cell? ⟨B10,2,none⟩=some (.int .i64 v.mo)∧W.cell? ⟨B10,3,none⟩=some (.int .i64 v.ev)∧W.cell? ⟨B10,4,none⟩=some (.int .i64 v.su)∧W.cell? ⟨B10,5,none⟩=some (.int .i64 v.mx)∧W.cell? ⟨B10,6,none⟩=some (.slice vt vn vtc)∧W.cell? ⟨B10,7,none⟩=some (.slice vh vk vhc)∧True))) (by kernel_rfl) HXG.out (fun hHeld=>?_)
   have hx0:=HXG.out
   clear HXG
   generalize World.drew _=kd at *
   refine tk 0 (⟨some 93,.fieldAddr 30 (.tmp 9) 0,0,"laws.go:364",#[],none⟩) ?_
   refine tk 1 (⟨some 94,.load 26 (.tmp 93),26,"laws.go:364",#[⟨0,.data⟩],none⟩) ?_
   refine tk 2 (⟨some 95,.move (.tmp 12),2,"laws.go:364",#[],none⟩) ?_
   refine tk 4 (⟨some 97,.load 26 (.tmp 5),26,"laws.go:364",#[],none⟩) ?_
   refine tk 5 (⟨some 98,.move (.tmp 12),2,"laws.go:364",#[],none⟩) ?_
   refine rd 3 (⟨some 96,.call {callee:=Callee.value (.func 9),args:=#[.tmp 94,.tmp 95],argTypes:=#[26,2]},2,"laws.go:364",#[⟨1,.data⟩,⟨2,.data⟩],none⟩) (fun K hK=>?_)
   go_simp
   go_at_call 9
   refine (HZ.out _ hx0.1).mono ?_
   rintro e q1 ⟨rfl,hb1⟩
   try go_wp2_with fail
   have hx1:=JX.below hx0 hb1
   refine hK.out _ _ hx1 (fun _=>?_)
   clear hK K
   try simp only [Act.put,SL]
   refine rd 6 (⟨some 99,.call {callee:=Callee.value (.func 9),args:=#[.tmp 97,.tmp 98],argTypes:=#[26,2]},2,"laws.go:364",#[⟨4,.data⟩,⟨5,.data⟩,⟨3,.chain⟩],none⟩) (fun K hK=>?_)
   go_simp
   go_at_call 9
   refine (HA.out _ hx1.1).mono ?_
   rintro e q2 ⟨rfl,hb2⟩
   try go_wp2_with fail
   have hx2:=JX.below hx1 hb2
   refine hK.out _ _ hx2 (fun _=>?_)
   clear hK K
   try simp only [Act.put,SL]
   refine rd 7 (⟨some 100,.binOp BinOp.lss 2 (.tmp 96) (.tmp 99) 2,4,"laws.go:364",#[⟨3,.data⟩,⟨6,.data⟩],none⟩) (fun K hK=>?_)
   go_simp
   rw [show decide (pz<pa)=false from decide_eq_false (by have:=HC1.out;omega)]
   refine hK.out _ _ hx2 (fun _=>?_)
   clear hK K
   try simp only [Act.put,SL]
   refine tk 8 (⟨some 101,.move (.tmp 100),4,"laws.go:364",#[⟨7,.data⟩,⟨6,.chain⟩],none⟩) ?_
   refine tk 9 (⟨some 102,.fieldAddr 30 (.tmp 9) 0,0,"laws.go:364",#[⟨8,.guard⟩],some (8,false)⟩) ?_
   refine tk 10 (⟨some 103,.load 26 (.tmp 102),26,"laws.go:364",#[⟨9,.data⟩,⟨8,.guard⟩],some (8,false)⟩) ?_
   refine tk 11 (⟨some 104,.move (.tmp 12),2,"laws.go:364",#[⟨8,.guard⟩],some (8,false)⟩) ?_
   refine tk 13 (⟨some 106,.load 26 (.tmp 6),26,"laws.go:364",#[⟨8,.guard⟩],some (8,false)⟩) ?_
   refine tk 14 (⟨some 107,.move (.tmp 12),2,"laws.go:364",#[⟨8,.guard⟩],some (8,false)⟩) ?_
   refine rd 12 (⟨some 105,.call {callee:=Callee.value (.func 9),args:=#[.tmp 103,.tmp 104],argTypes:=#[26,2]},2,"laws.go:364",#[⟨10,.data⟩,⟨11,.data⟩,⟨8,.chain⟩,⟨8,.guard⟩],some (8,false)⟩) (fun K hK=>?_)
   go_simp
   go_at_call 9
   refine (HZ.out _ hx2.1).mono ?_
   rintro e q3 ⟨rfl,hb3⟩
   try go_wp2_with fail
   have hx3:=JX.below hx2 hb3
   refine hK.out _ _ hx3 (fun _=>?_)
   clear hK K
   try simp only [Act.put,SL]
   refine rd 15 (⟨some 108,.call {callee:=Callee.value (.func 9),args:=#[.tmp 106,.tmp 107],argTypes:=#[26,2]},2,"laws.go:364",#[⟨13,.data⟩,⟨14,.data⟩,⟨12,.chain⟩,⟨8,.guard⟩],some (8,false)⟩) (fun K hK=>?_)
   go_simp
   go_at_call 9
   refine (HB.out _ hx3.1).mono ?_
   rintro e q4 ⟨rfl,hb4⟩
   try go_wp2_with fail
   have hx4:=JX.below hx3 hb4
   refine hK.out _ _ hx4 (fun _=>?_)
   clear hK K
   try simp only [Act.put,SL]
   refine rd 16 (⟨some 109,.binOp BinOp.lss 2 (.tmp 105) (.tmp 108) 2,4,"laws.go:364",#[⟨12,.data⟩,⟨15,.data⟩,⟨8,.guard⟩],some (8,false)⟩) (fun K hK=>?_)
   go_simp
   rw [show decide (pz<pb)=false from decide_eq_false (by have:=HC2.out;omega)]
   refine hK.out _ _ hx4 (fun _=>?_)
   clear hK K
   try simp only [Act.put,SL]
   refine tk 17 (⟨some 110,.pick (.tmp 101) (.const (Value.bool true)) (.tmp 109),4,"laws.go:364",#[⟨8,.data⟩,⟨16,.data⟩],none⟩) ?_
   refine tk 18 (⟨some 111,.move (.tmp 110),4,"laws.go:364",#[⟨17,.data⟩,⟨15,.chain⟩],none⟩) ?_
   refine tk 19 (⟨some 112,.fieldAddr 30 (.tmp 9) 0,0,"laws.go:364",#[⟨18,.guard⟩],some (18,false)⟩) ?_
   refine tk 20 (⟨some 113,.load 26 (.tmp 112),26,"laws.go:364",#[⟨19,.data⟩,⟨18,.guard⟩],some (18,false)⟩) ?_
   refine tk 21 (⟨some 114,.move (.tmp 12),2,"laws.go:364",#[⟨18,.guard⟩],some (18,false)⟩) ?_
   refine tk 23 (⟨some 116,.load 26 (.tmp 5),26,"laws.go:364",#[⟨18,.guard⟩],some (18,false)⟩) ?_
   refine tk 24 (⟨some 117,.move (.tmp 12),2,"laws.go:364",#[⟨18,.guard⟩],some (18,false)⟩) ?_
   refine tk 26 (⟨some 119,.load 26 (.tmp 6),26,"laws.go:364",#[⟨18,.guard⟩],some (18,false)⟩) ?_
   refine tk 27 (⟨some 120,.move (.tmp 12),2,"laws.go:364",#[⟨18,.guard⟩],some (18,false)⟩) ?_
   refine rd 22 (⟨some 115,.call {callee:=Callee.value (.func 9),args:=#[.tmp 113,.tmp 114],argTypes:=#[26,2]},2,"laws.go:364",#[⟨20,.data⟩,⟨21,.data⟩,⟨18,.chain⟩,⟨18,.guard⟩],some (18,false)⟩) (fun K hK=>?_)
   go_simp
   go_at_call 9
   refine (HZ.out _ hx4.1).mono ?_
   rintro e q5 ⟨rfl,hb5⟩
   try go_wp2_with fail
   have hx5:=JX.below hx4 hb5
   refine hK.out _ _ hx5 (fun _=>?_)
   clear hK K
   try simp only [Act.put,SL]
   refine rd 25 (⟨some 118,.call {callee:=Callee.value (.func 9),args:=#[.tmp 116,.tmp 117],argTypes:=#[26,2]},2,"laws.go:364",#[⟨23,.data⟩,⟨24,.data⟩,⟨22,.chain⟩,⟨18,.guard⟩],some (18,false)⟩) (fun K hK=>?_)
   go_simp
   go_at_call 9
   refine (HA.out _ hx5.1).mono ?_
   rintro e q6 ⟨rfl,hb6⟩
   try go_wp2_with fail
   have hx6:=JX.below hx5 hb6
   refine hK.out _ _ hx6 (fun _=>?_)
   clear hK K
   try simp only [Act.put,SL]
   refine rd 28 (⟨some 121,.call {callee:=Callee.value (.func 9),args:=#[.tmp 119,.tmp 120],argTypes:=#[26,2]},2,"laws.go:364",#[⟨26,.data⟩,⟨27,.data⟩,⟨25,.chain⟩,⟨18,.guard⟩],some (18,false)⟩) (fun K hK=>?_)
   go_simp
   go_at_call 9
   refine (HB.out _ hx6.1).mono ?_
   rintro e q7 ⟨rfl,hb7⟩
   try go_wp2_with fail
   have hx7:=JX.below hx6 hb7
   refine hK.out _ _ hx7 (fun _=>?_)
   clear hK K
   try simp only [Act.put,SL]
   refine rd 29 (⟨some 122,.binOp BinOp.add 2 (.tmp 118) (.tmp 121) 2,2,"laws.go:364",#[⟨25,.data⟩,⟨28,.data⟩,⟨18,.guard⟩],some (18,false)⟩) (fun K hK=>?_)
   go_simp
   first|rw [HC3.out.2.1]|rw [HC3.out.2.2]|skip
   refine hK.out _ _ hx7 (fun _=>?_)
   clear hK K
   try simp only [Act.put,SL]
   refine rd 30 (⟨some 123,.binOp BinOp.gtr 2 (.tmp 115) (.tmp 122) 2,4,"laws.go:364",#[⟨22,.data⟩,⟨29,.data⟩,⟨18,.guard⟩],some (18,false)⟩) (fun K hK=>?_)
   go_simp
   rw [show decide (pa+pb<pz)=false from decide_eq_false (by have:=HC3.out.1;omega)]
   refine hK.out _ _ hx7 (fun _=>?_)
   clear hK K
   try simp only [Act.put,SL]
   refine tk 31 (⟨some 124,.pick (.tmp 111) (.const (Value.bool true)) (.tmp 123),4,"laws.go:364",#[⟨18,.data⟩,⟨30,.data⟩],none⟩) ?_
   refine wpAnyH_done (by kernel_rfl) ?_ _
   have HXR:=H_ hx7
   clear hx0 hx1 hx2 hx3 hx4 hx5 hx6 hx7 hb1 hb2 hb3 hb4 hb5 hb6 hb7
   go_simp
   go_wp2_with fail
   go_simp
   refine ⟨⟨by omega,by omega⟩,?_⟩
   simp only [intOf]
   omega
  ·have hG:G=5:=by omega
   subst hG
   have HBR:=H_ HR.out.1
   replace HXB5:=H_ (HXB5.out.below HBR.out)
   replace HXB6:=H_ (HXB6.out.below HBR.out)
   replace HXB7:=H_ (HXB7.out.below HBR.out)
   replace HXB9:=H_ (HXB9.out.below HBR.out)
   obtain ⟨y,cy,hy⟩:=jr_ex b c
   have HJ2:=H_ hy
   have HSY:=H_ (jr_sm HSB.out HSC.out hy)
   clear hy HR HVZ HVR HVA HVB HLW HXE
   have HJC:Hid (∀W,Below w8.heap.size w8 W→Calls Tryd.prog 5 #[.agg #[.string b.a,.string b.m,.int .i64 b.mo,.int .i64 b.ev,.int .i64 b.su,.int .i64 b.mx,.slice bt bn btc,.slice bh bk bhc],.agg #[.string c.a,.string c.m,.int .i64 c.mo,.int .i64 c.ev,.int .i64 c.su,.int .i64 c.mx,.slice ct cn ctc,.slice ch ck chc]] W fun e w'=>∃ta tc ha hc,e=.returned (.agg (ocells y ta tc ha hc cy))∧WdP y ta tc ha hc w'∧Below W.heap.size W w'):=H_ (fun W hW=>by
    have e1:=HNB.out;have e2:=HKB.out;have e3:=HNC.out;have e4:=HKC.out
    subst e1 e2 e3 e4
    have h4:=HW8.out.trans (hW.mono HW8.out.size)
    exact impl_jp HJ2.out W (sm_two HSB.out HSC.out) (HL4.out.below h4) (HPB.out.below h4) (HPC8.out.below hW))
   have u0:World.cell? _ ⟨B6,0,none⟩=some (.string b.a):=HXB6.out.2 0 (by simp)
   have u1:World.cell? _ ⟨B6,1,none⟩=some (.string b.m):=HXB6.out.2 1 (by simp)
   have u2:World.cell? _ ⟨B6,2,none⟩=some (.int .i64 b.mo):=HXB6.out.2 2 (by simp)
   have u3:World.cell? _ ⟨B6,3,none⟩=some (.int .i64 b.ev):=HXB6.out.2 3 (by simp)
   have u4:World.cell? _ ⟨B6,4,none⟩=some (.int .i64 b.su):=HXB6.out.2 4 (by simp)
   have u5:World.cell? _ ⟨B6,5,none⟩=some (.int .i64 b.mx):=HXB6.out.2 5 (by simp)
   have u6:World.cell? _ ⟨B6,6,none⟩=some (.slice bt bn btc):=HXB6.out.2 6 (by simp)
   have u7:World.cell? _ ⟨B6,7,none⟩=some (.slice bh bk bhc):=HXB6.out.2 7 (by simp)
   have ul:=HXB6.out.1
   have v0:World.cell? _ ⟨B7,0,none⟩=some (.string c.a):=HXB7.out.2 0 (by simp)
   have v1:World.cell? _ ⟨B7,1,none⟩=some (.string c.m):=HXB7.out.2 1 (by simp)
   have v2:World.cell? _ ⟨B7,2,none⟩=some (.int .i64 c.mo):=HXB7.out.2 2 (by simp)
   have v3:World.cell? _ ⟨B7,3,none⟩=some (.int .i64 c.ev):=HXB7.out.2 3 (by simp)
   have v4:World.cell? _ ⟨B7,4,none⟩=some (.int .i64 c.su):=HXB7.out.2 4 (by simp)
   have v5:World.cell? _ ⟨B7,5,none⟩=some (.int .i64 c.mx):=HXB7.out.2 5 (by simp)
   have v6:World.cell? _ ⟨B7,6,none⟩=some (.slice ct cn ctc):=HXB7.out.2 6 (by simp)
   have v7:World.cell? _ ⟨B7,7,none⟩=some (.slice ch ck chc):=HXB7.out.2 7 (by simp)
   have vl:=HXB7.out.1
   go_wp2_with fail
   clear u0 u1 u2 u3 u4 u5 u6 u7 ul v0 v1 v2 v3 v4 v5 v6 v7 vl
   refine (HJC.out _ HBR.out).mono ?_
   rintro e w9 ⟨yt,ytc,yh,yhc,rfl,py,hb9⟩
   obtain ⟨yn,hny⟩:∃q,q=y.ts.length:=⟨_,rfl⟩
   obtain ⟨yk,hky⟩:∃q,q=y.hs.length:=⟨_,rfl⟩
   unfold ocells
   rw [←hny,←hky]
   have HNY:=H_ hny
   have HKY:=H_ hky
   have HPY:=H_ py
   replace HXB5:=H_ (HXB5.out.below hb9)
   replace HXB7:=H_ (HXB7.out.below hb9)
   replace HXB9:=H_ (HXB9.out.below hb9)
   have HB9:=H_ (HBR.out.trans (hb9.mono HBR.out.size))
   clear HXB6 HBR hb9 py hny hky HJC
   have u0:w9.cell? ⟨B5,0,none⟩=some (.string a.a):=HXB5.out.2 0 (by simp)
   have u1:w9.cell? ⟨B5,1,none⟩=some (.string a.m):=HXB5.out.2 1 (by simp)
   have u2:w9.cell? ⟨B5,2,none⟩=some (.int .i64 a.mo):=HXB5.out.2 2 (by simp)
   have u3:w9.cell? ⟨B5,3,none⟩=some (.int .i64 a.ev):=HXB5.out.2 3 (by simp)
   have u4:w9.cell? ⟨B5,4,none⟩=some (.int .i64 a.su):=HXB5.out.2 4 (by simp)
   have u5:w9.cell? ⟨B5,5,none⟩=some (.int .i64 a.mx):=HXB5.out.2 5 (by simp)
   have u6:w9.cell? ⟨B5,6,none⟩=some (.slice at0 an atc):=HXB5.out.2 6 (by simp)
   have u7:w9.cell? ⟨B5,7,none⟩=some (.slice ah ak ahc):=HXB5.out.2 7 (by simp)
   have ul:=HXB5.out.1
   have v0:w9.cell? ⟨B7,0,none⟩=some (.string c.a):=HXB7.out.2 0 (by simp)
   have v1:w9.cell? ⟨B7,1,none⟩=some (.string c.m):=HXB7.out.2 1 (by simp)
   have v2:w9.cell? ⟨B7,2,none⟩=some (.int .i64 c.mo):=HXB7.out.2 2 (by simp)
   have v3:w9.cell? ⟨B7,3,none⟩=some (.int .i64 c.ev):=HXB7.out.2 3 (by simp)
   have v4:w9.cell? ⟨B7,4,none⟩=some (.int .i64 c.su):=HXB7.out.2 4 (by simp)
   have v5:w9.cell? ⟨B7,5,none⟩=some (.int .i64 c.mx):=HXB7.out.2 5 (by simp)
   have v6:w9.cell? ⟨B7,6,none⟩=some (.slice ct cn ctc):=HXB7.out.2 6 (by simp)
   have v7:w9.cell? ⟨B7,7,none⟩=some (.slice ch ck chc):=HXB7.out.2 7 (by simp)
   have vl:=HXB7.out.1
   have x0:w9.cell? ⟨B9,0,none⟩=some (.string z.a):=HXB9.out.2 0 (by simp)
   have x1:w9.cell? ⟨B9,1,none⟩=some (.string z.m):=HXB9.out.2 1 (by simp)
   have x2:w9.cell? ⟨B9,2,none⟩=some (.int .i64 z.mo):=HXB9.out.2 2 (by simp)
   have x3:w9.cell? ⟨B9,3,none⟩=some (.int .i64 z.ev):=HXB9.out.2 3 (by simp)
   have x4:w9.cell? ⟨B9,4,none⟩=some (.int .i64 z.su):=HXB9.out.2 4 (by simp)
   have x5:w9.cell? ⟨B9,5,none⟩=some (.int .i64 z.mx):=HXB9.out.2 5 (by simp)
   have x6:w9.cell? ⟨B9,6,none⟩=some (.slice zt zn ztc):=HXB9.out.2 6 (by simp)
   have x7:w9.cell? ⟨B9,7,none⟩=some (.slice zh zk zhc):=HXB9.out.2 7 (by simp)
   have xl:=HXB9.out.1
   go_wp2_with fail
   clear u0 u1 u2 u3 u4 u5 u6 u7 ul v0 v1 v2 v3 v4 v5 v6 v7 vl x0 x1 x2 x3 x4 x5 x6 x7 xl
   obtain ⟨B13,hB13⟩:∃q,q=w9.heap.size:=⟨_,rfl⟩
   obtain ⟨w10,hw⟩:∃q,q=w9.alloc (.cells #[.string y.a,.string y.m,.int .i64 y.mo,.int .i64 y.ev,.int .i64 y.su,.int .i64 y.mx,.slice yt yn ytc,.slice yh yk yhc,.int .i64 cy] 30):=⟨_,rfl⟩
   have hal:Below w9.heap.size w9 w10:=by rw [hw];exact (Below.refl _ _).alloc (Nat.le_refl _) _
   have HXB13:Hid (Blk B13 [.string y.a,.string y.m,.int .i64 y.mo,.int .i64 y.ev,.int .i64 y.su,.int .i64 y.mx,.slice yt yn ytc,.slice yh yk yhc,.int .i64 cy] w10):=H_ (by rw [hB13,hw];exact Blk.new w9 [.string y.a,.string y.m,.int .i64 y.mo,.int .i64 y.ev,.int .i64 y.su,.int .i64 y.mx,.slice yt yn ytc,.slice yh yk yhc,.int .i64 cy] _)
   rw [←hB13,←hw]
   clear hw hB13
   replace HXB5:=H_ (HXB5.out.below hal)
   replace HXB7:=H_ (HXB7.out.below hal)
   replace HXB9:=H_ (HXB9.out.below hal)
   replace HPY:=H_ (HPY.out.below hal)
   have HB10:=H_ (HB9.out.trans (hal.mono HB9.out.size))
   clear hal HB9
   obtain ⟨l,cl,hjl⟩:=jr_ex z c
   obtain ⟨r,cr,hjr⟩:=jr_ex a y
   have HJL:=H_ hjl
   have HJR:=H_ hjr
   have HSL:=H_ (jr_sm HSZ.out HSC.out hjl)
   have HSR:=H_ (jr_sm HSA.out HSY.out hjr)
   clear hjl hjr
   obtain ⟨ln,hnl⟩:∃q,q=l.ts.length:=⟨_,rfl⟩
   obtain ⟨lk,hkl⟩:∃q,q=l.hs.length:=⟨_,rfl⟩
   obtain ⟨rn,hnr⟩:∃q,q=r.ts.length:=⟨_,rfl⟩
   obtain ⟨rk,hkr⟩:∃q,q=r.hs.length:=⟨_,rfl⟩
   have HNL:=H_ hnl
   have HKL:=H_ hkl
   have HNR:=H_ hnr
   have HKR:=H_ hkr
   clear hnl hkl hnr hkr
   have HL15:Hid (∀W,Below w10.heap.size w10 W→Calls Tryd.prog 5 #[.agg #[.string z.a,.string z.m,.int .i64 z.mo,.int .i64 z.ev,.int .i64 z.su,.int .i64 z.mx,.slice zt zn ztc,.slice zh zk zhc],.agg #[.string c.a,.string c.m,.int .i64 c.mo,.int .i64 c.ev,.int .i64 c.su,.int .i64 c.mx,.slice ct cn ctc,.slice ch ck chc]] W fun e w'=>∃lt ltc lh lhc,e=.returned (.agg #[.string l.a,.string l.m,.int .i64 l.mo,.int .i64 l.ev,.int .i64 l.su,.int .i64 l.mx,.slice lt ln ltc,.slice lh lk lhc,.int .i64 cl])∧(WdP l lt ltc lh lhc w'∧WdB W.heap.size l lt lh)∧Below W.heap.size W w'):=H_ (fun W hW=>by
    have e0:=HNZ.out;have e1:=HKZ.out;have e2:=HNC.out;have e3:=HKC.out;have e4:=HNL.out;have e5:=HKL.out;subst e0 e1 e2 e3 e4 e5
    have h8:=HB10.out.trans (hW.mono HB10.out.size)
    have h4:=HW8.out.trans (h8.mono HW8.out.size)
    exact impl_jr HJL.out W (sm_two HSZ.out HSC.out) (HL4.out.below h4) (HPZ.out.below h8) (HPC8.out.below h8))
   have HR15:Hid (∀W,Below w10.heap.size w10 W→Calls Tryd.prog 5 #[.agg #[.string a.a,.string a.m,.int .i64 a.mo,.int .i64 a.ev,.int .i64 a.su,.int .i64 a.mx,.slice at0 an atc,.slice ah ak ahc],.agg #[.string y.a,.string y.m,.int .i64 y.mo,.int .i64 y.ev,.int .i64 y.su,.int .i64 y.mx,.slice yt yn ytc,.slice yh yk yhc]] W fun e w'=>∃rt rtc rh rhc,e=.returned (.agg #[.string r.a,.string r.m,.int .i64 r.mo,.int .i64 r.ev,.int .i64 r.su,.int .i64 r.mx,.slice rt rn rtc,.slice rh rk rhc,.int .i64 cr])∧(WdP r rt rtc rh rhc w'∧WdB W.heap.size r rt rh)∧Below W.heap.size W w'):=H_ (fun W hW=>by
    have e0:=HNA.out;have e1:=HKA.out;have e2:=HNY.out;have e3:=HKY.out;have e4:=HNR.out;have e5:=HKR.out;subst e0 e1 e2 e3 e4 e5
    have h8:=HB10.out.trans (hW.mono HB10.out.size)
    have h4:=HW8.out.trans (h8.mono HW8.out.size)
    exact impl_jr HJR.out W (sm_two HSA.out HSY.out) (HL4.out.below h4) (HPA.out.below h4) (HPY.out.below hW))
   have HXJ:Hid (JX w10 B5 B7 B9 B13 [.string a.a,.string a.m,.int .i64 a.mo,.int .i64 a.ev,.int .i64 a.su,.int .i64 a.mx,.slice at0 an atc,.slice ah ak ahc] [.string c.a,.string c.m,.int .i64 c.mo,.int .i64 c.ev,.int .i64 c.su,.int .i64 c.mx,.slice ct cn ctc,.slice ch ck chc] [.string z.a,.string z.m,.int .i64 z.mo,.int .i64 z.ev,.int .i64 z.su,.int .i64 z.mx,.slice zt zn ztc,.slice zh zk zhc,.int .i64 0] [.string y.a,.string y.m,.int .i64 y.mo,.int .i64 y.ev,.int .i64 y.su,.int .i64 y.mx,.slice yt yn ytc,.slice yh yk yhc,.int .i64 cy] w10):=H_ ⟨Below.refl _ _,HXB5.out.1,HXB7.out.1,HXB9.out.1,HXB13.out.1,cc_blk HXB5.out,cc_blk HXB7.out,cc_blk HXB9.out,cc_blk HXB13.out⟩
   go_cut [14,15] from 128 (fun v14 v15 wx=>∃bL bR,v14=.pointer (some ⟨bL,0,none⟩)∧v15=.pointer (some ⟨bR,0,none⟩)∧Hid (∃lt ltc lh lhc rt rtc rh rhc,Blk bL [.string l.a,.string l.m,.int .i64 l.mo,.int .i64 l.ev,.int .i64 l.su,.int .i64 l.mx,.slice lt ln ltc,.slice lh lk lhc,.int .i64 cl] wx∧Blk bR [.string r.a,.string r.m,.int .i64 r.mo,.int .i64 r.ev,.int .i64 r.su,.int .i64 r.mx,.slice rt rn rtc,.slice rh rk rhc,.int .i64 cr] wx∧WdP l lt ltc lh lhc wx∧WdP r rt rtc rh rhc wx)∧Hid (JX w10 B5 B7 B9 B13 [.string a.a,.string a.m,.int .i64 a.mo,.int .i64 a.ev,.int .i64 a.su,.int .i64 a.mx,.slice at0 an atc,.slice ah ak ahc] [.string c.a,.string c.m,.int .i64 c.mo,.int .i64 c.ev,.int .i64 c.su,.int .i64 c.mx,.slice ct cn ctc,.slice ch ck chc] [.string z.a,.string z.m,.int .i64 z.mo,.int .i64 z.ev,.int .i64 z.su,.int .i64 z.mx,.slice zt zn ztc,.slice zh zk zhc,.int .i64 0] [.string y.a,.string y.m,.int .i64 y.mo,.int .i64 y.ev,.int .i64 y.su,.int .i64 y.mx,.slice yt yn ytc,.slice yh yk yhc,.int .i64 cy] wx))
   case first =>
    have a5:=HXJ.out.2.1
    have a7:=HXJ.out.2.2.1
    have a9:=HXJ.out.2.2.2.1
    have a13:=HXJ.out.2.2.2.2.1
    have HXK:=H_ (HXJ.out.below (Below.refl _ _).drew)
    refine wp_region_held_drew (S:=(fun W=>Below w10.heap.size w10 W∧B5<W.heap.size∧B7<W.heap.size∧B9<W.heap.size∧B13<W.heap.size∧(W.cell? ⟨B5,0,none⟩=some (.string a.a)∧W.cell? ⟨B5,1,none⟩=some (.string a.m)∧W.cell? ⟨B5,2,none⟩=some (.int .i64 a.mo)∧W.cell? ⟨B5,3,none⟩=some (.int .i64 a.ev)∧W.cell? ⟨B5,4,none⟩=some (.int .i64 a.su)∧W.cell? ⟨B5,5,none⟩=some (.int .i64 a.mx)∧W.cell? ⟨B5,6,none⟩=some (.slice at0 an atc)∧W.cell? ⟨B5,7,none⟩=some (.slice ah ak ahc)∧True)∧(W.cell? ⟨B7,0,none⟩=some (.string c.a)∧W.cell? ⟨B7,1,none⟩=some (.string c.m)∧W.cell? ⟨B7,2,none⟩=some (.int .i64 c.mo)∧W.cell? ⟨B7,3,none⟩=some (.int .i64 c.ev)∧W.cell? ⟨B7,4,none⟩=some (.int .i64 c.su)∧W.cell? ⟨B7,5,none⟩=some (.int .i64 c.mx)∧W.cell? ⟨B7,6,none⟩=some (.slice ct cn ctc)∧W.cell? ⟨B7,7,none⟩=some (.slice ch ck chc)∧True)∧(W.cell? ⟨B9,0,none⟩=some (.string z.a)∧W.cell? ⟨B9,1,none⟩=some (.string z.m)∧W.cell? ⟨B9,2,none⟩=some (.int .i64 z.mo)∧W.cell? ⟨B9,3,none⟩=some (.int .i64 z.ev)∧W.cell? ⟨B9,4,none⟩=some (.int .i64 z.su)∧W.cell? ⟨B9,5,none⟩=some (.int .i64 z.mx)∧W.cell? ⟨B9,6,none⟩=some (.slice zt zn ztc)∧W.cell? ⟨B9,7,none⟩=some (.slice zh zk zhc)∧W.cell? ⟨B9,8,none⟩=some (.int .i64 0)∧True)∧(W.cell? ⟨B13,0,none⟩=some (.string y.a)∧W.cell? ⟨B13,1,none⟩=some (.string y.m)∧W.cell? ⟨B13,2,none⟩=some (.int .i64 y.mo)∧W.cell? ⟨B13,3,none⟩=some (.int .i64 y.ev)∧W.cell? ⟨B13,4,none⟩=some (.int .i64 y.su)∧W.cell? ⟨B13,5,none⟩=some (.int .i64 y.mx)∧W.cell? ⟨B13,6,none⟩=some (.slice yt yn ytc)∧W.cell? ⟨B13,7,none⟩=some (.slice yh yk yhc)∧W.cell? ⟨B13,8,none⟩=some (.int .i64 cy)∧True))) (by kernel_rfl) HXK.out (fun hHeld=>?_)
    have hx0:=HXK.out
    clear HXK
    generalize World.drew _=kd at *
    refine tk 0 (⟨some 128,.fieldAddr 30 (.tmp 9) 0,0,"laws.go:369",#[],none⟩) ?_
    refine tk 1 (⟨some 129,.load 26 (.tmp 128),26,"laws.go:369",#[⟨0,.data⟩],none⟩) ?_
    refine tk 2 (⟨some 130,.load 26 (.tmp 7),26,"laws.go:369",#[],none⟩) ?_
    refine tk 4 (⟨some 132,.load 26 (.tmp 5),26,"laws.go:369",#[],none⟩) ?_
    refine tk 5 (⟨some 133,.fieldAddr 30 (.tmp 13) 0,0,"laws.go:369",#[],none⟩) ?_
    refine tk 6 (⟨some 134,.load 26 (.tmp 133),26,"laws.go:369",#[⟨5,.data⟩],none⟩) ?_
    refine wpAnyH_ready (rs:=[3,8,9]) (by kernel_rfl) (by simp) ?_
    refine AllReadyH.cons (o:=⟨some 131,.call {callee:=Callee.value (.func 5),args:=#[.tmp 129,.tmp 130],argTypes:=#[26,26]},30,"laws.go:369",#[⟨1,.data⟩,⟨2,.data⟩],none⟩) rfl (fun K hK=>?_) (AllReadyH.cons (o:=⟨some 14,.alloc 30,0,"laws.go:369",#[],none⟩) rfl (fun K hK=>?_) (AllReadyH.cons (o:=⟨some 15,.alloc 30,0,"laws.go:369",#[],none⟩) rfl (fun K hK=>?_) AllReadyH.nil))
    ·go_simp
     go_at_call 5
     refine (HL15.out _ hx0.1).mono ?_
     rintro e t1 ⟨lt,ltc,lh,lhc,rfl,⟨pw1,bw1⟩,hb1⟩
     try go_wp2_with fail
     have hx1:=JX.below hx0 hb1
     clear hb1 bw1
     refine hK.out _ _ hx1 (fun _=>?_)
     clear hK K
     try simp only [Act.put,SL]
     refine wpAnyH_ready (rs:=[7,8,9]) (by kernel_rfl) (by simp) ?_
     refine AllReadyH.cons (o:=⟨some 135,.call {callee:=Callee.value (.func 5),args:=#[.tmp 132,.tmp 134],argTypes:=#[26,26]},30,"laws.go:369",#[⟨4,.data⟩,⟨6,.data⟩,⟨3,.chain⟩],none⟩) rfl (fun K hK=>?_) (AllReadyH.cons (o:=⟨some 14,.alloc 30,0,"laws.go:369",#[],none⟩) rfl (fun K hK=>?_) (AllReadyH.cons (o:=⟨some 15,.alloc 30,0,"laws.go:369",#[],none⟩) rfl (fun K hK=>?_) AllReadyH.nil))
     ·go_simp
      go_at_call 5
      refine (HR15.out _ hx1.1).mono ?_
      rintro e t2 ⟨rt,rtc,rh,rhc,rfl,⟨pw2,bw2⟩,hb2⟩
      try go_wp2_with fail
      have hx2:=JX.below hx1 hb2
      have prl2:=pw1.below hb2
      clear hb2 bw2
      refine hK.out _ _ hx2 (fun _=>?_)
      clear hK K
      try simp only [Act.put,SL]
      refine wpAnyH_ready (rs:=[8,9]) (by kernel_rfl) (by simp) ?_
      refine AllReadyH.cons (o:=⟨some 14,.alloc 30,0,"laws.go:369",#[],none⟩) rfl (fun K hK=>?_) (AllReadyH.cons (o:=⟨some 15,.alloc 30,0,"laws.go:369",#[],none⟩) rfl (fun K hK=>?_) AllReadyH.nil)
      ·go_simp
       try go_wp2_with fail
       obtain ⟨bL,hB3⟩:∃q,q=t2.heap.size:=⟨_,rfl⟩
       obtain ⟨k3,hk3⟩:∃q,q=t2.alloc (.cells #[.string ⟨#[]⟩,.string ⟨#[]⟩,.int .i64 0,.int .i64 0,.int .i64 0,.int .i64 0,.slice none 0 0,.slice none 0 0,.int .i64 0] 30):=⟨_,rfl⟩
       have al3:Below t2.heap.size t2 k3:=by rw [hk3];exact (Below.refl _ _).alloc (Nat.le_refl _) _
       have hx3:=JX.below hx2 al3
       have loL:w10.heap.size≤bL:=by rw [hB3];exact hx2.1.size
       have xalL:WdX bL l lt lh:=prl2.apart (Nat.le_of_eq hB3.symm)
       have xarL:WdX bL r rt rh:=pw2.apart (Nat.le_of_eq hB3.symm)
       have prl3:=prl2.below al3
       have prr3:=pw2.below al3
       have ptL3:EvtR.Pt bL 9 k3:=by rw [hB3,hk3];exact StR.pt_new t2 [.string ⟨#[]⟩,.string ⟨#[]⟩,.int .i64 0,.int .i64 0,.int .i64 0,.int .i64 0,.slice none 0 0,.slice none 0 0,.int .i64 0] 30
       rw [←hk3,←hB3]
       clear hk3 hB3 al3
       refine hK.out _ _ hx3 (fun _=>?_)
       clear hK K
       try simp only [Act.put,SL]
       refine rd 9 (⟨some 15,.alloc 30,0,"laws.go:369",#[],none⟩) (fun K hK=>?_)
       go_simp
       try go_wp2_with fail
       obtain ⟨bR,hB4⟩:∃q,q=k3.heap.size:=⟨_,rfl⟩
       obtain ⟨k4,hk4⟩:∃q,q=k3.alloc (.cells #[.string ⟨#[]⟩,.string ⟨#[]⟩,.int .i64 0,.int .i64 0,.int .i64 0,.int .i64 0,.slice none 0 0,.slice none 0 0,.int .i64 0] 30):=⟨_,rfl⟩
       have al4:Below k3.heap.size k3 k4:=by rw [hk4];exact (Below.refl _ _).alloc (Nat.le_refl _) _
       have hx4:=JX.below hx3 al4
       have loR:w10.heap.size≤bR:=by rw [hB4];exact hx3.1.size
       have neLR:bL≠bR:=by have:=ptL3.lt;omega
       have xalR:WdX bR l lt lh:=prl3.apart (Nat.le_of_eq hB4.symm)
       have xarR:WdX bR r rt rh:=prr3.apart (Nat.le_of_eq hB4.symm)
       have ptL4:=ptL3.below al4
       have prl4:=prl3.below al4
       have prr4:=prr3.below al4
       have ptR4:EvtR.Pt bR 9 k4:=by rw [hB4,hk4];exact StR.pt_new k3 [.string ⟨#[]⟩,.string ⟨#[]⟩,.int .i64 0,.int .i64 0,.int .i64 0,.int .i64 0,.slice none 0 0,.slice none 0 0,.int .i64 0] 30
       rw [←hk4,←hB4]
       clear hk4 hB4 al4
       refine hK.out _ _ hx4 (fun _=>?_)
       clear hK K
       try simp only [Act.put,SL]
       refine rd 10 (⟨none,.store 30 (.tmp 14) (.tmp 131),0,"laws.go:369",#[⟨8,.data⟩,⟨3,.data⟩,⟨7,.chain⟩,⟨0,.phase⟩,⟨1,.phase⟩,⟨2,.phase⟩,⟨3,.phase⟩,{on:=4,ground:=Ground.textOnly Departure.lateStores},{on:=5,ground:=Ground.textOnly Departure.lateStores},{on:=6,ground:=Ground.textOnly Departure.lateStores},{on:=7,ground:=Ground.textOnly Departure.lateStoresUnsure},⟨8,.phase⟩,⟨9,.phase⟩],none⟩) (fun K hK=>?_)
       have zl5:=ptL4.lt
       obtain ⟨e5_0,u5_0⟩:=ptL4.has 0 (by omega)
       have w5_0:=ptL4.free 0 (by omega)
       obtain ⟨e5_1,u5_1⟩:=ptL4.has 1 (by omega)
       have w5_1:=ptL4.free 1 (by omega)
       obtain ⟨e5_2,u5_2⟩:=ptL4.has 2 (by omega)
       have w5_2:=ptL4.free 2 (by omega)
       obtain ⟨e5_3,u5_3⟩:=ptL4.has 3 (by omega)
       have w5_3:=ptL4.free 3 (by omega)
       obtain ⟨e5_4,u5_4⟩:=ptL4.has 4 (by omega)
       have w5_4:=ptL4.free 4 (by omega)
       obtain ⟨e5_5,u5_5⟩:=ptL4.has 5 (by omega)
       have w5_5:=ptL4.free 5 (by omega)
       obtain ⟨e5_6,u5_6⟩:=ptL4.has 6 (by omega)
       have w5_6:=ptL4.free 6 (by omega)
       obtain ⟨e5_7,u5_7⟩:=ptL4.has 7 (by omega)
       have w5_7:=ptL4.free 7 (by omega)
       obtain ⟨e5_8,u5_8⟩:=ptL4.has 8 (by omega)
       have w5_8:=ptL4.free 8 (by omega)
       go_simp
       try go_wp2_with fail
       obtain ⟨s5,hs5⟩:∃q,q=StR.stL k4 bL 0 [.string l.a,.string l.m,.int .i64 l.mo,.int .i64 l.ev,.int .i64 l.su,.int .i64 l.mx,.slice lt ln ltc,.slice lh lk lhc,.int .i64 cl]:=⟨_,rfl⟩
       have hg5:k4.grownBy s5 (some bL):=by rw [hs5];exact StR.stL_grown _ _ 0 _
       have kbL5:Blk bL [.string l.a,.string l.m,.int .i64 l.mo,.int .i64 l.ev,.int .i64 l.su,.int .i64 l.mx,.slice lt ln ltc,.slice lh lk lhc,.int .i64 cl] s5:=by rw [hs5];exact StR.stL_blk ptL4 (by simp)
       simp only [StR.stL,Nat.zero_add,Nat.reduceAdd] at hs5
       rw [←hs5]
       clear hs5 zl5 u5_0 w5_0 u5_1 w5_1 u5_2 w5_2 u5_3 w5_3 u5_4 w5_4 u5_5 w5_5 u5_6 w5_6 u5_7 w5_7 u5_8 w5_8
       have hx5:=JX.far hx4 hg5 loL a5 a7 a9 a13
       have ptR5:=StR.pt_far ptR4 hg5 neLR.symm
       have prl5:=prl4.far hg5 xalL
       have prr5:=prr4.far hg5 xarL
       refine hK.out _ _ hx5 (fun _=>?_)
       clear hK K
       try simp only [Act.put,SL]
       refine rd 11 (⟨none,.store 30 (.tmp 15) (.tmp 135),0,"laws.go:369",#[⟨9,.data⟩,⟨7,.data⟩,⟨10,.chain⟩,⟨0,.phase⟩,⟨1,.phase⟩,⟨2,.phase⟩,⟨3,.phase⟩,⟨4,.phase⟩,⟨5,.phase⟩,⟨6,.phase⟩,⟨7,.phase⟩,⟨8,.phase⟩,⟨9,.phase⟩,⟨10,.phase⟩],none⟩) (fun K hK=>?_)
       have zl6:=ptR5.lt
       obtain ⟨e6_0,u6_0⟩:=ptR5.has 0 (by omega)
       have w6_0:=ptR5.free 0 (by omega)
       obtain ⟨e6_1,u6_1⟩:=ptR5.has 1 (by omega)
       have w6_1:=ptR5.free 1 (by omega)
       obtain ⟨e6_2,u6_2⟩:=ptR5.has 2 (by omega)
       have w6_2:=ptR5.free 2 (by omega)
       obtain ⟨e6_3,u6_3⟩:=ptR5.has 3 (by omega)
       have w6_3:=ptR5.free 3 (by omega)
       obtain ⟨e6_4,u6_4⟩:=ptR5.has 4 (by omega)
       have w6_4:=ptR5.free 4 (by omega)
       obtain ⟨e6_5,u6_5⟩:=ptR5.has 5 (by omega)
       have w6_5:=ptR5.free 5 (by omega)
       obtain ⟨e6_6,u6_6⟩:=ptR5.has 6 (by omega)
       have w6_6:=ptR5.free 6 (by omega)
       obtain ⟨e6_7,u6_7⟩:=ptR5.has 7 (by omega)
       have w6_7:=ptR5.free 7 (by omega)
       obtain ⟨e6_8,u6_8⟩:=ptR5.has 8 (by omega)
       have w6_8:=ptR5.free 8 (by omega)
       go_simp
       try go_wp2_with fail
       obtain ⟨s6,hs6⟩:∃q,q=StR.stL s5 bR 0 [.string r.a,.string r.m,.int .i64 r.mo,.int .i64 r.ev,.int .i64 r.su,.int .i64 r.mx,.slice rt rn rtc,.slice rh rk rhc,.int .i64 cr]:=⟨_,rfl⟩
       have hg6:s5.grownBy s6 (some bR):=by rw [hs6];exact StR.stL_grown _ _ 0 _
       have kbR6:Blk bR [.string r.a,.string r.m,.int .i64 r.mo,.int .i64 r.ev,.int .i64 r.su,.int .i64 r.mx,.slice rt rn rtc,.slice rh rk rhc,.int .i64 cr] s6:=by rw [hs6];exact StR.stL_blk ptR5 (by simp)
       simp only [StR.stL,Nat.zero_add,Nat.reduceAdd] at hs6
       rw [←hs6]
       clear hs6 zl6 u6_0 w6_0 u6_1 w6_1 u6_2 w6_2 u6_3 w6_3 u6_4 w6_4 u6_5 w6_5 u6_6 w6_6 u6_7 w6_7 u6_8 w6_8
       have hx6:=JX.far hx5 hg6 loR a5 a7 a9 a13
       have kbL6:=StR.blk_far kbL5 hg6 neLR
       have prl6:=prl5.far hg6 xalR
       have prr6:=prr5.far hg6 xarR
       refine hK.out _ _ hx6 (fun _=>?_)
       clear hK K
       try simp only [Act.put,SL]
       refine wpAnyH_done (by kernel_rfl) ?_ _
       have HLR:=H_ (show ∃lt ltc lh lhc rt rtc rh rhc,Blk bL [.string l.a,.string l.m,.int .i64 l.mo,.int .i64 l.ev,.int .i64 l.su,.int .i64 l.mx,.slice lt ln ltc,.slice lh lk lhc,.int .i64 cl] s6∧Blk bR [.string r.a,.string r.m,.int .i64 r.mo,.int .i64 r.ev,.int .i64 r.su,.int .i64 r.mx,.slice rt rn rtc,.slice rh rk rhc,.int .i64 cr] s6∧WdP l lt ltc lh lhc s6∧WdP r rt rtc rh rhc s6 from ⟨lt,ltc,lh,lhc,rt,rtc,rh,rhc,kbL6,kbR6,prl6,prr6⟩)
       have HEE:=H_ hx6
       go_wp2_with fail
       go_meet
       case rel=>exact ⟨_,_,rfl,rfl,HLR,HEE⟩
      ·go_simp
       try go_wp2_with fail
       obtain ⟨bR,hB3⟩:∃q,q=t2.heap.size:=⟨_,rfl⟩
       obtain ⟨k3,hk3⟩:∃q,q=t2.alloc (.cells #[.string ⟨#[]⟩,.string ⟨#[]⟩,.int .i64 0,.int .i64 0,.int .i64 0,.int .i64 0,.slice none 0 0,.slice none 0 0,.int .i64 0] 30):=⟨_,rfl⟩
       have al3:Below t2.heap.size t2 k3:=by rw [hk3];exact (Below.refl _ _).alloc (Nat.le_refl _) _
       have hx3:=JX.below hx2 al3
       have loR:w10.heap.size≤bR:=by rw [hB3];exact hx2.1.size
       have xalR:WdX bR l lt lh:=prl2.apart (Nat.le_of_eq hB3.symm)
       have xarR:WdX bR r rt rh:=pw2.apart (Nat.le_of_eq hB3.symm)
       have prl3:=prl2.below al3
       have prr3:=pw2.below al3
       have ptR3:EvtR.Pt bR 9 k3:=by rw [hB3,hk3];exact StR.pt_new t2 [.string ⟨#[]⟩,.string ⟨#[]⟩,.int .i64 0,.int .i64 0,.int .i64 0,.int .i64 0,.slice none 0 0,.slice none 0 0,.int .i64 0] 30
       rw [←hk3,←hB3]
       clear hk3 hB3 al3
       refine hK.out _ _ hx3 (fun _=>?_)
       clear hK K
       try simp only [Act.put,SL]
       refine rd 8 (⟨some 14,.alloc 30,0,"laws.go:369",#[],none⟩) (fun K hK=>?_)
       go_simp
       try go_wp2_with fail
       obtain ⟨bL,hB4⟩:∃q,q=k3.heap.size:=⟨_,rfl⟩
       obtain ⟨k4,hk4⟩:∃q,q=k3.alloc (.cells #[.string ⟨#[]⟩,.string ⟨#[]⟩,.int .i64 0,.int .i64 0,.int .i64 0,.int .i64 0,.slice none 0 0,.slice none 0 0,.int .i64 0] 30):=⟨_,rfl⟩
       have al4:Below k3.heap.size k3 k4:=by rw [hk4];exact (Below.refl _ _).alloc (Nat.le_refl _) _
       have hx4:=JX.below hx3 al4
       have loL:w10.heap.size≤bL:=by rw [hB4];exact hx3.1.size
       have neRL:bR≠bL:=by have:=ptR3.lt;omega
       have xalL:WdX bL l lt lh:=prl3.apart (Nat.le_of_eq hB4.symm)
       have xarL:WdX bL r rt rh:=prr3.apart (Nat.le_of_eq hB4.symm)
       have ptR4:=ptR3.below al4
       have prl4:=prl3.below al4
       have prr4:=prr3.below al4
       have ptL4:EvtR.Pt bL 9 k4:=by rw [hB4,hk4];exact StR.pt_new k3 [.string ⟨#[]⟩,.string ⟨#[]⟩,.int .i64 0,.int .i64 0,.int .i64 0,.int .i64 0,.slice none 0 0,.slice none 0 0,.int .i64 0] 30
       rw [←hk4,←hB4]
       clear hk4 hB4 al4
       refine hK.out _ _ hx4 (fun _=>?_)
       clear hK K
       try simp only [Act.put,SL]
       refine rd 10 (⟨none,.store 30 (.tmp 14) (.tmp 131),0,"laws.go:369",#[⟨8,.data⟩,⟨3,.data⟩,⟨7,.chain⟩,⟨0,.phase⟩,⟨1,.phase⟩,⟨2,.phase⟩,⟨3,.phase⟩,{on:=4,ground:=Ground.textOnly Departure.lateStores},{on:=5,ground:=Ground.textOnly Departure.lateStores},{on:=6,ground:=Ground.textOnly Departure.lateStores},{on:=7,ground:=Ground.textOnly Departure.lateStoresUnsure},⟨8,.phase⟩,⟨9,.phase⟩],none⟩) (fun K hK=>?_)
       have zl5:=ptL4.lt
       obtain ⟨e5_0,u5_0⟩:=ptL4.has 0 (by omega)
       have w5_0:=ptL4.free 0 (by omega)
       obtain ⟨e5_1,u5_1⟩:=ptL4.has 1 (by omega)
       have w5_1:=ptL4.free 1 (by omega)
       obtain ⟨e5_2,u5_2⟩:=ptL4.has 2 (by omega)
       have w5_2:=ptL4.free 2 (by omega)
       obtain ⟨e5_3,u5_3⟩:=ptL4.has 3 (by omega)
       have w5_3:=ptL4.free 3 (by omega)
       obtain ⟨e5_4,u5_4⟩:=ptL4.has 4 (by omega)
       have w5_4:=ptL4.free 4 (by omega)
       obtain ⟨e5_5,u5_5⟩:=ptL4.has 5 (by omega)
       have w5_5:=ptL4.free 5 (by omega)
       obtain ⟨e5_6,u5_6⟩:=ptL4.has 6 (by omega)
       have w5_6:=ptL4.free 6 (by omega)
       obtain ⟨e5_7,u5_7⟩:=ptL4.has 7 (by omega)
       have w5_7:=ptL4.free 7 (by omega)
       obtain ⟨e5_8,u5_8⟩:=ptL4.has 8 (by omega)
       have w5_8:=ptL4.free 8 (by omega)
       go_simp
       try go_wp2_with fail
       obtain ⟨s5,hs5⟩:∃q,q=StR.stL k4 bL 0 [.string l.a,.string l.m,.int .i64 l.mo,.int .i64 l.ev,.int .i64 l.su,.int .i64 l.mx,.slice lt ln ltc,.slice lh lk lhc,.int .i64 cl]:=⟨_,rfl⟩
       have hg5:k4.grownBy s5 (some bL):=by rw [hs5];exact StR.stL_grown _ _ 0 _
       have kbL5:Blk bL [.string l.a,.string l.m,.int .i64 l.mo,.int .i64 l.ev,.int .i64 l.su,.int .i64 l.mx,.slice lt ln ltc,.slice lh lk lhc,.int .i64 cl] s5:=by rw [hs5];exact StR.stL_blk ptL4 (by simp)
       simp only [StR.stL,Nat.zero_add,Nat.reduceAdd] at hs5
       rw [←hs5]
       clear hs5 zl5 u5_0 w5_0 u5_1 w5_1 u5_2 w5_2 u5_3 w5_3 u5_4 w5_4 u5_5 w5_5 u5_6 w5_6 u5_7 w5_7 u5_8 w5_8
       have hx5:=JX.far hx4 hg5 loL a5 a7 a9 a13
       have ptR5:=StR.pt_far ptR4 hg5 neRL
       have prl5:=prl4.far hg5 xalL
       have prr5:=prr4.far hg5 xarL
       refine hK.out _ _ hx5 (fun _=>?_)
       clear hK K
       try simp only [Act.put,SL]
       refine rd 11 (⟨none,.store 30 (.tmp 15) (.tmp 135),0,"laws.go:369",#[⟨9,.data⟩,⟨7,.data⟩,⟨10,.chain⟩,⟨0,.phase⟩,⟨1,.phase⟩,⟨2,.phase⟩,⟨3,.phase⟩,⟨4,.phase⟩,⟨5,.phase⟩,⟨6,.phase⟩,⟨7,.phase⟩,⟨8,.phase⟩,⟨9,.phase⟩,⟨10,.phase⟩],none⟩) (fun K hK=>?_)
       have zl6:=ptR5.lt
       obtain ⟨e6_0,u6_0⟩:=ptR5.has 0 (by omega)
       have w6_0:=ptR5.free 0 (by omega)
       obtain ⟨e6_1,u6_1⟩:=ptR5.has 1 (by omega)
       have w6_1:=ptR5.free 1 (by omega)
       obtain ⟨e6_2,u6_2⟩:=ptR5.has 2 (by omega)
       have w6_2:=ptR5.free 2 (by omega)
       obtain ⟨e6_3,u6_3⟩:=ptR5.has 3 (by omega)
       have w6_3:=ptR5.free 3 (by omega)
       obtain ⟨e6_4,u6_4⟩:=ptR5.has 4 (by omega)
       have w6_4:=ptR5.free 4 (by omega)
       obtain ⟨e6_5,u6_5⟩:=ptR5.has 5 (by omega)
       have w6_5:=ptR5.free 5 (by omega)
       obtain ⟨e6_6,u6_6⟩:=ptR5.has 6 (by omega)
       have w6_6:=ptR5.free 6 (by omega)
       obtain ⟨e6_7,u6_7⟩:=ptR5.has 7 (by omega)
       have w6_7:=ptR5.free 7 (by omega)
       obtain ⟨e6_8,u6_8⟩:=ptR5.has 8 (by omega)
       have w6_8:=ptR5.free 8 (by omega)
       go_simp
       try go_wp2_with fail
       obtain ⟨s6,hs6⟩:∃q,q=StR.stL s5 bR 0 [.string r.a,.string r.m,.int .i64 r.mo,.int .i64 r.ev,.int .i64 r.su,.int .i64 r.mx,.slice rt rn rtc,.slice rh rk rhc,.int .i64 cr]:=⟨_,rfl⟩
       have hg6:s5.grownBy s6 (some bR):=by rw [hs6];exact StR.stL_grown _ _ 0 _
       have kbR6:Blk bR [.string r.a,.string r.m,.int .i64 r.mo,.int .i64 r.ev,.int .i64 r.su,.int .i64 r.mx,.slice rt rn rtc,.slice rh rk rhc,.int .i64 cr] s6:=by rw [hs6];exact StR.stL_blk ptR5 (by simp)
       simp only [StR.stL,Nat.zero_add,Nat.reduceAdd] at hs6
       rw [←hs6]
       clear hs6 zl6 u6_0 w6_0 u6_1 w6_1 u6_2 w6_2 u6_3 w6_3 u6_4 w6_4 u6_5 w6_5 u6_6 w6_6 u6_7 w6_7 u6_8 w6_8
       have hx6:=JX.far hx5 hg6 loR a5 a7 a9 a13
       have kbL6:=StR.blk_far kbL5 hg6 neRL.symm
       have prl6:=prl5.far hg6 xalR
       have prr6:=prr5.far hg6 xarR
       refine hK.out _ _ hx6 (fun _=>?_)
       clear hK K
       try simp only [Act.put,SL]
       refine wpAnyH_done (by kernel_rfl) ?_ _
       have HLR:=H_ (show ∃lt ltc lh lhc rt rtc rh rhc,Blk bL [.string l.a,.string l.m,.int .i64 l.mo,.int .i64 l.ev,.int .i64 l.su,.int .i64 l.mx,.slice lt ln ltc,.slice lh lk lhc,.int .i64 cl] s6∧Blk bR [.string r.a,.string r.m,.int .i64 r.mo,.int .i64 r.ev,.int .i64 r.su,.int .i64 r.mx,.slice rt rn rtc,.slice rh rk rhc,.int .i64 cr] s6∧WdP l lt ltc lh lhc s6∧WdP r rt rtc rh rhc s6 from ⟨lt,ltc,lh,lhc,rt,rtc,rh,rhc,kbL6,kbR6,prl6,prr6⟩)
       have HEE:=H_ hx6
       go_wp2_with fail
       go_meet
       case rel=>exact ⟨_,_,rfl,rfl,HLR,HEE⟩
     ·go_simp
      try go_wp2_with fail
      obtain ⟨bL,hB2⟩:∃q,q=t1.heap.size:=⟨_,rfl⟩
      obtain ⟨k2,hk2⟩:∃q,q=t1.alloc (.cells #[.string ⟨#[]⟩,.string ⟨#[]⟩,.int .i64 0,.int .i64 0,.int .i64 0,.int .i64 0,.slice none 0 0,.slice none 0 0,.int .i64 0] 30):=⟨_,rfl⟩
      have al2:Below t1.heap.size t1 k2:=by rw [hk2];exact (Below.refl _ _).alloc (Nat.le_refl _) _
      have hx2:=JX.below hx1 al2
      have loL:w10.heap.size≤bL:=by rw [hB2];exact hx1.1.size
      have xalL:WdX bL l lt lh:=pw1.apart (Nat.le_of_eq hB2.symm)
      have prl2:=pw1.below al2
      have ptL2:EvtR.Pt bL 9 k2:=by rw [hB2,hk2];exact StR.pt_new t1 [.string ⟨#[]⟩,.string ⟨#[]⟩,.int .i64 0,.int .i64 0,.int .i64 0,.int .i64 0,.slice none 0 0,.slice none 0 0,.int .i64 0] 30
      rw [←hk2,←hB2]
      clear hk2 hB2 al2
      refine hK.out _ _ hx2 (fun _=>?_)
      clear hK K
      try simp only [Act.put,SL]
      refine wpAnyH_ready (rs:=[7,9]) (by kernel_rfl) (by simp) ?_
      refine AllReadyH.cons (o:=⟨some 135,.call {callee:=Callee.value (.func 5),args:=#[.tmp 132,.tmp 134],argTypes:=#[26,26]},30,"laws.go:369",#[⟨4,.data⟩,⟨6,.data⟩,⟨3,.chain⟩],none⟩) rfl (fun K hK=>?_) (AllReadyH.cons (o:=⟨some 15,.alloc 30,0,"laws.go:369",#[],none⟩) rfl (fun K hK=>?_) AllReadyH.nil)
      ·go_simp
       go_at_call 5
       refine (HR15.out _ hx2.1).mono ?_
       rintro e t3 ⟨rt,rtc,rh,rhc,rfl,⟨pw3,bw3⟩,hb3⟩
       try go_wp2_with fail
       have hx3:=JX.below hx2 hb3
       have xarL:WdX bL r rt rh:=bw3.apart ptL2.lt
       have ptL3:=ptL2.below hb3
       have prl3:=prl2.below hb3
       clear hb3 bw3
       refine hK.out _ _ hx3 (fun _=>?_)
       clear hK K
       try simp only [Act.put,SL]
       refine rd 9 (⟨some 15,.alloc 30,0,"laws.go:369",#[],none⟩) (fun K hK=>?_)
       go_simp
       try go_wp2_with fail
       obtain ⟨bR,hB4⟩:∃q,q=t3.heap.size:=⟨_,rfl⟩
       obtain ⟨k4,hk4⟩:∃q,q=t3.alloc (.cells #[.string ⟨#[]⟩,.string ⟨#[]⟩,.int .i64 0,.int .i64 0,.int .i64 0,.int .i64 0,.slice none 0 0,.slice none 0 0,.int .i64 0] 30):=⟨_,rfl⟩
       have al4:Below t3.heap.size t3 k4:=by rw [hk4];exact (Below.refl _ _).alloc (Nat.le_refl _) _
       have hx4:=JX.below hx3 al4
       have loR:w10.heap.size≤bR:=by rw [hB4];exact hx3.1.size
       have neLR:bL≠bR:=by have:=ptL3.lt;omega
       have xalR:WdX bR l lt lh:=prl3.apart (Nat.le_of_eq hB4.symm)
       have xarR:WdX bR r rt rh:=pw3.apart (Nat.le_of_eq hB4.symm)
       have ptL4:=ptL3.below al4
       have prl4:=prl3.below al4
       have prr4:=pw3.below al4
       have ptR4:EvtR.Pt bR 9 k4:=by rw [hB4,hk4];exact StR.pt_new t3 [.string ⟨#[]⟩,.string ⟨#[]⟩,.int .i64 0,.int .i64 0,.int .i64 0,.int .i64 0,.slice none 0 0,.slice none 0 0,.int .i64 0] 30
       rw [←hk4,←hB4]
       clear hk4 hB4 al4
       refine hK.out _ _ hx4 (fun _=>?_)
       clear hK K
       try simp only [Act.put,SL]
       refine rd 10 (⟨none,.store 30 (.tmp 14) (.tmp 131),0,"laws.go:369",#[⟨8,.data⟩,⟨3,.data⟩,⟨7,.chain⟩,⟨0,.phase⟩,⟨1,.phase⟩,⟨2,.phase⟩,⟨3,.phase⟩,{on:=4,ground:=Ground.textOnly Departure.lateStores},{on:=5,ground:=Ground.textOnly Departure.lateStores},{on:=6,ground:=Ground.textOnly Departure.lateStores},{on:=7,ground:=Ground.textOnly Departure.lateStoresUnsure},⟨8,.phase⟩,⟨9,.phase⟩],none⟩) (fun K hK=>?_)
       have zl5:=ptL4.lt
       obtain ⟨e5_0,u5_0⟩:=ptL4.has 0 (by omega)
       have w5_0:=ptL4.free 0 (by omega)
       obtain ⟨e5_1,u5_1⟩:=ptL4.has 1 (by omega)
       have w5_1:=ptL4.free 1 (by omega)
       obtain ⟨e5_2,u5_2⟩:=ptL4.has 2 (by omega)
       have w5_2:=ptL4.free 2 (by omega)
       obtain ⟨e5_3,u5_3⟩:=ptL4.has 3 (by omega)
       have w5_3:=ptL4.free 3 (by omega)
       obtain ⟨e5_4,u5_4⟩:=ptL4.has 4 (by omega)
       have w5_4:=ptL4.free 4 (by omega)
       obtain ⟨e5_5,u5_5⟩:=ptL4.has 5 (by omega)
       have w5_5:=ptL4.free 5 (by omega)
       obtain ⟨e5_6,u5_6⟩:=ptL4.has 6 (by omega)
       have w5_6:=ptL4.free 6 (by omega)
       obtain ⟨e5_7,u5_7⟩:=ptL4.has 7 (by omega)
       have w5_7:=ptL4.free 7 (by omega)
       obtain ⟨e5_8,u5_8⟩:=ptL4.has 8 (by omega)
       have w5_8:=ptL4.free 8 (by omega)
       go_simp
       try go_wp2_with fail
       obtain ⟨s5,hs5⟩:∃q,q=StR.stL k4 bL 0 [.string l.a,.string l.m,.int .i64 l.mo,.int .i64 l.ev,.int .i64 l.su,.int .i64 l.mx,.slice lt ln ltc,.slice lh lk lhc,.int .i64 cl]:=⟨_,rfl⟩
       have hg5:k4.grownBy s5 (some bL):=by rw [hs5];exact StR.stL_grown _ _ 0 _
       have kbL5:Blk bL [.string l.a,.string l.m,.int .i64 l.mo,.int .i64 l.ev,.int .i64 l.su,.int .i64 l.mx,.slice lt ln ltc,.slice lh lk lhc,.int .i64 cl] s5:=by rw [hs5];exact StR.stL_blk ptL4 (by simp)
       simp only [StR.stL,Nat.zero_add,Nat.reduceAdd] at hs5
       rw [←hs5]
       clear hs5 zl5 u5_0 w5_0 u5_1 w5_1 u5_2 w5_2 u5_3 w5_3 u5_4 w5_4 u5_5 w5_5 u5_6 w5_6 u5_7 w5_7 u5_8 w5_8
       have hx5:=JX.far hx4 hg5 loL a5 a7 a9 a13
       have ptR5:=StR.pt_far ptR4 hg5 neLR.symm
       have prl5:=prl4.far hg5 xalL
       have prr5:=prr4.far hg5 xarL
       refine hK.out _ _ hx5 (fun _=>?_)
       clear hK K
       try simp only [Act.put,SL]
       refine rd 11 (⟨none,.store 30 (.tmp 15) (.tmp 135),0,"laws.go:369",#[⟨9,.data⟩,⟨7,.data⟩,⟨10,.chain⟩,⟨0,.phase⟩,⟨1,.phase⟩,⟨2,.phase⟩,⟨3,.phase⟩,⟨4,.phase⟩,⟨5,.phase⟩,⟨6,.phase⟩,⟨7,.phase⟩,⟨8,.phase⟩,⟨9,.phase⟩,⟨10,.phase⟩],none⟩) (fun K hK=>?_)
       have zl6:=ptR5.lt
       obtain ⟨e6_0,u6_0⟩:=ptR5.has 0 (by omega)
       have w6_0:=ptR5.free 0 (by omega)
       obtain ⟨e6_1,u6_1⟩:=ptR5.has 1 (by omega)
       have w6_1:=ptR5.free 1 (by omega)
       obtain ⟨e6_2,u6_2⟩:=ptR5.has 2 (by omega)
       have w6_2:=ptR5.free 2 (by omega)
       obtain ⟨e6_3,u6_3⟩:=ptR5.has 3 (by omega)
       have w6_3:=ptR5.free 3 (by omega)
       obtain ⟨e6_4,u6_4⟩:=ptR5.has 4 (by omega)
       have w6_4:=ptR5.free 4 (by omega)
       obtain ⟨e6_5,u6_5⟩:=ptR5.has 5 (by omega)
       have w6_5:=ptR5.free 5 (by omega)
       obtain ⟨e6_6,u6_6⟩:=ptR5.has 6 (by omega)
       have w6_6:=ptR5.free 6 (by omega)
       obtain ⟨e6_7,u6_7⟩:=ptR5.has 7 (by omega)
       have w6_7:=ptR5.free 7 (by omega)
       obtain ⟨e6_8,u6_8⟩:=ptR5.has 8 (by omega)
       have w6_8:=ptR5.free 8 (by omega)
       go_simp
       try go_wp2_with fail
       obtain ⟨s6,hs6⟩:∃q,q=StR.stL s5 bR 0 [.string r.a,.string r.m,.int .i64 r.mo,.int .i64 r.ev,.int .i64 r.su,.int .i64 r.mx,.slice rt rn rtc,.slice rh rk rhc,.int .i64 cr]:=⟨_,rfl⟩
       have hg6:s5.grownBy s6 (some bR):=by rw [hs6];exact StR.stL_grown _ _ 0 _
       have kbR6:Blk bR [.string r.a,.string r.m,.int .i64 r.mo,.int .i64 r.ev,.int .i64 r.su,.int .i64 r.mx,.slice rt rn rtc,.slice rh rk rhc,.int .i64 cr] s6:=by rw [hs6];exact StR.stL_blk ptR5 (by simp)
       simp only [StR.stL,Nat.zero_add,Nat.reduceAdd] at hs6
       rw [←hs6]
       clear hs6 zl6 u6_0 w6_0 u6_1 w6_1 u6_2 w6_2 u6_3 w6_3 u6_4 w6_4 u6_5 w6_5 u6_6 w6_6 u6_7 w6_7 u6_8 w6_8
       have hx6:=JX.far hx5 hg6 loR a5 a7 a9 a13
       have kbL6:=StR.blk_far kbL5 hg6 neLR
       have prl6:=prl5.far hg6 xalR
       have prr6:=prr5.far hg6 xarR
       refine hK.out _ _ hx6 (fun _=>?_)
       clear hK K
       try simp only [Act.put,SL]
       refine wpAnyH_done (by kernel_rfl) ?_ _
       have HLR:=H_ (show ∃lt ltc lh lhc rt rtc rh rhc,Blk bL [.string l.a,.string l.m,.int .i64 l.mo,.int .i64 l.ev,.int .i64 l.su,.int .i64 l.mx,.slice lt ln ltc,.slice lh lk lhc,.int .i64 cl] s6∧Blk bR [.string r.a,.string r.m,.int .i64 r.mo,.int .i64 r.ev,.int .i64 r.su,.int .i64 r.mx,.slice rt rn rtc,.slice rh rk rhc,.int .i64 cr] s6∧WdP l lt ltc lh lhc s6∧WdP r rt rtc rh rhc s6 from ⟨lt,ltc,lh,lhc,rt,rtc,rh,rhc,kbL6,kbR6,prl6,prr6⟩)
       have HEE:=H_ hx6
       go_wp2_with fail
       go_meet
       case rel=>exact ⟨_,_,rfl,rfl,HLR,HEE⟩
      ·go_simp
       try go_wp2_with fail
       obtain ⟨bR,hB3⟩:∃q,q=k2.heap.size:=⟨_,rfl⟩
       obtain ⟨k3,hk3⟩:∃q,q=k2.alloc (.cells #[.string ⟨#[]⟩,.string ⟨#[]⟩,.int .i64 0,.int .i64 0,.int .i64 0,.int .i64 0,.slice none 0 0,.slice none 0 0,.int .i64 0] 30):=⟨_,rfl⟩
       have al3:Below k2.heap.size k2 k3:=by rw [hk3];exact (Below.refl _ _).alloc (Nat.le_refl _) _
       have hx3:=JX.below hx2 al3
       have loR:w10.heap.size≤bR:=by rw [hB3];exact hx2.1.size
       have neLR:bL≠bR:=by have:=ptL2.lt;omega
       have xalR:WdX bR l lt lh:=prl2.apart (Nat.le_of_eq hB3.symm)
       have ptL3:=ptL2.below al3
       have prl3:=prl2.below al3
       have ptR3:EvtR.Pt bR 9 k3:=by rw [hB3,hk3];exact StR.pt_new k2 [.string ⟨#[]⟩,.string ⟨#[]⟩,.int .i64 0,.int .i64 0,.int .i64 0,.int .i64 0,.slice none 0 0,.slice none 0 0,.int .i64 0] 30
       rw [←hk3,←hB3]
       clear hk3 hB3 al3
       refine hK.out _ _ hx3 (fun _=>?_)
       clear hK K
       try simp only [Act.put,SL]
       refine rd 7 (⟨some 135,.call {callee:=Callee.value (.func 5),args:=#[.tmp 132,.tmp 134],argTypes:=#[26,26]},30,"laws.go:369",#[⟨4,.data⟩,⟨6,.data⟩,⟨3,.chain⟩],none⟩) (fun K hK=>?_)
       go_simp
       go_at_call 5
       refine (HR15.out _ hx3.1).mono ?_
       rintro e t4 ⟨rt,rtc,rh,rhc,rfl,⟨pw4,bw4⟩,hb4⟩
       try go_wp2_with fail
       have hx4:=JX.below hx3 hb4
       have xarL:WdX bL r rt rh:=bw4.apart ptL3.lt
       have xarR:WdX bR r rt rh:=bw4.apart ptR3.lt
       have ptL4:=ptL3.below hb4
       have ptR4:=ptR3.below hb4
       have prl4:=prl3.below hb4
       clear hb4 bw4
       refine hK.out _ _ hx4 (fun _=>?_)
       clear hK K
       try simp only [Act.put,SL]
       refine rd 10 (⟨none,.store 30 (.tmp 14) (.tmp 131),0,"laws.go:369",#[⟨8,.data⟩,⟨3,.data⟩,⟨7,.chain⟩,⟨0,.phase⟩,⟨1,.phase⟩,⟨2,.phase⟩,⟨3,.phase⟩,{on:=4,ground:=Ground.textOnly Departure.lateStores},{on:=5,ground:=Ground.textOnly Departure.lateStores},{on:=6,ground:=Ground.textOnly Departure.lateStores},{on:=7,ground:=Ground.textOnly Departure.lateStoresUnsure},⟨8,.phase⟩,⟨9,.phase⟩],none⟩) (fun K hK=>?_)
       have zl5:=ptL4.lt
       obtain ⟨e5_0,u5_0⟩:=ptL4.has 0 (by omega)
       have w5_0:=ptL4.free 0 (by omega)
       obtain ⟨e5_1,u5_1⟩:=ptL4.has 1 (by omega)
       have w5_1:=ptL4.free 1 (by omega)
       obtain ⟨e5_2,u5_2⟩:=ptL4.has 2 (by omega)
       have w5_2:=ptL4.free 2 (by omega)
       obtain ⟨e5_3,u5_3⟩:=ptL4.has 3 (by omega)
       have w5_3:=ptL4.free 3 (by omega)
       obtain ⟨e5_4,u5_4⟩:=ptL4.has 4 (by omega)
       have w5_4:=ptL4.free 4 (by omega)
       obtain ⟨e5_5,u5_5⟩:=ptL4.has 5 (by omega)
       have w5_5:=ptL4.free 5 (by omega)
       obtain ⟨e5_6,u5_6⟩:=ptL4.has 6 (by omega)
       have w5_6:=ptL4.free 6 (by omega)
       obtain ⟨e5_7,u5_7⟩:=ptL4.has 7 (by omega)
       have w5_7:=ptL4.free 7 (by omega)
       obtain ⟨e5_8,u5_8⟩:=ptL4.has 8 (by omega)
       have w5_8:=ptL4.free 8 (by omega)
       go_simp
       try go_wp2_with fail
       obtain ⟨s5,hs5⟩:∃q,q=StR.stL t4 bL 0 [.string l.a,.string l.m,.int .i64 l.mo,.int .i64 l.ev,.int .i64 l.su,.int .i64 l.mx,.slice lt ln ltc,.slice lh lk lhc,.int .i64 cl]:=⟨_,rfl⟩
       have hg5:t4.grownBy s5 (some bL):=by rw [hs5];exact StR.stL_grown _ _ 0 _
       have kbL5:Blk bL [.string l.a,.string l.m,.int .i64 l.mo,.int .i64 l.ev,.int .i64 l.su,.int .i64 l.mx,.slice lt ln ltc,.slice lh lk lhc,.int .i64 cl] s5:=by rw [hs5];exact StR.stL_blk ptL4 (by simp)
       simp only [StR.stL,Nat.zero_add,Nat.reduceAdd] at hs5
       rw [←hs5]
       clear hs5 zl5 u5_0 w5_0 u5_1 w5_1 u5_2 w5_2 u5_3 w5_3 u5_4 w5_4 u5_5 w5_5 u5_6 w5_6 u5_7 w5_7 u5_8 w5_8
       have hx5:=JX.far hx4 hg5 loL a5 a7 a9 a13
       have ptR5:=StR.pt_far ptR4 hg5 neLR.symm
       have prl5:=prl4.far hg5 xalL
       have prr5:=pw4.far hg5 xarL
       refine hK.out _ _ hx5 (fun _=>?_)
       clear hK K
       try simp only [Act.put,SL]
       refine rd 11 (⟨none,.store 30 (.tmp 15) (.tmp 135),0,"laws.go:369",#[⟨9,.data⟩,⟨7,.data⟩,⟨10,.chain⟩,⟨0,.phase⟩,⟨1,.phase⟩,⟨2,.phase⟩,⟨3,.phase⟩,⟨4,.phase⟩,⟨5,.phase⟩,⟨6,.phase⟩,⟨7,.phase⟩,⟨8,.phase⟩,⟨9,.phase⟩,⟨10,.phase⟩],none⟩) (fun K hK=>?_)
       have zl6:=ptR5.lt
       obtain ⟨e6_0,u6_0⟩:=ptR5.has 0 (by omega)
       have w6_0:=ptR5.free 0 (by omega)
       obtain ⟨e6_1,u6_1⟩:=ptR5.has 1 (by omega)
       have w6_1:=ptR5.free 1 (by omega)
       obtain ⟨e6_2,u6_2⟩:=ptR5.has 2 (by omega)
       have w6_2:=ptR5.free 2 (by omega)
       obtain ⟨e6_3,u6_3⟩:=ptR5.has 3 (by omega)
       have w6_3:=ptR5.free 3 (by omega)
       obtain ⟨e6_4,u6_4⟩:=ptR5.has 4 (by omega)
       have w6_4:=ptR5.free 4 (by omega)
       obtain ⟨e6_5,u6_5⟩:=ptR5.has 5 (by omega)
       have w6_5:=ptR5.free 5 (by omega)
       obtain ⟨e6_6,u6_6⟩:=ptR5.has 6 (by omega)
       have w6_6:=ptR5.free 6 (by omega)
       obtain ⟨e6_7,u6_7⟩:=ptR5.has 7 (by omega)
       have w6_7:=ptR5.free 7 (by omega)
       obtain ⟨e6_8,u6_8⟩:=ptR5.has 8 (by omega)
       have w6_8:=ptR5.free 8 (by omega)
       go_simp
       try go_wp2_with fail
       obtain ⟨s6,hs6⟩:∃q,q=StR.stL s5 bR 0 [.string r.a,.string r.m,.int .i64 r.mo,.int .i64 r.ev,.int .i64 r.su,.int .i64 r.mx,.slice rt rn rtc,.slice rh rk rhc,.int .i64 cr]:=⟨_,rfl⟩
       have hg6:s5.grownBy s6 (some bR):=by rw [hs6];exact StR.stL_grown _ _ 0 _
       have kbR6:Blk bR [.string r.a,.string r.m,.int .i64 r.mo,.int .i64 r.ev,.int .i64 r.su,.int .i64 r.mx,.slice rt rn rtc,.slice rh rk rhc,.int .i64 cr] s6:=by rw [hs6];exact StR.stL_blk ptR5 (by simp)
       simp only [StR.stL,Nat.zero_add,Nat.reduceAdd] at hs6
       rw [←hs6]
       clear hs6 zl6 u6_0 w6_0 u6_1 w6_1 u6_2 w6_2 u6_3 w6_3 u6_4 w6_4 u6_5 w6_5 u6_6 w6_6 u6_7 w6_7 u6_8 w6_8
       have hx6:=JX.far hx5 hg6 loR a5 a7 a9 a13
       have kbL6:=StR.blk_far kbL5 hg6 neLR
       have prl6:=prl5.far hg6 xalR
       have prr6:=prr5.far hg6 xarR
       refine hK.out _ _ hx6 (fun _=>?_)
       clear hK K
       try simp only [Act.put,SL]
       refine wpAnyH_done (by kernel_rfl) ?_ _
       have HLR:=H_ (show ∃lt ltc lh lhc rt rtc rh rhc,Blk bL [.string l.a,.string l.m,.int .i64 l.mo,.int .i64 l.ev,.int .i64 l.su,.int .i64 l.mx,.slice lt ln ltc,.slice lh lk lhc,.int .i64 cl] s6∧Blk bR [.string r.a,.string r.m,.int .i64 r.mo,.int .i64 r.ev,.int .i64 r.su,.int .i64 r.mx,.slice rt rn rtc,.slice rh rk rhc,.int .i64 cr] s6∧WdP l lt ltc lh lhc s6∧WdP r rt rtc rh rhc s6 from ⟨lt,ltc,lh,lhc,rt,rtc,rh,rhc,kbL6,kbR6,prl6,prr6⟩)
       have HEE:=H_ hx6
       go_wp2_with fail
       go_meet
       case rel=>exact ⟨_,_,rfl,rfl,HLR,HEE⟩
     ·go_simp
      try go_wp2_with fail
      obtain ⟨bR,hB2⟩:∃q,q=t1.heap.size:=⟨_,rfl⟩
      obtain ⟨k2,hk2⟩:∃q,q=t1.alloc (.cells #[.string ⟨#[]⟩,.string ⟨#[]⟩,.int .i64 0,.int .i64 0,.int .i64 0,.int .i64 0,.slice none 0 0,.slice none 0 0,.int .i64 0] 30):=⟨_,rfl⟩
      have al2:Below t1.heap.size t1 k2:=by rw [hk2];exact (Below.refl _ _).alloc (Nat.le_refl _) _
      have hx2:=JX.below hx1 al2
      have loR:w10.heap.size≤bR:=by rw [hB2];exact hx1.1.size
      have xalR:WdX bR l lt lh:=pw1.apart (Nat.le_of_eq hB2.symm)
      have prl2:=pw1.below al2
      have ptR2:EvtR.Pt bR 9 k2:=by rw [hB2,hk2];exact StR.pt_new t1 [.string ⟨#[]⟩,.string ⟨#[]⟩,.int .i64 0,.int .i64 0,.int .i64 0,.int .i64 0,.slice none 0 0,.slice none 0 0,.int .i64 0] 30
      rw [←hk2,←hB2]
      clear hk2 hB2 al2
      refine hK.out _ _ hx2 (fun _=>?_)
      clear hK K
      try simp only [Act.put,SL]
      refine wpAnyH_ready (rs:=[7,8]) (by kernel_rfl) (by simp) ?_
      refine AllReadyH.cons (o:=⟨some 135,.call {callee:=Callee.value (.func 5),args:=#[.tmp 132,.tmp 134],argTypes:=#[26,26]},30,"laws.go:369",#[⟨4,.data⟩,⟨6,.data⟩,⟨3,.chain⟩],none⟩) rfl (fun K hK=>?_) (AllReadyH.cons (o:=⟨some 14,.alloc 30,0,"laws.go:369",#[],none⟩) rfl (fun K hK=>?_) AllReadyH.nil)
      ·go_simp
       go_at_call 5
       refine (HR15.out _ hx2.1).mono ?_
       rintro e t3 ⟨rt,rtc,rh,rhc,rfl,⟨pw3,bw3⟩,hb3⟩
       try go_wp2_with fail
       have hx3:=JX.below hx2 hb3
       have xarR:WdX bR r rt rh:=bw3.apart ptR2.lt
       have ptR3:=ptR2.below hb3
       have prl3:=prl2.below hb3
       clear hb3 bw3
       refine hK.out _ _ hx3 (fun _=>?_)
       clear hK K
       try simp only [Act.put,SL]
       refine rd 8 (⟨some 14,.alloc 30,0,"laws.go:369",#[],none⟩) (fun K hK=>?_)
       go_simp
       try go_wp2_with fail
       obtain ⟨bL,hB4⟩:∃q,q=t3.heap.size:=⟨_,rfl⟩
       obtain ⟨k4,hk4⟩:∃q,q=t3.alloc (.cells #[.string ⟨#[]⟩,.string ⟨#[]⟩,.int .i64 0,.int .i64 0,.int .i64 0,.int .i64 0,.slice none 0 0,.slice none 0 0,.int .i64 0] 30):=⟨_,rfl⟩
       have al4:Below t3.heap.size t3 k4:=by rw [hk4];exact (Below.refl _ _).alloc (Nat.le_refl _) _
       have hx4:=JX.below hx3 al4
       have loL:w10.heap.size≤bL:=by rw [hB4];exact hx3.1.size
       have neRL:bR≠bL:=by have:=ptR3.lt;omega
       have xalL:WdX bL l lt lh:=prl3.apart (Nat.le_of_eq hB4.symm)
       have xarL:WdX bL r rt rh:=pw3.apart (Nat.le_of_eq hB4.symm)
       have ptR4:=ptR3.below al4
       have prl4:=prl3.below al4
       have prr4:=pw3.below al4
       have ptL4:EvtR.Pt bL 9 k4:=by rw [hB4,hk4];exact StR.pt_new t3 [.string ⟨#[]⟩,.string ⟨#[]⟩,.int .i64 0,.int .i64 0,.int .i64 0,.int .i64 0,.slice none 0 0,.slice none 0 0,.int .i64 0] 30
       rw [←hk4,←hB4]
       clear hk4 hB4 al4
       refine hK.out _ _ hx4 (fun _=>?_)
       clear hK K
       try simp only [Act.put,SL]
       refine rd 10 (⟨none,.store 30 (.tmp 14) (.tmp 131),0,"laws.go:369",#[⟨8,.data⟩,⟨3,.data⟩,⟨7,.chain⟩,⟨0,.phase⟩,⟨1,.phase⟩,⟨2,.phase⟩,⟨3,.phase⟩,{on:=4,ground:=Ground.textOnly Departure.lateStores},{on:=5,ground:=Ground.textOnly Departure.lateStores},{on:=6,ground:=Ground.textOnly Departure.lateStores},{on:=7,ground:=Ground.textOnly Departure.lateStoresUnsure},⟨8,.phase⟩,⟨9,.phase⟩],none⟩) (fun K hK=>?_)
       have zl5:=ptL4.lt
       obtain ⟨e5_0,u5_0⟩:=ptL4.has 0 (by omega)
       have w5_0:=ptL4.free 0 (by omega)
       obtain ⟨e5_1,u5_1⟩:=ptL4.has 1 (by omega)
       have w5_1:=ptL4.free 1 (by omega)
       obtain ⟨e5_2,u5_2⟩:=ptL4.has 2 (by omega)
       have w5_2:=ptL4.free 2 (by omega)
       obtain ⟨e5_3,u5_3⟩:=ptL4.has 3 (by omega)
       have w5_3:=ptL4.free 3 (by omega)
       obtain ⟨e5_4,u5_4⟩:=ptL4.has 4 (by omega)
       have w5_4:=ptL4.free 4 (by omega)
       obtain ⟨e5_5,u5_5⟩:=ptL4.has 5 (by omega)
       have w5_5:=ptL4.free 5 (by omega)
       obtain ⟨e5_6,u5_6⟩:=ptL4.has 6 (by omega)
       have w5_6:=ptL4.free 6 (by omega)
       obtain ⟨e5_7,u5_7⟩:=ptL4.has 7 (by omega)
       have w5_7:=ptL4.free 7 (by omega)
       obtain ⟨e5_8,u5_8⟩:=ptL4.has 8 (by omega)
       have w5_8:=ptL4.free 8 (by omega)
       go_simp
       try go_wp2_with fail
       obtain ⟨s5,hs5⟩:∃q,q=StR.stL k4 bL 0 [.string l.a,.string l.m,.int .i64 l.mo,.int .i64 l.ev,.int .i64 l.su,.int .i64 l.mx,.slice lt ln ltc,.slice lh lk lhc,.int .i64 cl]:=⟨_,rfl⟩
       have hg5:k4.grownBy s5 (some bL):=by rw [hs5];exact StR.stL_grown _ _ 0 _
       have kbL5:Blk bL [.string l.a,.string l.m,.int .i64 l.mo,.int .i64 l.ev,.int .i64 l.su,.int .i64 l.mx,.slice lt ln ltc,.slice lh lk lhc,.int .i64 cl] s5:=by rw [hs5];exact StR.stL_blk ptL4 (by simp)
       simp only [StR.stL,Nat.zero_add,Nat.reduceAdd] at hs5
       rw [←hs5]
       clear hs5 zl5 u5_0 w5_0 u5_1 w5_1 u5_2 w5_2 u5_3 w5_3 u5_4 w5_4 u5_5 w5_5 u5_6 w5_6 u5_7 w5_7 u5_8 w5_8
       have hx5:=JX.far hx4 hg5 loL a5 a7 a9 a13
       have ptR5:=StR.pt_far ptR4 hg5 neRL
       have prl5:=prl4.far hg5 xalL
       have prr5:=prr4.far hg5 xarL
       refine hK.out _ _ hx5 (fun _=>?_)
       clear hK K
       try simp only [Act.put,SL]
       refine rd 11 (⟨none,.store 30 (.tmp 15) (.tmp 135),0,"laws.go:369",#[⟨9,.data⟩,⟨7,.data⟩,⟨10,.chain⟩,⟨0,.phase⟩,⟨1,.phase⟩,⟨2,.phase⟩,⟨3,.phase⟩,⟨4,.phase⟩,⟨5,.phase⟩,⟨6,.phase⟩,⟨7,.phase⟩,⟨8,.phase⟩,⟨9,.phase⟩,⟨10,.phase⟩],none⟩) (fun K hK=>?_)
       have zl6:=ptR5.lt
       obtain ⟨e6_0,u6_0⟩:=ptR5.has 0 (by omega)
       have w6_0:=ptR5.free 0 (by omega)
       obtain ⟨e6_1,u6_1⟩:=ptR5.has 1 (by omega)
       have w6_1:=ptR5.free 1 (by omega)
       obtain ⟨e6_2,u6_2⟩:=ptR5.has 2 (by omega)
       have w6_2:=ptR5.free 2 (by omega)
       obtain ⟨e6_3,u6_3⟩:=ptR5.has 3 (by omega)
       have w6_3:=ptR5.free 3 (by omega)
       obtain ⟨e6_4,u6_4⟩:=ptR5.has 4 (by omega)
       have w6_4:=ptR5.free 4 (by omega)
       obtain ⟨e6_5,u6_5⟩:=ptR5.has 5 (by omega)
       have w6_5:=ptR5.free 5 (by omega)
       obtain ⟨e6_6,u6_6⟩:=ptR5.has 6 (by omega)
       have w6_6:=ptR5.free 6 (by omega)
       obtain ⟨e6_7,u6_7⟩:=ptR5.has 7 (by omega)
       have w6_7:=ptR5.free 7 (by omega)
       obtain ⟨e6_8,u6_8⟩:=ptR5.has 8 (by omega)
       have w6_8:=ptR5.free 8 (by omega)
       go_simp
       try go_wp2_with fail
       obtain ⟨s6,hs6⟩:∃q,q=StR.stL s5 bR 0 [.string r.a,.string r.m,.int .i64 r.mo,.int .i64 r.ev,.int .i64 r.su,.int .i64 r.mx,.slice rt rn rtc,.slice rh rk rhc,.int .i64 cr]:=⟨_,rfl⟩
       have hg6:s5.grownBy s6 (some bR):=by rw [hs6];exact StR.stL_grown _ _ 0 _
       have kbR6:Blk bR [.string r.a,.string r.m,.int .i64 r.mo,.int .i64 r.ev,.int .i64 r.su,.int .i64 r.mx,.slice rt rn rtc,.slice rh rk rhc,.int .i64 cr] s6:=by rw [hs6];exact StR.stL_blk ptR5 (by simp)
       simp only [StR.stL,Nat.zero_add,Nat.reduceAdd] at hs6
       rw [←hs6]
       clear hs6 zl6 u6_0 w6_0 u6_1 w6_1 u6_2 w6_2 u6_3 w6_3 u6_4 w6_4 u6_5 w6_5 u6_6 w6_6 u6_7 w6_7 u6_8 w6_8
       have hx6:=JX.far hx5 hg6 loR a5 a7 a9 a13
       have kbL6:=StR.blk_far kbL5 hg6 neRL.symm
       have prl6:=prl5.far hg6 xalR
       have prr6:=prr5.far hg6 xarR
       refine hK.out _ _ hx6 (fun _=>?_)
       clear hK K
       try simp only [Act.put,SL]
       refine wpAnyH_done (by kernel_rfl) ?_ _
       have HLR:=H_ (show ∃lt ltc lh lhc rt rtc rh rhc,Blk bL [.string l.a,.string l.m,.int .i64 l.mo,.int .i64 l.ev,.int .i64 l.su,.int .i64 l.mx,.slice lt ln ltc,.slice lh lk lhc,.int .i64 cl] s6∧Blk bR [.string r.a,.string r.m,.int .i64 r.mo,.int .i64 r.ev,.int .i64 r.su,.int .i64 r.mx,.slice rt rn rtc,.slice rh rk rhc,.int .i64 cr] s6∧WdP l lt ltc lh lhc s6∧WdP r rt rtc rh rhc s6 from ⟨lt,ltc,lh,lhc,rt,rtc,rh,rhc,kbL6,kbR6,prl6,prr6⟩)
       have HEE:=H_ hx6
       go_wp2_with fail
       go_meet
       case rel=>exact ⟨_,_,rfl,rfl,HLR,HEE⟩
      ·go_simp
       try go_wp2_with fail
       obtain ⟨bL,hB3⟩:∃q,q=k2.heap.size:=⟨_,rfl⟩
       obtain ⟨k3,hk3⟩:∃q,q=k2.alloc (.cells #[.string ⟨#[]⟩,.string ⟨#[]⟩,.int .i64 0,.int .i64 0,.int .i64 0,.int .i64 0,.slice none 0 0,.slice none 0 0,.int .i64 0] 30):=⟨_,rfl⟩
       have al3:Below k2.heap.size k2 k3:=by rw [hk3];exact (Below.refl _ _).alloc (Nat.le_refl _) _
       have hx3:=JX.below hx2 al3
       have loL:w10.heap.size≤bL:=by rw [hB3];exact hx2.1.size
       have neRL:bR≠bL:=by have:=ptR2.lt;omega
       have xalL:WdX bL l lt lh:=prl2.apart (Nat.le_of_eq hB3.symm)
       have ptR3:=ptR2.below al3
       have prl3:=prl2.below al3
       have ptL3:EvtR.Pt bL 9 k3:=by rw [hB3,hk3];exact StR.pt_new k2 [.string ⟨#[]⟩,.string ⟨#[]⟩,.int .i64 0,.int .i64 0,.int .i64 0,.int .i64 0,.slice none 0 0,.slice none 0 0,.int .i64 0] 30
       rw [←hk3,←hB3]
       clear hk3 hB3 al3
       refine hK.out _ _ hx3 (fun _=>?_)
       clear hK K
       try simp only [Act.put,SL]
       refine rd 7 (⟨some 135,.call {callee:=Callee.value (.func 5),args:=#[.tmp 132,.tmp 134],argTypes:=#[26,26]},30,"laws.go:369",#[⟨4,.data⟩,⟨6,.data⟩,⟨3,.chain⟩],none⟩) (fun K hK=>?_)
       go_simp
       go_at_call 5
       refine (HR15.out _ hx3.1).mono ?_
       rintro e t4 ⟨rt,rtc,rh,rhc,rfl,⟨pw4,bw4⟩,hb4⟩
       try go_wp2_with fail
       have hx4:=JX.below hx3 hb4
       have xarR:WdX bR r rt rh:=bw4.apart ptR3.lt
       have xarL:WdX bL r rt rh:=bw4.apart ptL3.lt
       have ptR4:=ptR3.below hb4
       have ptL4:=ptL3.below hb4
       have prl4:=prl3.below hb4
       clear hb4 bw4
       refine hK.out _ _ hx4 (fun _=>?_)
       clear hK K
       try simp only [Act.put,SL]
       refine rd 10 (⟨none,.store 30 (.tmp 14) (.tmp 131),0,"laws.go:369",#[⟨8,.data⟩,⟨3,.data⟩,⟨7,.chain⟩,⟨0,.phase⟩,⟨1,.phase⟩,⟨2,.phase⟩,⟨3,.phase⟩,{on:=4,ground:=Ground.textOnly Departure.lateStores},{on:=5,ground:=Ground.textOnly Departure.lateStores},{on:=6,ground:=Ground.textOnly Departure.lateStores},{on:=7,ground:=Ground.textOnly Departure.lateStoresUnsure},⟨8,.phase⟩,⟨9,.phase⟩],none⟩) (fun K hK=>?_)
       have zl5:=ptL4.lt
       obtain ⟨e5_0,u5_0⟩:=ptL4.has 0 (by omega)
       have w5_0:=ptL4.free 0 (by omega)
       obtain ⟨e5_1,u5_1⟩:=ptL4.has 1 (by omega)
       have w5_1:=ptL4.free 1 (by omega)
       obtain ⟨e5_2,u5_2⟩:=ptL4.has 2 (by omega)
       have w5_2:=ptL4.free 2 (by omega)
       obtain ⟨e5_3,u5_3⟩:=ptL4.has 3 (by omega)
       have w5_3:=ptL4.free 3 (by omega)
       obtain ⟨e5_4,u5_4⟩:=ptL4.has 4 (by omega)
       have w5_4:=ptL4.free 4 (by omega)
       obtain ⟨e5_5,u5_5⟩:=ptL4.has 5 (by omega)
       have w5_5:=ptL4.free 5 (by omega)
       obtain ⟨e5_6,u5_6⟩:=ptL4.has 6 (by omega)
       have w5_6:=ptL4.free 6 (by omega)
       obtain ⟨e5_7,u5_7⟩:=ptL4.has 7 (by omega)
       have w5_7:=ptL4.free 7 (by omega)
       obtain ⟨e5_8,u5_8⟩:=ptL4.has 8 (by omega)
       have w5_8:=ptL4.free 8 (by omega)
       go_simp
       try go_wp2_with fail
       obtain ⟨s5,hs5⟩:∃q,q=StR.stL t4 bL 0 [.string l.a,.string l.m,.int .i64 l.mo,.int .i64 l.ev,.int .i64 l.su,.int .i64 l.mx,.slice lt ln ltc,.slice lh lk lhc,.int .i64 cl]:=⟨_,rfl⟩
       have hg5:t4.grownBy s5 (some bL):=by rw [hs5];exact StR.stL_grown _ _ 0 _
       have kbL5:Blk bL [.string l.a,.string l.m,.int .i64 l.mo,.int .i64 l.ev,.int .i64 l.su,.int .i64 l.mx,.slice lt ln ltc,.slice lh lk lhc,.int .i64 cl] s5:=by rw [hs5];exact StR.stL_blk ptL4 (by simp)
       simp only [StR.stL,Nat.zero_add,Nat.reduceAdd] at hs5
       rw [←hs5]
       clear hs5 zl5 u5_0 w5_0 u5_1 w5_1 u5_2 w5_2 u5_3 w5_3 u5_4 w5_4 u5_5 w5_5 u5_6 w5_6 u5_7 w5_7 u5_8 w5_8
       have hx5:=JX.far hx4 hg5 loL a5 a7 a9 a13
       have ptR5:=StR.pt_far ptR4 hg5 neRL
       have prl5:=prl4.far hg5 xalL
       have prr5:=pw4.far hg5 xarL
       refine hK.out _ _ hx5 (fun _=>?_)
       clear hK K
       try simp only [Act.put,SL]
       refine rd 11 (⟨none,.store 30 (.tmp 15) (.tmp 135),0,"laws.go:369",#[⟨9,.data⟩,⟨7,.data⟩,⟨10,.chain⟩,⟨0,.phase⟩,⟨1,.phase⟩,⟨2,.phase⟩,⟨3,.phase⟩,⟨4,.phase⟩,⟨5,.phase⟩,⟨6,.phase⟩,⟨7,.phase⟩,⟨8,.phase⟩,⟨9,.phase⟩,⟨10,.phase⟩],none⟩) (fun K hK=>?_)
       have zl6:=ptR5.lt
       obtain ⟨e6_0,u6_0⟩:=ptR5.has 0 (by omega)
       have w6_0:=ptR5.free 0 (by omega)
       obtain ⟨e6_1,u6_1⟩:=ptR5.has 1 (by omega)
       have w6_1:=ptR5.free 1 (by omega)
       obtain ⟨e6_2,u6_2⟩:=ptR5.has 2 (by omega)
       have w6_2:=ptR5.free 2 (by omega)
       obtain ⟨e6_3,u6_3⟩:=ptR5.has 3 (by omega)
       have w6_3:=ptR5.free 3 (by omega)
       obtain ⟨e6_4,u6_4⟩:=ptR5.has 4 (by omega)
       have w6_4:=ptR5.free 4 (by omega)
       obtain ⟨e6_5,u6_5⟩:=ptR5.has 5 (by omega)
       have w6_5:=ptR5.free 5 (by omega)
       obtain ⟨e6_6,u6_6⟩:=ptR5.has 6 (by omega)
       have w6_6:=ptR5.free 6 (by omega)
       obtain ⟨e6_7,u6_7⟩:=ptR5.has 7 (by omega)
       have w6_7:=ptR5.free 7 (by omega)
       obtain ⟨e6_8,u6_8⟩:=ptR5.has 8 (by omega)
       have w6_8:=ptR5.free 8 (by omega)
       go_simp
       try go_wp2_with fail
       obtain ⟨s6,hs6⟩:∃q,q=StR.stL s5 bR 0 [.string r.a,.string r.m,.int .i64 r.mo,.int .i64 r.ev,.int .i64 r.su,.int .i64 r.mx,.slice rt rn rtc,.slice rh rk rhc,.int .i64 cr]:=⟨_,rfl⟩
       have hg6:s5.grownBy s6 (some bR):=by rw [hs6];exact StR.stL_grown _ _ 0 _
       have kbR6:Blk bR [.string r.a,.string r.m,.int .i64 r.mo,.int .i64 r.ev,.int .i64 r.su,.int .i64 r.mx,.slice rt rn rtc,.slice rh rk rhc,.int .i64 cr] s6:=by rw [hs6];exact StR.stL_blk ptR5 (by simp)
       simp only [StR.stL,Nat.zero_add,Nat.reduceAdd] at hs6
       rw [←hs6]
       clear hs6 zl6 u6_0 w6_0 u6_1 w6_1 u6_2 w6_2 u6_3 w6_3 u6_4 w6_4 u6_5 w6_5 u6_6 w6_6 u6_7 w6_7 u6_8 w6_8
       have hx6:=JX.far hx5 hg6 loR a5 a7 a9 a13
       have kbL6:=StR.blk_far kbL5 hg6 neRL.symm
       have prl6:=prl5.far hg6 xalR
       have prr6:=prr5.far hg6 xarR
       refine hK.out _ _ hx6 (fun _=>?_)
       clear hK K
       try simp only [Act.put,SL]
       refine wpAnyH_done (by kernel_rfl) ?_ _
       have HLR:=H_ (show ∃lt ltc lh lhc rt rtc rh rhc,Blk bL [.string l.a,.string l.m,.int .i64 l.mo,.int .i64 l.ev,.int .i64 l.su,.int .i64 l.mx,.slice lt ln ltc,.slice lh lk lhc,.int .i64 cl] s6∧Blk bR [.string r.a,.string r.m,.int .i64 r.mo,.int .i64 r.ev,.int .i64 r.su,.int .i64 r.mx,.slice rt rn rtc,.slice rh rk rhc,.int .i64 cr] s6∧WdP l lt ltc lh lhc s6∧WdP r rt rtc rh rhc s6 from ⟨lt,ltc,lh,lhc,rt,rtc,rh,rhc,kbL6,kbR6,prl6,prr6⟩)
       have HEE:=H_ hx6
       go_wp2_with fail
       go_meet
       case rel=>exact ⟨_,_,rfl,rfl,HLR,HEE⟩
    ·go_simp
     try go_wp2_with fail
     obtain ⟨bL,hB1⟩:∃q,q=kd.heap.size:=⟨_,rfl⟩
     obtain ⟨k1,hk1⟩:∃q,q=kd.alloc (.cells #[.string ⟨#[]⟩,.string ⟨#[]⟩,.int .i64 0,.int .i64 0,.int .i64 0,.int .i64 0,.slice none 0 0,.slice none 0 0,.int .i64 0] 30):=⟨_,rfl⟩
     have al1:Below kd.heap.size kd k1:=by rw [hk1];exact (Below.refl _ _).alloc (Nat.le_refl _) _
     have hx1:=JX.below hx0 al1
     have loL:w10.heap.size≤bL:=by rw [hB1];exact hx0.1.size
     have ptL1:EvtR.Pt bL 9 k1:=by rw [hB1,hk1];exact StR.pt_new kd [.string ⟨#[]⟩,.string ⟨#[]⟩,.int .i64 0,.int .i64 0,.int .i64 0,.int .i64 0,.slice none 0 0,.slice none 0 0,.int .i64 0] 30
     rw [←hk1,←hB1]
     clear hk1 hB1 al1
     refine hK.out _ _ hx1 (fun _=>?_)
     clear hK K
     try simp only [Act.put,SL]
     refine wpAnyH_ready (rs:=[3,9]) (by kernel_rfl) (by simp) ?_
     refine AllReadyH.cons (o:=⟨some 131,.call {callee:=Callee.value (.func 5),args:=#[.tmp 129,.tmp 130],argTypes:=#[26,26]},30,"laws.go:369",#[⟨1,.data⟩,⟨2,.data⟩],none⟩) rfl (fun K hK=>?_) (AllReadyH.cons (o:=⟨some 15,.alloc 30,0,"laws.go:369",#[],none⟩) rfl (fun K hK=>?_) AllReadyH.nil)
     ·go_simp
      go_at_call 5
      refine (HL15.out _ hx1.1).mono ?_
      rintro e t2 ⟨lt,ltc,lh,lhc,rfl,⟨pw2,bw2⟩,hb2⟩
      try go_wp2_with fail
      have hx2:=JX.below hx1 hb2
      have xalL:WdX bL l lt lh:=bw2.apart ptL1.lt
      have ptL2:=ptL1.below hb2
      clear hb2 bw2
      refine hK.out _ _ hx2 (fun _=>?_)
      clear hK K
      try simp only [Act.put,SL]
      refine wpAnyH_ready (rs:=[7,9]) (by kernel_rfl) (by simp) ?_
      refine AllReadyH.cons (o:=⟨some 135,.call {callee:=Callee.value (.func 5),args:=#[.tmp 132,.tmp 134],argTypes:=#[26,26]},30,"laws.go:369",#[⟨4,.data⟩,⟨6,.data⟩,⟨3,.chain⟩],none⟩) rfl (fun K hK=>?_) (AllReadyH.cons (o:=⟨some 15,.alloc 30,0,"laws.go:369",#[],none⟩) rfl (fun K hK=>?_) AllReadyH.nil)
      ·go_simp
       go_at_call 5
       refine (HR15.out _ hx2.1).mono ?_
       rintro e t3 ⟨rt,rtc,rh,rhc,rfl,⟨pw3,bw3⟩,hb3⟩
       try go_wp2_with fail
       have hx3:=JX.below hx2 hb3
       have xarL:WdX bL r rt rh:=bw3.apart ptL2.lt
       have ptL3:=ptL2.below hb3
       have prl3:=pw2.below hb3
       clear hb3 bw3
       refine hK.out _ _ hx3 (fun _=>?_)
       clear hK K
       try simp only [Act.put,SL]
       refine rd 9 (⟨some 15,.alloc 30,0,"laws.go:369",#[],none⟩) (fun K hK=>?_)
       go_simp
       try go_wp2_with fail
       obtain ⟨bR,hB4⟩:∃q,q=t3.heap.size:=⟨_,rfl⟩
       obtain ⟨k4,hk4⟩:∃q,q=t3.alloc (.cells #[.string ⟨#[]⟩,.string ⟨#[]⟩,.int .i64 0,.int .i64 0,.int .i64 0,.int .i64 0,.slice none 0 0,.slice none 0 0,.int .i64 0] 30):=⟨_,rfl⟩
       have al4:Below t3.heap.size t3 k4:=by rw [hk4];exact (Below.refl _ _).alloc (Nat.le_refl _) _
       have hx4:=JX.below hx3 al4
       have loR:w10.heap.size≤bR:=by rw [hB4];exact hx3.1.size
       have neLR:bL≠bR:=by have:=ptL3.lt;omega
       have xalR:WdX bR l lt lh:=prl3.apart (Nat.le_of_eq hB4.symm)
       have xarR:WdX bR r rt rh:=pw3.apart (Nat.le_of_eq hB4.symm)
       have ptL4:=ptL3.below al4
       have prl4:=prl3.below al4
       have prr4:=pw3.below al4
       have ptR4:EvtR.Pt bR 9 k4:=by rw [hB4,hk4];exact StR.pt_new t3 [.string ⟨#[]⟩,.string ⟨#[]⟩,.int .i64 0,.int .i64 0,.int .i64 0,.int .i64 0,.slice none 0 0,.slice none 0 0,.int .i64 0] 30
       rw [←hk4,←hB4]
       clear hk4 hB4 al4
       refine hK.out _ _ hx4 (fun _=>?_)
       clear hK K
       try simp only [Act.put,SL]
       refine rd 10 (⟨none,.store 30 (.tmp 14) (.tmp 131),0,"laws.go:369",#[⟨8,.data⟩,⟨3,.data⟩,⟨7,.chain⟩,⟨0,.phase⟩,⟨1,.phase⟩,⟨2,.phase⟩,⟨3,.phase⟩,{on:=4,ground:=Ground.textOnly Departure.lateStores},{on:=5,ground:=Ground.textOnly Departure.lateStores},{on:=6,ground:=Ground.textOnly Departure.lateStores},{on:=7,ground:=Ground.textOnly Departure.lateStoresUnsure},⟨8,.phase⟩,⟨9,.phase⟩],none⟩) (fun K hK=>?_)
       have zl5:=ptL4.lt
       obtain ⟨e5_0,u5_0⟩:=ptL4.has 0 (by omega)
       have w5_0:=ptL4.free 0 (by omega)
       obtain ⟨e5_1,u5_1⟩:=ptL4.has 1 (by omega)
       have w5_1:=ptL4.free 1 (by omega)
       obtain ⟨e5_2,u5_2⟩:=ptL4.has 2 (by omega)
       have w5_2:=ptL4.free 2 (by omega)
       obtain ⟨e5_3,u5_3⟩:=ptL4.has 3 (by omega)
       have w5_3:=ptL4.free 3 (by omega)
       obtain ⟨e5_4,u5_4⟩:=ptL4.has 4 (by omega)
       have w5_4:=ptL4.free 4 (by omega)
       obtain ⟨e5_5,u5_5⟩:=ptL4.has 5 (by omega)
       have w5_5:=ptL4.free 5 (by omega)
       obtain ⟨e5_6,u5_6⟩:=ptL4.has 6 (by omega)
       have w5_6:=ptL4.free 6 (by omega)
       obtain ⟨e5_7,u5_7⟩:=ptL4.has 7 (by omega)
       have w5_7:=ptL4.free 7 (by omega)
       obtain ⟨e5_8,u5_8⟩:=ptL4.has 8 (by omega)
       have w5_8:=ptL4.free 8 (by omega)
       go_simp
       try go_wp2_with fail
       obtain ⟨s5,hs5⟩:∃q,q=StR.stL k4 bL 0 [.string l.a,.string l.m,.int .i64 l.mo,.int .i64 l.ev,.int .i64 l.su,.int .i64 l.mx,.slice lt ln ltc,.slice lh lk lhc,.int .i64 cl]:=⟨_,rfl⟩
       have hg5:k4.grownBy s5 (some bL):=by rw [hs5];exact StR.stL_grown _ _ 0 _
       have kbL5:Blk bL [.string l.a,.string l.m,.int .i64 l.mo,.int .i64 l.ev,.int .i64 l.su,.int .i64 l.mx,.slice lt ln ltc,.slice lh lk lhc,.int .i64 cl] s5:=by rw [hs5];exact StR.stL_blk ptL4 (by simp)
       simp only [StR.stL,Nat.zero_add,Nat.reduceAdd] at hs5
       rw [←hs5]
       clear hs5 zl5 u5_0 w5_0 u5_1 w5_1 u5_2 w5_2 u5_3 w5_3 u5_4 w5_4 u5_5 w5_5 u5_6 w5_6 u5_7 w5_7 u5_8 w5_8
       have hx5:=JX.far hx4 hg5 loL a5 a7 a9 a13
       have ptR5:=StR.pt_far ptR4 hg5 neLR.symm
       have prl5:=prl4.far hg5 xalL
       have prr5:=prr4.far hg5 xarL
       refine hK.out _ _ hx5 (fun _=>?_)
       clear hK K
       try simp only [Act.put,SL]
       refine rd 11 (⟨none,.store 30 (.tmp 15) (.tmp 135),0,"laws.go:369",#[⟨9,.data⟩,⟨7,.data⟩,⟨10,.chain⟩,⟨0,.phase⟩,⟨1,.phase⟩,⟨2,.phase⟩,⟨3,.phase⟩,⟨4,.phase⟩,⟨5,.phase⟩,⟨6,.phase⟩,⟨7,.phase⟩,⟨8,.phase⟩,⟨9,.phase⟩,⟨10,.phase⟩],none⟩) (fun K hK=>?_)
       have zl6:=ptR5.lt
       obtain ⟨e6_0,u6_0⟩:=ptR5.has 0 (by omega)
       have w6_0:=ptR5.free 0 (by omega)
       obtain ⟨e6_1,u6_1⟩:=ptR5.has 1 (by omega)
       have w6_1:=ptR5.free 1 (by omega)
       obtain ⟨e6_2,u6_2⟩:=ptR5.has 2 (by omega)
       have w6_2:=ptR5.free 2 (by omega)
       obtain ⟨e6_3,u6_3⟩:=ptR5.has 3 (by omega)
       have w6_3:=ptR5.free 3 (by omega)
       obtain ⟨e6_4,u6_4⟩:=ptR5.has 4 (by omega)
       have w6_4:=ptR5.free 4 (by omega)
       obtain ⟨e6_5,u6_5⟩:=ptR5.has 5 (by omega)
       have w6_5:=ptR5.free 5 (by omega)
       obtain ⟨e6_6,u6_6⟩:=ptR5.has 6 (by omega)
       have w6_6:=ptR5.free 6 (by omega)
       obtain ⟨e6_7,u6_7⟩:=ptR5.has 7 (by omega)
       have w6_7:=ptR5.free 7 (by omega)
       obtain ⟨e6_8,u6_8⟩:=ptR5.has 8 (by omega)
       have w6_8:=ptR5.free 8 (by omega)
       go_simp
       try go_wp2_with fail
       obtain ⟨s6,hs6⟩:∃q,q=StR.stL s5 bR 0 [.string r.a,.string r.m,.int .i64 r.mo,.int .i64 r.ev,.int .i64 r.su,.int .i64 r.mx,.slice rt rn rtc,.slice rh rk rhc,.int .i64 cr]:=⟨_,rfl⟩
       have hg6:s5.grownBy s6 (some bR):=by rw [hs6];exact StR.stL_grown _ _ 0 _
       have kbR6:Blk bR [.string r.a,.string r.m,.int .i64 r.mo,.int .i64 r.ev,.int .i64 r.su,.int .i64 r.mx,.slice rt rn rtc,.slice rh rk rhc,.int .i64 cr] s6:=by rw [hs6];exact StR.stL_blk ptR5 (by simp)
       simp only [StR.stL,Nat.zero_add,Nat.reduceAdd] at hs6
       rw [←hs6]
       clear hs6 zl6 u6_0 w6_0 u6_1 w6_1 u6_2 w6_2 u6_3 w6_3 u6_4 w6_4 u6_5 w6_5 u6_6 w6_6 u6_7 w6_7 u6_8 w6_8
       have hx6:=JX.far hx5 hg6 loR a5 a7 a9 a13
       have kbL6:=StR.blk_far kbL5 hg6 neLR
       have prl6:=prl5.far hg6 xalR
       have prr6:=prr5.far hg6 xarR
       refine hK.out _ _ hx6 (fun _=>?_)
       clear hK K
       try simp only [Act.put,SL]
       refine wpAnyH_done (by kernel_rfl) ?_ _
       have HLR:=H_ (show ∃lt ltc lh lhc rt rtc rh rhc,Blk bL [.string l.a,.string l.m,.int .i64 l.mo,.int .i64 l.ev,.int .i64 l.su,.int .i64 l.mx,.slice lt ln ltc,.slice lh lk lhc,.int .i64 cl] s6∧Blk bR [.string r.a,.string r.m,.int .i64 r.mo,.int .i64 r.ev,.int .i64 r.su,.int .i64 r.mx,.slice rt rn rtc,.slice rh rk rhc,.int .i64 cr] s6∧WdP l lt ltc lh lhc s6∧WdP r rt rtc rh rhc s6 from ⟨lt,ltc,lh,lhc,rt,rtc,rh,rhc,kbL6,kbR6,prl6,prr6⟩)
       have HEE:=H_ hx6
       go_wp2_with fail
       go_meet
       case rel=>exact ⟨_,_,rfl,rfl,HLR,HEE⟩
      ·go_simp
       try go_wp2_with fail
       obtain ⟨bR,hB3⟩:∃q,q=t2.heap.size:=⟨_,rfl⟩
       obtain ⟨k3,hk3⟩:∃q,q=t2.alloc (.cells #[.string ⟨#[]⟩,.string ⟨#[]⟩,.int .i64 0,.int .i64 0,.int .i64 0,.int .i64 0,.slice none 0 0,.slice none 0 0,.int .i64 0] 30):=⟨_,rfl⟩
       have al3:Below t2.heap.size t2 k3:=by rw [hk3];exact (Below.refl _ _).alloc (Nat.le_refl _) _
       have hx3:=JX.below hx2 al3
       have loR:w10.heap.size≤bR:=by rw [hB3];exact hx2.1.size
       have neLR:bL≠bR:=by have:=ptL2.lt;omega
       have xalR:WdX bR l lt lh:=pw2.apart (Nat.le_of_eq hB3.symm)
       have ptL3:=ptL2.below al3
       have prl3:=pw2.below al3
       have ptR3:EvtR.Pt bR 9 k3:=by rw [hB3,hk3];exact StR.pt_new t2 [.string ⟨#[]⟩,.string ⟨#[]⟩,.int .i64 0,.int .i64 0,.int .i64 0,.int .i64 0,.slice none 0 0,.slice none 0 0,.int .i64 0] 30
       rw [←hk3,←hB3]
       clear hk3 hB3 al3
       refine hK.out _ _ hx3 (fun _=>?_)
       clear hK K
       try simp only [Act.put,SL]
       refine rd 7 (⟨some 135,.call {callee:=Callee.value (.func 5),args:=#[.tmp 132,.tmp 134],argTypes:=#[26,26]},30,"laws.go:369",#[⟨4,.data⟩,⟨6,.data⟩,⟨3,.chain⟩],none⟩) (fun K hK=>?_)
       go_simp
       go_at_call 5
       refine (HR15.out _ hx3.1).mono ?_
       rintro e t4 ⟨rt,rtc,rh,rhc,rfl,⟨pw4,bw4⟩,hb4⟩
       try go_wp2_with fail
       have hx4:=JX.below hx3 hb4
       have xarL:WdX bL r rt rh:=bw4.apart ptL3.lt
       have xarR:WdX bR r rt rh:=bw4.apart ptR3.lt
       have ptL4:=ptL3.below hb4
       have ptR4:=ptR3.below hb4
       have prl4:=prl3.below hb4
       clear hb4 bw4
       refine hK.out _ _ hx4 (fun _=>?_)
       clear hK K
       try simp only [Act.put,SL]
       refine rd 10 (⟨none,.store 30 (.tmp 14) (.tmp 131),0,"laws.go:369",#[⟨8,.data⟩,⟨3,.data⟩,⟨7,.chain⟩,⟨0,.phase⟩,⟨1,.phase⟩,⟨2,.phase⟩,⟨3,.phase⟩,{on:=4,ground:=Ground.textOnly Departure.lateStores},{on:=5,ground:=Ground.textOnly Departure.lateStores},{on:=6,ground:=Ground.textOnly Departure.lateStores},{on:=7,ground:=Ground.textOnly Departure.lateStoresUnsure},⟨8,.phase⟩,⟨9,.phase⟩],none⟩) (fun K hK=>?_)
       have zl5:=ptL4.lt
       obtain ⟨e5_0,u5_0⟩:=ptL4.has 0 (by omega)
       have w5_0:=ptL4.free 0 (by omega)
       obtain ⟨e5_1,u5_1⟩:=ptL4.has 1 (by omega)
       have w5_1:=ptL4.free 1 (by omega)
       obtain ⟨e5_2,u5_2⟩:=ptL4.has 2 (by omega)
       have w5_2:=ptL4.free 2 (by omega)
       obtain ⟨e5_3,u5_3⟩:=ptL4.has 3 (by omega)
       have w5_3:=ptL4.free 3 (by omega)
       obtain ⟨e5_4,u5_4⟩:=ptL4.has 4 (by omega)
       have w5_4:=ptL4.free 4 (by omega)
       obtain ⟨e5_5,u5_5⟩:=ptL4.has 5 (by omega)
       have w5_5:=ptL4.free 5 (by omega)
       obtain ⟨e5_6,u5_6⟩:=ptL4.has 6 (by omega)
       have w5_6:=ptL4.free 6 (by omega)
       obtain ⟨e5_7,u5_7⟩:=ptL4.has 7 (by omega)
       have w5_7:=ptL4.free 7 (by omega)
       obtain ⟨e5_8,u5_8⟩:=ptL4.has 8 (by omega)
       have w5_8:=ptL4.free 8 (by omega)
       go_simp
       try go_wp2_with fail
       obtain ⟨s5,hs5⟩:∃q,q=StR.stL t4 bL 0 [.string l.a,.string l.m,.int .i64 l.mo,.int .i64 l.ev,.int .i64 l.su,.int .i64 l.mx,.slice lt ln ltc,.slice lh lk lhc,.int .i64 cl]:=⟨_,rfl⟩
       have hg5:t4.grownBy s5 (some bL):=by rw [hs5];exact StR.stL_grown _ _ 0 _
       have kbL5:Blk bL [.string l.a,.string l.m,.int .i64 l.mo,.int .i64 l.ev,.int .i64 l.su,.int .i64 l.mx,.slice lt ln ltc,.slice lh lk lhc,.int .i64 cl] s5:=by rw [hs5];exact StR.stL_blk ptL4 (by simp)
       simp only [StR.stL,Nat.zero_add,Nat.reduceAdd] at hs5
       rw [←hs5]
       clear hs5 zl5 u5_0 w5_0 u5_1 w5_1 u5_2 w5_2 u5_3 w5_3 u5_4 w5_4 u5_5 w5_5 u5_6 w5_6 u5_7 w5_7 u5_8 w5_8
       have hx5:=JX.far hx4 hg5 loL a5 a7 a9 a13
       have ptR5:=StR.pt_far ptR4 hg5 neLR.symm
       have prl5:=prl4.far hg5 xalL
       have prr5:=pw4.far hg5 xarL
       refine hK.out _ _ hx5 (fun _=>?_)
       clear hK K
       try simp only [Act.put,SL]
       refine rd 11 (⟨none,.store 30 (.tmp 15) (.tmp 135),0,"laws.go:369",#[⟨9,.data⟩,⟨7,.data⟩,⟨10,.chain⟩,⟨0,.phase⟩,⟨1,.phase⟩,⟨2,.phase⟩,⟨3,.phase⟩,⟨4,.phase⟩,⟨5,.phase⟩,⟨6,.phase⟩,⟨7,.phase⟩,⟨8,.phase⟩,⟨9,.phase⟩,⟨10,.phase⟩],none⟩) (fun K hK=>?_)
       have zl6:=ptR5.lt
       obtain ⟨e6_0,u6_0⟩:=ptR5.has 0 (by omega)
       have w6_0:=ptR5.free 0 (by omega)
       obtain ⟨e6_1,u6_1⟩:=ptR5.has 1 (by omega)
       have w6_1:=ptR5.free 1 (by omega)
       obtain ⟨e6_2,u6_2⟩:=ptR5.has 2 (by omega)
       have w6_2:=ptR5.free 2 (by omega)
       obtain ⟨e6_3,u6_3⟩:=ptR5.has 3 (by omega)
       have w6_3:=ptR5.free 3 (by omega)
       obtain ⟨e6_4,u6_4⟩:=ptR5.has 4 (by omega)
       have w6_4:=ptR5.free 4 (by omega)
       obtain ⟨e6_5,u6_5⟩:=ptR5.has 5 (by omega)
       have w6_5:=ptR5.free 5 (by omega)
       obtain ⟨e6_6,u6_6⟩:=ptR5.has 6 (by omega)
       have w6_6:=ptR5.free 6 (by omega)
       obtain ⟨e6_7,u6_7⟩:=ptR5.has 7 (by omega)
       have w6_7:=ptR5.free 7 (by omega)
       obtain ⟨e6_8,u6_8⟩:=ptR5.has 8 (by omega)
       have w6_8:=ptR5.free 8 (by omega)
       go_simp
       try go_wp2_with fail
       obtain ⟨s6,hs6⟩:∃q,q=StR.stL s5 bR 0 [.string r.a,.string r.m,.int .i64 r.mo,.int .i64 r.ev,.int .i64 r.su,.int .i64 r.mx,.slice rt rn rtc,.slice rh rk rhc,.int .i64 cr]:=⟨_,rfl⟩
       have hg6:s5.grownBy s6 (some bR):=by rw [hs6];exact StR.stL_grown _ _ 0 _
       have kbR6:Blk bR [.string r.a,.string r.m,.int .i64 r.mo,.int .i64 r.ev,.int .i64 r.su,.int .i64 r.mx,.slice rt rn rtc,.slice rh rk rhc,.int .i64 cr] s6:=by rw [hs6];exact StR.stL_blk ptR5 (by simp)
       simp only [StR.stL,Nat.zero_add,Nat.reduceAdd] at hs6
       rw [←hs6]
       clear hs6 zl6 u6_0 w6_0 u6_1 w6_1 u6_2 w6_2 u6_3 w6_3 u6_4 w6_4 u6_5 w6_5 u6_6 w6_6 u6_7 w6_7 u6_8 w6_8
       have hx6:=JX.far hx5 hg6 loR a5 a7 a9 a13
       have kbL6:=StR.blk_far kbL5 hg6 neLR
       have prl6:=prl5.far hg6 xalR
       have prr6:=prr5.far hg6 xarR
       refine hK.out _ _ hx6 (fun _=>?_)
       clear hK K
       try simp only [Act.put,SL]
       refine wpAnyH_done (by kernel_rfl) ?_ _
       have HLR:=H_ (show ∃lt ltc lh lhc rt rtc rh rhc,Blk bL [.string l.a,.string l.m,.int .i64 l.mo,.int .i64 l.ev,.int .i64 l.su,.int .i64 l.mx,.slice lt ln ltc,.slice lh lk lhc,.int .i64 cl] s6∧Blk bR [.string r.a,.string r.m,.int .i64 r.mo,.int .i64 r.ev,.int .i64 r.su,.int .i64 r.mx,.slice rt rn rtc,.slice rh rk rhc,.int .i64 cr] s6∧WdP l lt ltc lh lhc s6∧WdP r rt rtc rh rhc s6 from ⟨lt,ltc,lh,lhc,rt,rtc,rh,rhc,kbL6,kbR6,prl6,prr6⟩)
       have HEE:=H_ hx6
       go_wp2_with fail
       go_meet
       case rel=>exact ⟨_,_,rfl,rfl,HLR,HEE⟩
     ·go_simp
      try go_wp2_with fail
      obtain ⟨bR,hB2⟩:∃q,q=k1.heap.size:=⟨_,rfl⟩
      obtain ⟨k2,hk2⟩:∃q,q=k1.alloc (.cells #[.string ⟨#[]⟩,.string ⟨#[]⟩,.int .i64 0,.int .i64 0,.int .i64 0,.int .i64 0,.slice none 0 0,.slice none 0 0,.int .i64 0] 30):=⟨_,rfl⟩
      have al2:Below k1.heap.size k1 k2:=by rw [hk2];exact (Below.refl _ _).alloc (Nat.le_refl _) _
      have hx2:=JX.below hx1 al2
      have loR:w10.heap.size≤bR:=by rw [hB2];exact hx1.1.size
      have neLR:bL≠bR:=by have:=ptL1.lt;omega
      have ptL2:=ptL1.below al2
      have ptR2:EvtR.Pt bR 9 k2:=by rw [hB2,hk2];exact StR.pt_new k1 [.string ⟨#[]⟩,.string ⟨#[]⟩,.int .i64 0,.int .i64 0,.int .i64 0,.int .i64 0,.slice none 0 0,.slice none 0 0,.int .i64 0] 30
      rw [←hk2,←hB2]
      clear hk2 hB2 al2
      refine hK.out _ _ hx2 (fun _=>?_)
      clear hK K
      try simp only [Act.put,SL]
      refine rd 3 (⟨some 131,.call {callee:=Callee.value (.func 5),args:=#[.tmp 129,.tmp 130],argTypes:=#[26,26]},30,"laws.go:369",#[⟨1,.data⟩,⟨2,.data⟩],none⟩) (fun K hK=>?_)
      go_simp
      go_at_call 5
      refine (HL15.out _ hx2.1).mono ?_
      rintro e t3 ⟨lt,ltc,lh,lhc,rfl,⟨pw3,bw3⟩,hb3⟩
      try go_wp2_with fail
      have hx3:=JX.below hx2 hb3
      have xalL:WdX bL l lt lh:=bw3.apart ptL2.lt
      have xalR:WdX bR l lt lh:=bw3.apart ptR2.lt
      have ptL3:=ptL2.below hb3
      have ptR3:=ptR2.below hb3
      clear hb3 bw3
      refine hK.out _ _ hx3 (fun _=>?_)
      clear hK K
      try simp only [Act.put,SL]
      refine rd 7 (⟨some 135,.call {callee:=Callee.value (.func 5),args:=#[.tmp 132,.tmp 134],argTypes:=#[26,26]},30,"laws.go:369",#[⟨4,.data⟩,⟨6,.data⟩,⟨3,.chain⟩],none⟩) (fun K hK=>?_)
      go_simp
      go_at_call 5
      refine (HR15.out _ hx3.1).mono ?_
      rintro e t4 ⟨rt,rtc,rh,rhc,rfl,⟨pw4,bw4⟩,hb4⟩
      try go_wp2_with fail
      have hx4:=JX.below hx3 hb4
      have xarL:WdX bL r rt rh:=bw4.apart ptL3.lt
      have xarR:WdX bR r rt rh:=bw4.apart ptR3.lt
      have ptL4:=ptL3.below hb4
      have ptR4:=ptR3.below hb4
      have prl4:=pw3.below hb4
      clear hb4 bw4
      refine hK.out _ _ hx4 (fun _=>?_)
      clear hK K
      try simp only [Act.put,SL]
      refine rd 10 (⟨none,.store 30 (.tmp 14) (.tmp 131),0,"laws.go:369",#[⟨8,.data⟩,⟨3,.data⟩,⟨7,.chain⟩,⟨0,.phase⟩,⟨1,.phase⟩,⟨2,.phase⟩,⟨3,.phase⟩,{on:=4,ground:=Ground.textOnly Departure.lateStores},{on:=5,ground:=Ground.textOnly Departure.lateStores},{on:=6,ground:=Ground.textOnly Departure.lateStores},{on:=7,ground:=Ground.textOnly Departure.lateStoresUnsure},⟨8,.phase⟩,⟨9,.phase⟩],none⟩) (fun K hK=>?_)
      have zl5:=ptL4.lt
      obtain ⟨e5_0,u5_0⟩:=ptL4.has 0 (by omega)
      have w5_0:=ptL4.free 0 (by omega)
      obtain ⟨e5_1,u5_1⟩:=ptL4.has 1 (by omega)
      have w5_1:=ptL4.free 1 (by omega)
      obtain ⟨e5_2,u5_2⟩:=ptL4.has 2 (by omega)
      have w5_2:=ptL4.free 2 (by omega)
      obtain ⟨e5_3,u5_3⟩:=ptL4.has 3 (by omega)
      have w5_3:=ptL4.free 3 (by omega)
      obtain ⟨e5_4,u5_4⟩:=ptL4.has 4 (by omega)
      have w5_4:=ptL4.free 4 (by omega)
      obtain ⟨e5_5,u5_5⟩:=ptL4.has 5 (by omega)
      have w5_5:=ptL4.free 5 (by omega)
      obtain ⟨e5_6,u5_6⟩:=ptL4.has 6 (by omega)
      have w5_6:=ptL4.free 6 (by omega)
      obtain ⟨e5_7,u5_7⟩:=ptL4.has 7 (by omega)
      have w5_7:=ptL4.free 7 (by omega)
      obtain ⟨e5_8,u5_8⟩:=ptL4.has 8 (by omega)
      have w5_8:=ptL4.free 8 (by omega)
      go_simp
      try go_wp2_with fail
      obtain ⟨s5,hs5⟩:∃q,q=StR.stL t4 bL 0 [.string l.a,.string l.m,.int .i64 l.mo,.int .i64 l.ev,.int .i64 l.su,.int .i64 l.mx,.slice lt ln ltc,.slice lh lk lhc,.int .i64 cl]:=⟨_,rfl⟩
      have hg5:t4.grownBy s5 (some bL):=by rw [hs5];exact StR.stL_grown _ _ 0 _
      have kbL5:Blk bL [.string l.a,.string l.m,.int .i64 l.mo,.int .i64 l.ev,.int .i64 l.su,.int .i64 l.mx,.slice lt ln ltc,.slice lh lk lhc,.int .i64 cl] s5:=by rw [hs5];exact StR.stL_blk ptL4 (by simp)
      simp only [StR.stL,Nat.zero_add,Nat.reduceAdd] at hs5
      rw [←hs5]
      clear hs5 zl5 u5_0 w5_0 u5_1 w5_1 u5_2 w5_2 u5_3 w5_3 u5_4 w5_4 u5_5 w5_5 u5_6 w5_6 u5_7 w5_7 u5_8 w5_8
      have hx5:=JX.far hx4 hg5 loL a5 a7 a9 a13
      have ptR5:=StR.pt_far ptR4 hg5 neLR.symm
      have prl5:=prl4.far hg5 xalL
      have prr5:=pw4.far hg5 xarL
      refine hK.out _ _ hx5 (fun _=>?_)
      clear hK K
      try simp only [Act.put,SL]
      refine rd 11 (⟨none,.store 30 (.tmp 15) (.tmp 135),0,"laws.go:369",#[⟨9,.data⟩,⟨7,.data⟩,⟨10,.chain⟩,⟨0,.phase⟩,⟨1,.phase⟩,⟨2,.phase⟩,⟨3,.phase⟩,⟨4,.phase⟩,⟨5,.phase⟩,⟨6,.phase⟩,⟨7,.phase⟩,⟨8,.phase⟩,⟨9,.phase⟩,⟨10,.phase⟩],none⟩) (fun K hK=>?_)
      have zl6:=ptR5.lt
      obtain ⟨e6_0,u6_0⟩:=ptR5.has 0 (by omega)
      have w6_0:=ptR5.free 0 (by omega)
      obtain ⟨e6_1,u6_1⟩:=ptR5.has 1 (by omega)
      have w6_1:=ptR5.free 1 (by omega)
      obtain ⟨e6_2,u6_2⟩:=ptR5.has 2 (by omega)
      have w6_2:=ptR5.free 2 (by omega)
      obtain ⟨e6_3,u6_3⟩:=ptR5.has 3 (by omega)
      have w6_3:=ptR5.free 3 (by omega)
      obtain ⟨e6_4,u6_4⟩:=ptR5.has 4 (by omega)
      have w6_4:=ptR5.free 4 (by omega)
      obtain ⟨e6_5,u6_5⟩:=ptR5.has 5 (by omega)
      have w6_5:=ptR5.free 5 (by omega)
      obtain ⟨e6_6,u6_6⟩:=ptR5.has 6 (by omega)
      have w6_6:=ptR5.free 6 (by omega)
      obtain ⟨e6_7,u6_7⟩:=ptR5.has 7 (by omega)
      have w6_7:=ptR5.free 7 (by omega)
      obtain ⟨e6_8,u6_8⟩:=ptR5.has 8 (by omega)
      have w6_8:=ptR5.free 8 (by omega)
      go_simp
      try go_wp2_with fail
      obtain ⟨s6,hs6⟩:∃q,q=StR.stL s5 bR 0 [.string r.a,.string r.m,.int .i64 r.mo,.int .i64 r.ev,.int .i64 r.su,.int .i64 r.mx,.slice rt rn rtc,.slice rh rk rhc,.int .i64 cr]:=⟨_,rfl⟩
      have hg6:s5.grownBy s6 (some bR):=by rw [hs6];exact StR.stL_grown _ _ 0 _
      have kbR6:Blk bR [.string r.a,.string r.m,.int .i64 r.mo,.int .i64 r.ev,.int .i64 r.su,.int .i64 r.mx,.slice rt rn rtc,.slice rh rk rhc,.int .i64 cr] s6:=by rw [hs6];exact StR.stL_blk ptR5 (by simp)
      simp only [StR.stL,Nat.zero_add,Nat.reduceAdd] at hs6
      rw [←hs6]
      clear hs6 zl6 u6_0 w6_0 u6_1 w6_1 u6_2 w6_2 u6_3 w6_3 u6_4 w6_4 u6_5 w6_5 u6_6 w6_6 u6_7 w6_7 u6_8 w6_8
      have hx6:=JX.far hx5 hg6 loR a5 a7 a9 a13
      have kbL6:=StR.blk_far kbL5 hg6 neLR
      have prl6:=prl5.far hg6 xalR
      have prr6:=prr5.far hg6 xarR
      refine hK.out _ _ hx6 (fun _=>?_)
      clear hK K
      try simp only [Act.put,SL]
      refine wpAnyH_done (by kernel_rfl) ?_ _
      have HLR:=H_ (show ∃lt ltc lh lhc rt rtc rh rhc,Blk bL [.string l.a,.string l.m,.int .i64 l.mo,.int .i64 l.ev,.int .i64 l.su,.int .i64 l.mx,.slice lt ln ltc,.slice lh lk lhc,.int .i64 cl] s6∧Blk bR [.string r.a,.string r.m,.int .i64 r.mo,.int .i64 r.ev,.int .i64 r.su,.int .i64 r.mx,.slice rt rn rtc,.slice rh rk rhc,.int .i64 cr] s6∧WdP l lt ltc lh lhc s6∧WdP r rt rtc rh rhc s6 from ⟨lt,ltc,lh,lhc,rt,rtc,rh,rhc,kbL6,kbR6,prl6,prr6⟩)
      have HEE:=H_ hx6
      go_wp2_with fail
      go_meet
      case rel=>exact ⟨_,_,rfl,rfl,HLR,HEE⟩
    ·go_simp
     try go_wp2_with fail
     obtain ⟨bR,hB1⟩:∃q,q=kd.heap.size:=⟨_,rfl⟩
     obtain ⟨k1,hk1⟩:∃q,q=kd.alloc (.cells #[.string ⟨#[]⟩,.string ⟨#[]⟩,.int .i64 0,.int .i64 0,.int .i64 0,.int .i64 0,.slice none 0 0,.slice none 0 0,.int .i64 0] 30):=⟨_,rfl⟩
     have al1:Below kd.heap.size kd k1:=by rw [hk1];exact (Below.refl _ _).alloc (Nat.le_refl _) _
     have hx1:=JX.below hx0 al1
     have loR:w10.heap.size≤bR:=by rw [hB1];exact hx0.1.size
     have ptR1:EvtR.Pt bR 9 k1:=by rw [hB1,hk1];exact StR.pt_new kd [.string ⟨#[]⟩,.string ⟨#[]⟩,.int .i64 0,.int .i64 0,.int .i64 0,.int .i64 0,.slice none 0 0,.slice none 0 0,.int .i64 0] 30
     rw [←hk1,←hB1]
     clear hk1 hB1 al1
     refine hK.out _ _ hx1 (fun _=>?_)
     clear hK K
     try simp only [Act.put,SL]
     refine wpAnyH_ready (rs:=[3,8]) (by kernel_rfl) (by simp) ?_
     refine AllReadyH.cons (o:=⟨some 131,.call {callee:=Callee.value (.func 5),args:=#[.tmp 129,.tmp 130],argTypes:=#[26,26]},30,"laws.go:369",#[⟨1,.data⟩,⟨2,.data⟩],none⟩) rfl (fun K hK=>?_) (AllReadyH.cons (o:=⟨some 14,.alloc 30,0,"laws.go:369",#[],none⟩) rfl (fun K hK=>?_) AllReadyH.nil)
     ·go_simp
      go_at_call 5
      refine (HL15.out _ hx1.1).mono ?_
      rintro e t2 ⟨lt,ltc,lh,lhc,rfl,⟨pw2,bw2⟩,hb2⟩
      try go_wp2_with fail
      have hx2:=JX.below hx1 hb2
      have xalR:WdX bR l lt lh:=bw2.apart ptR1.lt
      have ptR2:=ptR1.below hb2
      clear hb2 bw2
      refine hK.out _ _ hx2 (fun _=>?_)
      clear hK K
      try simp only [Act.put,SL]
      refine wpAnyH_ready (rs:=[7,8]) (by kernel_rfl) (by simp) ?_
      refine AllReadyH.cons (o:=⟨some 135,.call {callee:=Callee.value (.func 5),args:=#[.tmp 132,.tmp 134],argTypes:=#[26,26]},30,"laws.go:369",#[⟨4,.data⟩,⟨6,.data⟩,⟨3,.chain⟩],none⟩) rfl (fun K hK=>?_) (AllReadyH.cons (o:=⟨some 14,.alloc 30,0,"laws.go:369",#[],none⟩) rfl (fun K hK=>?_) AllReadyH.nil)
      ·go_simp
       go_at_call 5
       refine (HR15.out _ hx2.1).mono ?_
       rintro e t3 ⟨rt,rtc,rh,rhc,rfl,⟨pw3,bw3⟩,hb3⟩
       try go_wp2_with fail
       have hx3:=JX.below hx2 hb3
       have xarR:WdX bR r rt rh:=bw3.apart ptR2.lt
       have ptR3:=ptR2.below hb3
       have prl3:=pw2.below hb3
       clear hb3 bw3
       refine hK.out _ _ hx3 (fun _=>?_)
       clear hK K
       try simp only [Act.put,SL]
       refine rd 8 (⟨some 14,.alloc 30,0,"laws.go:369",#[],none⟩) (fun K hK=>?_)
       go_simp
       try go_wp2_with fail
       obtain ⟨bL,hB4⟩:∃q,q=t3.heap.size:=⟨_,rfl⟩
       obtain ⟨k4,hk4⟩:∃q,q=t3.alloc (.cells #[.string ⟨#[]⟩,.string ⟨#[]⟩,.int .i64 0,.int .i64 0,.int .i64 0,.int .i64 0,.slice none 0 0,.slice none 0 0,.int .i64 0] 30):=⟨_,rfl⟩
       have al4:Below t3.heap.size t3 k4:=by rw [hk4];exact (Below.refl _ _).alloc (Nat.le_refl _) _
       have hx4:=JX.below hx3 al4
       have loL:w10.heap.size≤bL:=by rw [hB4];exact hx3.1.size
       have neRL:bR≠bL:=by have:=ptR3.lt;omega
       have xalL:WdX bL l lt lh:=prl3.apart (Nat.le_of_eq hB4.symm)
       have xarL:WdX bL r rt rh:=pw3.apart (Nat.le_of_eq hB4.symm)
       have ptR4:=ptR3.below al4
       have prl4:=prl3.below al4
       have prr4:=pw3.below al4
       have ptL4:EvtR.Pt bL 9 k4:=by rw [hB4,hk4];exact StR.pt_new t3 [.string ⟨#[]⟩,.string ⟨#[]⟩,.int .i64 0,.int .i64 0,.int .i64 0,.int .i64 0,.slice none 0 0,.slice none 0 0,.int .i64 0] 30
       rw [←hk4,←hB4]
       clear hk4 hB4 al4
       refine hK.out _ _ hx4 (fun _=>?_)
       clear hK K
       try simp only [Act.put,SL]
       refine rd 10 (⟨none,.store 30 (.tmp 14) (.tmp 131),0,"laws.go:369",#[⟨8,.data⟩,⟨3,.data⟩,⟨7,.chain⟩,⟨0,.phase⟩,⟨1,.phase⟩,⟨2,.phase⟩,⟨3,.phase⟩,{on:=4,ground:=Ground.textOnly Departure.lateStores},{on:=5,ground:=Ground.textOnly Departure.lateStores},{on:=6,ground:=Ground.textOnly Departure.lateStores},{on:=7,ground:=Ground.textOnly Departure.lateStoresUnsure},⟨8,.phase⟩,⟨9,.phase⟩],none⟩) (fun K hK=>?_)
       have zl5:=ptL4.lt
       obtain ⟨e5_0,u5_0⟩:=ptL4.has 0 (by omega)
       have w5_0:=ptL4.free 0 (by omega)
       obtain ⟨e5_1,u5_1⟩:=ptL4.has 1 (by omega)
       have w5_1:=ptL4.free 1 (by omega)
       obtain ⟨e5_2,u5_2⟩:=ptL4.has 2 (by omega)
       have w5_2:=ptL4.free 2 (by omega)
       obtain ⟨e5_3,u5_3⟩:=ptL4.has 3 (by omega)
       have w5_3:=ptL4.free 3 (by omega)
       obtain ⟨e5_4,u5_4⟩:=ptL4.has 4 (by omega)
       have w5_4:=ptL4.free 4 (by omega)
       obtain ⟨e5_5,u5_5⟩:=ptL4.has 5 (by omega)
       have w5_5:=ptL4.free 5 (by omega)
       obtain ⟨e5_6,u5_6⟩:=ptL4.has 6 (by omega)
       have w5_6:=ptL4.free 6 (by omega)
       obtain ⟨e5_7,u5_7⟩:=ptL4.has 7 (by omega)
       have w5_7:=ptL4.free 7 (by omega)
       obtain ⟨e5_8,u5_8⟩:=ptL4.has 8 (by omega)
       have w5_8:=ptL4.free 8 (by omega)
       go_simp
       try go_wp2_with fail
       obtain ⟨s5,hs5⟩:∃q,q=StR.stL k4 bL 0 [.string l.a,.string l.m,.int .i64 l.mo,.int .i64 l.ev,.int .i64 l.su,.int .i64 l.mx,.slice lt ln ltc,.slice lh lk lhc,.int .i64 cl]:=⟨_,rfl⟩
       have hg5:k4.grownBy s5 (some bL):=by rw [hs5];exact StR.stL_grown _ _ 0 _
       have kbL5:Blk bL [.string l.a,.string l.m,.int .i64 l.mo,.int .i64 l.ev,.int .i64 l.su,.int .i64 l.mx,.slice lt ln ltc,.slice lh lk lhc,.int .i64 cl] s5:=by rw [hs5];exact StR.stL_blk ptL4 (by simp)
       simp only [StR.stL,Nat.zero_add,Nat.reduceAdd] at hs5
       rw [←hs5]
       clear hs5 zl5 u5_0 w5_0 u5_1 w5_1 u5_2 w5_2 u5_3 w5_3 u5_4 w5_4 u5_5 w5_5 u5_6 w5_6 u5_7 w5_7 u5_8 w5_8
       have hx5:=JX.far hx4 hg5 loL a5 a7 a9 a13
       have ptR5:=StR.pt_far ptR4 hg5 neRL
       have prl5:=prl4.far hg5 xalL
       have prr5:=prr4.far hg5 xarL
       refine hK.out _ _ hx5 (fun _=>?_)
       clear hK K
       try simp only [Act.put,SL]
       refine rd 11 (⟨none,.store 30 (.tmp 15) (.tmp 135),0,"laws.go:369",#[⟨9,.data⟩,⟨7,.data⟩,⟨10,.chain⟩,⟨0,.phase⟩,⟨1,.phase⟩,⟨2,.phase⟩,⟨3,.phase⟩,⟨4,.phase⟩,⟨5,.phase⟩,⟨6,.phase⟩,⟨7,.phase⟩,⟨8,.phase⟩,⟨9,.phase⟩,⟨10,.phase⟩],none⟩) (fun K hK=>?_)
       have zl6:=ptR5.lt
       obtain ⟨e6_0,u6_0⟩:=ptR5.has 0 (by omega)
       have w6_0:=ptR5.free 0 (by omega)
       obtain ⟨e6_1,u6_1⟩:=ptR5.has 1 (by omega)
       have w6_1:=ptR5.free 1 (by omega)
       obtain ⟨e6_2,u6_2⟩:=ptR5.has 2 (by omega)
       have w6_2:=ptR5.free 2 (by omega)
       obtain ⟨e6_3,u6_3⟩:=ptR5.has 3 (by omega)
       have w6_3:=ptR5.free 3 (by omega)
       obtain ⟨e6_4,u6_4⟩:=ptR5.has 4 (by omega)
       have w6_4:=ptR5.free 4 (by omega)
       obtain ⟨e6_5,u6_5⟩:=ptR5.has 5 (by omega)
       have w6_5:=ptR5.free 5 (by omega)
       obtain ⟨e6_6,u6_6⟩:=ptR5.has 6 (by omega)
       have w6_6:=ptR5.free 6 (by omega)
       obtain ⟨e6_7,u6_7⟩:=ptR5.has 7 (by omega)
       have w6_7:=ptR5.free 7 (by omega)
       obtain ⟨e6_8,u6_8⟩:=ptR5.has 8 (by omega)
       have w6_8:=ptR5.free 8 (by omega)
       go_simp
       try go_wp2_with fail
       obtain ⟨s6,hs6⟩:∃q,q=StR.stL s5 bR 0 [.string r.a,.string r.m,.int .i64 r.mo,.int .i64 r.ev,.int .i64 r.su,.int .i64 r.mx,.slice rt rn rtc,.slice rh rk rhc,.int .i64 cr]:=⟨_,rfl⟩
       have hg6:s5.grownBy s6 (some bR):=by rw [hs6];exact StR.stL_grown _ _ 0 _
       have kbR6:Blk bR [.string r.a,.string r.m,.int .i64 r.mo,.int .i64 r.ev,.int .i64 r.su,.int .i64 r.mx,.slice rt rn rtc,.slice rh rk rhc,.int .i64 cr] s6:=by rw [hs6];exact StR.stL_blk ptR5 (by simp)
       simp only [StR.stL,Nat.zero_add,Nat.reduceAdd] at hs6
       rw [←hs6]
       clear hs6 zl6 u6_0 w6_0 u6_1 w6_1 u6_2 w6_2 u6_3 w6_3 u6_4 w6_4 u6_5 w6_5 u6_6 w6_6 u6_7 w6_7 u6_8 w6_8
       have hx6:=JX.far hx5 hg6 loR a5 a7 a9 a13
       have kbL6:=StR.blk_far kbL5 hg6 neRL.symm
       have prl6:=prl5.far hg6 xalR
       have prr6:=prr5.far hg6 xarR
       refine hK.out _ _ hx6 (fun _=>?_)
       clear hK K
       try simp only [Act.put,SL]
       refine wpAnyH_done (by kernel_rfl) ?_ _
       have HLR:=H_ (show ∃lt ltc lh lhc rt rtc rh rhc,Blk bL [.string l.a,.string l.m,.int .i64 l.mo,.int .i64 l.ev,.int .i64 l.su,.int .i64 l.mx,.slice lt ln ltc,.slice lh lk lhc,.int .i64 cl] s6∧Blk bR [.string r.a,.string r.m,.int .i64 r.mo,.int .i64 r.ev,.int .i64 r.su,.int .i64 r.mx,.slice rt rn rtc,.slice rh rk rhc,.int .i64 cr] s6∧WdP l lt ltc lh lhc s6∧WdP r rt rtc rh rhc s6 from ⟨lt,ltc,lh,lhc,rt,rtc,rh,rhc,kbL6,kbR6,prl6,prr6⟩)
       have HEE:=H_ hx6
       go_wp2_with fail
       go_meet
       case rel=>exact ⟨_,_,rfl,rfl,HLR,HEE⟩
      ·go_simp
       try go_wp2_with fail
       obtain ⟨bL,hB3⟩:∃q,q=t2.heap.size:=⟨_,rfl⟩
       obtain ⟨k3,hk3⟩:∃q,q=t2.alloc (.cells #[.string ⟨#[]⟩,.string ⟨#[]⟩,.int .i64 0,.int .i64 0,.int .i64 0,.int .i64 0,.slice none 0 0,.slice none 0 0,.int .i64 0] 30):=⟨_,rfl⟩
       have al3:Below t2.heap.size t2 k3:=by rw [hk3];exact (Below.refl _ _).alloc (Nat.le_refl _) _
       have hx3:=JX.below hx2 al3
       have loL:w10.heap.size≤bL:=by rw [hB3];exact hx2.1.size
       have neRL:bR≠bL:=by have:=ptR2.lt;omega
       have xalL:WdX bL l lt lh:=pw2.apart (Nat.le_of_eq hB3.symm)
       have ptR3:=ptR2.below al3
       have prl3:=pw2.below al3
       have ptL3:EvtR.Pt bL 9 k3:=by rw [hB3,hk3];exact StR.pt_new t2 [.string ⟨#[]⟩,.string ⟨#[]⟩,.int .i64 0,.int .i64 0,.int .i64 0,.int .i64 0,.slice none 0 0,.slice none 0 0,.int .i64 0] 30
       rw [←hk3,←hB3]
       clear hk3 hB3 al3
       refine hK.out _ _ hx3 (fun _=>?_)
       clear hK K
       try simp only [Act.put,SL]
       refine rd 7 (⟨some 135,.call {callee:=Callee.value (.func 5),args:=#[.tmp 132,.tmp 134],argTypes:=#[26,26]},30,"laws.go:369",#[⟨4,.data⟩,⟨6,.data⟩,⟨3,.chain⟩],none⟩) (fun K hK=>?_)
       go_simp
       go_at_call 5
       refine (HR15.out _ hx3.1).mono ?_
       rintro e t4 ⟨rt,rtc,rh,rhc,rfl,⟨pw4,bw4⟩,hb4⟩
       try go_wp2_with fail
       have hx4:=JX.below hx3 hb4
       have xarR:WdX bR r rt rh:=bw4.apart ptR3.lt
       have xarL:WdX bL r rt rh:=bw4.apart ptL3.lt
       have ptR4:=ptR3.below hb4
       have ptL4:=ptL3.below hb4
       have prl4:=prl3.below hb4
       clear hb4 bw4
       refine hK.out _ _ hx4 (fun _=>?_)
       clear hK K
       try simp only [Act.put,SL]
       refine rd 10 (⟨none,.store 30 (.tmp 14) (.tmp 131),0,"laws.go:369",#[⟨8,.data⟩,⟨3,.data⟩,⟨7,.chain⟩,⟨0,.phase⟩,⟨1,.phase⟩,⟨2,.phase⟩,⟨3,.phase⟩,{on:=4,ground:=Ground.textOnly Departure.lateStores},{on:=5,ground:=Ground.textOnly Departure.lateStores},{on:=6,ground:=Ground.textOnly Departure.lateStores},{on:=7,ground:=Ground.textOnly Departure.lateStoresUnsure},⟨8,.phase⟩,⟨9,.phase⟩],none⟩) (fun K hK=>?_)
       have zl5:=ptL4.lt
       obtain ⟨e5_0,u5_0⟩:=ptL4.has 0 (by omega)
       have w5_0:=ptL4.free 0 (by omega)
       obtain ⟨e5_1,u5_1⟩:=ptL4.has 1 (by omega)
       have w5_1:=ptL4.free 1 (by omega)
       obtain ⟨e5_2,u5_2⟩:=ptL4.has 2 (by omega)
       have w5_2:=ptL4.free 2 (by omega)
       obtain ⟨e5_3,u5_3⟩:=ptL4.has 3 (by omega)
       have w5_3:=ptL4.free 3 (by omega)
       obtain ⟨e5_4,u5_4⟩:=ptL4.has 4 (by omega)
       have w5_4:=ptL4.free 4 (by omega)
       obtain ⟨e5_5,u5_5⟩:=ptL4.has 5 (by omega)
       have w5_5:=ptL4.free 5 (by omega)
       obtain ⟨e5_6,u5_6⟩:=ptL4.has 6 (by omega)
       have w5_6:=ptL4.free 6 (by omega)
       obtain ⟨e5_7,u5_7⟩:=ptL4.has 7 (by omega)
       have w5_7:=ptL4.free 7 (by omega)
       obtain ⟨e5_8,u5_8⟩:=ptL4.has 8 (by omega)
       have w5_8:=ptL4.free 8 (by omega)
       go_simp
       try go_wp2_with fail
       obtain ⟨s5,hs5⟩:∃q,q=StR.stL t4 bL 0 [.string l.a,.string l.m,.int .i64 l.mo,.int .i64 l.ev,.int .i64 l.su,.int .i64 l.mx,.slice lt ln ltc,.slice lh lk lhc,.int .i64 cl]:=⟨_,rfl⟩
       have hg5:t4.grownBy s5 (some bL):=by rw [hs5];exact StR.stL_grown _ _ 0 _
       have kbL5:Blk bL [.string l.a,.string l.m,.int .i64 l.mo,.int .i64 l.ev,.int .i64 l.su,.int .i64 l.mx,.slice lt ln ltc,.slice lh lk lhc,.int .i64 cl] s5:=by rw [hs5];exact StR.stL_blk ptL4 (by simp)
       simp only [StR.stL,Nat.zero_add,Nat.reduceAdd] at hs5
       rw [←hs5]
       clear hs5 zl5 u5_0 w5_0 u5_1 w5_1 u5_2 w5_2 u5_3 w5_3 u5_4 w5_4 u5_5 w5_5 u5_6 w5_6 u5_7 w5_7 u5_8 w5_8
       have hx5:=JX.far hx4 hg5 loL a5 a7 a9 a13
       have ptR5:=StR.pt_far ptR4 hg5 neRL
       have prl5:=prl4.far hg5 xalL
       have prr5:=pw4.far hg5 xarL
       refine hK.out _ _ hx5 (fun _=>?_)
       clear hK K
       try simp only [Act.put,SL]
       refine rd 11 (⟨none,.store 30 (.tmp 15) (.tmp 135),0,"laws.go:369",#[⟨9,.data⟩,⟨7,.data⟩,⟨10,.chain⟩,⟨0,.phase⟩,⟨1,.phase⟩,⟨2,.phase⟩,⟨3,.phase⟩,⟨4,.phase⟩,⟨5,.phase⟩,⟨6,.phase⟩,⟨7,.phase⟩,⟨8,.phase⟩,⟨9,.phase⟩,⟨10,.phase⟩],none⟩) (fun K hK=>?_)
       have zl6:=ptR5.lt
       obtain ⟨e6_0,u6_0⟩:=ptR5.has 0 (by omega)
       have w6_0:=ptR5.free 0 (by omega)
       obtain ⟨e6_1,u6_1⟩:=ptR5.has 1 (by omega)
       have w6_1:=ptR5.free 1 (by omega)
       obtain ⟨e6_2,u6_2⟩:=ptR5.has 2 (by omega)
       have w6_2:=ptR5.free 2 (by omega)
       obtain ⟨e6_3,u6_3⟩:=ptR5.has 3 (by omega)
       have w6_3:=ptR5.free 3 (by omega)
       obtain ⟨e6_4,u6_4⟩:=ptR5.has 4 (by omega)
       have w6_4:=ptR5.free 4 (by omega)
       obtain ⟨e6_5,u6_5⟩:=ptR5.has 5 (by omega)
       have w6_5:=ptR5.free 5 (by omega)
       obtain ⟨e6_6,u6_6⟩:=ptR5.has 6 (by omega)
       have w6_6:=ptR5.free 6 (by omega)
       obtain ⟨e6_7,u6_7⟩:=ptR5.has 7 (by omega)
       have w6_7:=ptR5.free 7 (by omega)
       obtain ⟨e6_8,u6_8⟩:=ptR5.has 8 (by omega)
       have w6_8:=ptR5.free 8 (by omega)
       go_simp
       try go_wp2_with fail
       obtain ⟨s6,hs6⟩:∃q,q=StR.stL s5 bR 0 [.string r.a,.string r.m,.int .i64 r.mo,.int .i64 r.ev,.int .i64 r.su,.int .i64 r.mx,.slice rt rn rtc,.slice rh rk rhc,.int .i64 cr]:=⟨_,rfl⟩
       have hg6:s5.grownBy s6 (some bR):=by rw [hs6];exact StR.stL_grown _ _ 0 _
       have kbR6:Blk bR [.string r.a,.string r.m,.int .i64 r.mo,.int .i64 r.ev,.int .i64 r.su,.int .i64 r.mx,.slice rt rn rtc,.slice rh rk rhc,.int .i64 cr] s6:=by rw [hs6];exact StR.stL_blk ptR5 (by simp)
       simp only [StR.stL,Nat.zero_add,Nat.reduceAdd] at hs6
       rw [←hs6]
       clear hs6 zl6 u6_0 w6_0 u6_1 w6_1 u6_2 w6_2 u6_3 w6_3 u6_4 w6_4 u6_5 w6_5 u6_6 w6_6 u6_7 w6_7 u6_8 w6_8
       have hx6:=JX.far hx5 hg6 loR a5 a7 a9 a13
       have kbL6:=StR.blk_far kbL5 hg6 neRL.symm
       have prl6:=prl5.far hg6 xalR
       have prr6:=prr5.far hg6 xarR
       refine hK.out _ _ hx6 (fun _=>?_)
       clear hK K
       try simp only [Act.put,SL]
       refine wpAnyH_done (by kernel_rfl) ?_ _
       have HLR:=H_ (show ∃lt ltc lh lhc rt rtc rh rhc,Blk bL [.string l.a,.string l.m,.int .i64 l.mo,.int .i64 l.ev,.int .i64 l.su,.int .i64 l.mx,.slice lt ln ltc,.slice lh lk lhc,.int .i64 cl] s6∧Blk bR [.string r.a,.string r.m,.int .i64 r.mo,.int .i64 r.ev,.int .i64 r.su,.int .i64 r.mx,.slice rt rn rtc,.slice rh rk rhc,.int .i64 cr] s6∧WdP l lt ltc lh lhc s6∧WdP r rt rtc rh rhc s6 from ⟨lt,ltc,lh,lhc,rt,rtc,rh,rhc,kbL6,kbR6,prl6,prr6⟩)
       have HEE:=H_ hx6
       go_wp2_with fail
       go_meet
       case rel=>exact ⟨_,_,rfl,rfl,HLR,HEE⟩
     ·go_simp
      try go_wp2_with fail
      obtain ⟨bL,hB2⟩:∃q,q=k1.heap.size:=⟨_,rfl⟩
      obtain ⟨k2,hk2⟩:∃q,q=k1.alloc (.cells #[.string ⟨#[]⟩,.string ⟨#[]⟩,.int .i64 0,.int .i64 0,.int .i64 0,.int .i64 0,.slice none 0 0,.slice none 0 0,.int .i64 0] 30):=⟨_,rfl⟩
      have al2:Below k1.heap.size k1 k2:=by rw [hk2];exact (Below.refl _ _).alloc (Nat.le_refl _) _
      have hx2:=JX.below hx1 al2
      have loL:w10.heap.size≤bL:=by rw [hB2];exact hx1.1.size
      have neRL:bR≠bL:=by have:=ptR1.lt;omega
      have ptR2:=ptR1.below al2
      have ptL2:EvtR.Pt bL 9 k2:=by rw [hB2,hk2];exact StR.pt_new k1 [.string ⟨#[]⟩,.string ⟨#[]⟩,.int .i64 0,.int .i64 0,.int .i64 0,.int .i64 0,.slice none 0 0,.slice none 0 0,.int .i64 0] 30
      rw [←hk2,←hB2]
      clear hk2 hB2 al2
      refine hK.out _ _ hx2 (fun _=>?_)
      clear hK K
      try simp only [Act.put,SL]
      refine rd 3 (⟨some 131,.call {callee:=Callee.value (.func 5),args:=#[.tmp 129,.tmp 130],argTypes:=#[26,26]},30,"laws.go:369",#[⟨1,.data⟩,⟨2,.data⟩],none⟩) (fun K hK=>?_)
      go_simp
      go_at_call 5
      refine (HL15.out _ hx2.1).mono ?_
      rintro e t3 ⟨lt,ltc,lh,lhc,rfl,⟨pw3,bw3⟩,hb3⟩
      try go_wp2_with fail
      have hx3:=JX.below hx2 hb3
      have xalR:WdX bR l lt lh:=bw3.apart ptR2.lt
      have xalL:WdX bL l lt lh:=bw3.apart ptL2.lt
      have ptR3:=ptR2.below hb3
      have ptL3:=ptL2.below hb3
      clear hb3 bw3
      refine hK.out _ _ hx3 (fun _=>?_)
      clear hK K
      try simp only [Act.put,SL]
      refine rd 7 (⟨some 135,.call {callee:=Callee.value (.func 5),args:=#[.tmp 132,.tmp 134],argTypes:=#[26,26]},30,"laws.go:369",#[⟨4,.data⟩,⟨6,.data⟩,⟨3,.chain⟩],none⟩) (fun K hK=>?_)
      go_simp
      go_at_call 5
      refine (HR15.out _ hx3.1).mono ?_
      rintro e t4 ⟨rt,rtc,rh,rhc,rfl,⟨pw4,bw4⟩,hb4⟩
      try go_wp2_with fail
      have hx4:=JX.below hx3 hb4
      have xarR:WdX bR r rt rh:=bw4.apart ptR3.lt
      have xarL:WdX bL r rt rh:=bw4.apart ptL3.lt
      have ptR4:=ptR3.below hb4
      have ptL4:=ptL3.below hb4
      have prl4:=pw3.below hb4
      clear hb4 bw4
      refine hK.out _ _ hx4 (fun _=>?_)
      clear hK K
      try simp only [Act.put,SL]
      refine rd 10 (⟨none,.store 30 (.tmp 14) (.tmp 131),0,"laws.go:369",#[⟨8,.data⟩,⟨3,.data⟩,⟨7,.chain⟩,⟨0,.phase⟩,⟨1,.phase⟩,⟨2,.phase⟩,⟨3,.phase⟩,{on:=4,ground:=Ground.textOnly Departure.lateStores},{on:=5,ground:=Ground.textOnly Departure.lateStores},{on:=6,ground:=Ground.textOnly Departure.lateStores},{on:=7,ground:=Ground.textOnly Departure.lateStoresUnsure},⟨8,.phase⟩,⟨9,.phase⟩],none⟩) (fun K hK=>?_)
      have zl5:=ptL4.lt
      obtain ⟨e5_0,u5_0⟩:=ptL4.has 0 (by omega)
      have w5_0:=ptL4.free 0 (by omega)
      obtain ⟨e5_1,u5_1⟩:=ptL4.has 1 (by omega)
      have w5_1:=ptL4.free 1 (by omega)
      obtain ⟨e5_2,u5_2⟩:=ptL4.has 2 (by omega)
      have w5_2:=ptL4.free 2 (by omega)
      obtain ⟨e5_3,u5_3⟩:=ptL4.has 3 (by omega)
      have w5_3:=ptL4.free 3 (by omega)
      obtain ⟨e5_4,u5_4⟩:=ptL4.has 4 (by omega)
      have w5_4:=ptL4.free 4 (by omega)
      obtain ⟨e5_5,u5_5⟩:=ptL4.has 5 (by omega)
      have w5_5:=ptL4.free 5 (by omega)
      obtain ⟨e5_6,u5_6⟩:=ptL4.has 6 (by omega)
      have w5_6:=ptL4.free 6 (by omega)
      obtain ⟨e5_7,u5_7⟩:=ptL4.has 7 (by omega)
      have w5_7:=ptL4.free 7 (by omega)
      obtain ⟨e5_8,u5_8⟩:=ptL4.has 8 (by omega)
      have w5_8:=ptL4.free 8 (by omega)
      go_simp
      try go_wp2_with fail
      obtain ⟨s5,hs5⟩:∃q,q=StR.stL t4 bL 0 [.string l.a,.string l.m,.int .i64 l.mo,.int .i64 l.ev,.int .i64 l.su,.int .i64 l.mx,.slice lt ln ltc,.slice lh lk lhc,.int .i64 cl]:=⟨_,rfl⟩
      have hg5:t4.grownBy s5 (some bL):=by rw [hs5];exact StR.stL_grown _ _ 0 _
      have kbL5:Blk bL [.string l.a,.string l.m,.int .i64 l.mo,.int .i64 l.ev,.int .i64 l.su,.int .i64 l.mx,.slice lt ln ltc,.slice lh lk lhc,.int .i64 cl] s5:=by rw [hs5];exact StR.stL_blk ptL4 (by simp)
      simp only [StR.stL,Nat.zero_add,Nat.reduceAdd] at hs5
      rw [←hs5]
      clear hs5 zl5 u5_0 w5_0 u5_1 w5_1 u5_2 w5_2 u5_3 w5_3 u5_4 w5_4 u5_5 w5_5 u5_6 w5_6 u5_7 w5_7 u5_8 w5_8
      have hx5:=JX.far hx4 hg5 loL a5 a7 a9 a13
      have ptR5:=StR.pt_far ptR4 hg5 neRL
      have prl5:=prl4.far hg5 xalL
      have prr5:=pw4.far hg5 xarL
      refine hK.out _ _ hx5 (fun _=>?_)
      clear hK K
      try simp only [Act.put,SL]
      refine rd 11 (⟨none,.store 30 (.tmp 15) (.tmp 135),0,"laws.go:369",#[⟨9,.data⟩,⟨7,.data⟩,⟨10,.chain⟩,⟨0,.phase⟩,⟨1,.phase⟩,⟨2,.phase⟩,⟨3,.phase⟩,⟨4,.phase⟩,⟨5,.phase⟩,⟨6,.phase⟩,⟨7,.phase⟩,⟨8,.phase⟩,⟨9,.phase⟩,⟨10,.phase⟩],none⟩) (fun K hK=>?_)
      have zl6:=ptR5.lt
      obtain ⟨e6_0,u6_0⟩:=ptR5.has 0 (by omega)
      have w6_0:=ptR5.free 0 (by omega)
      obtain ⟨e6_1,u6_1⟩:=ptR5.has 1 (by omega)
      have w6_1:=ptR5.free 1 (by omega)
      obtain ⟨e6_2,u6_2⟩:=ptR5.has 2 (by omega)
      have w6_2:=ptR5.free 2 (by omega)
      obtain ⟨e6_3,u6_3⟩:=ptR5.has 3 (by omega)
      have w6_3:=ptR5.free 3 (by omega)
      obtain ⟨e6_4,u6_4⟩:=ptR5.has 4 (by omega)
      have w6_4:=ptR5.free 4 (by omega)
      obtain ⟨e6_5,u6_5⟩:=ptR5.has 5 (by omega)
      have w6_5:=ptR5.free 5 (by omega)
      obtain ⟨e6_6,u6_6⟩:=ptR5.has 6 (by omega)
      have w6_6:=ptR5.free 6 (by omega)
      obtain ⟨e6_7,u6_7⟩:=ptR5.has 7 (by omega)
      have w6_7:=ptR5.free 7 (by omega)
      obtain ⟨e6_8,u6_8⟩:=ptR5.has 8 (by omega)
      have w6_8:=ptR5.free 8 (by omega)
      go_simp
      try go_wp2_with fail
      obtain ⟨s6,hs6⟩:∃q,q=StR.stL s5 bR 0 [.string r.a,.string r.m,.int .i64 r.mo,.int .i64 r.ev,.int .i64 r.su,.int .i64 r.mx,.slice rt rn rtc,.slice rh rk rhc,.int .i64 cr]:=⟨_,rfl⟩
      have hg6:s5.grownBy s6 (some bR):=by rw [hs6];exact StR.stL_grown _ _ 0 _
      have kbR6:Blk bR [.string r.a,.string r.m,.int .i64 r.mo,.int .i64 r.ev,.int .i64 r.su,.int .i64 r.mx,.slice rt rn rtc,.slice rh rk rhc,.int .i64 cr] s6:=by rw [hs6];exact StR.stL_blk ptR5 (by simp)
      simp only [StR.stL,Nat.zero_add,Nat.reduceAdd] at hs6
      rw [←hs6]
      clear hs6 zl6 u6_0 w6_0 u6_1 w6_1 u6_2 w6_2 u6_3 w6_3 u6_4 w6_4 u6_5 w6_5 u6_6 w6_6 u6_7 w6_7 u6_8 w6_8
      have hx6:=JX.far hx5 hg6 loR a5 a7 a9 a13
      have kbL6:=StR.blk_far kbL5 hg6 neRL.symm
      have prl6:=prl5.far hg6 xalR
      have prr6:=prr5.far hg6 xarR
      refine hK.out _ _ hx6 (fun _=>?_)
      clear hK K
      try simp only [Act.put,SL]
      refine wpAnyH_done (by kernel_rfl) ?_ _
      have HLR:=H_ (show ∃lt ltc lh lhc rt rtc rh rhc,Blk bL [.string l.a,.string l.m,.int .i64 l.mo,.int .i64 l.ev,.int .i64 l.su,.int .i64 l.mx,.slice lt ln ltc,.slice lh lk lhc,.int .i64 cl] s6∧Blk bR [.string r.a,.string r.m,.int .i64 r.mo,.int .i64 r.ev,.int .i64 r.su,.int .i64 r.mx,.slice rt rn rtc,.slice rh rk rhc,.int .i64 cr] s6∧WdP l lt ltc lh lhc s6∧WdP r rt rtc rh rhc s6 from ⟨lt,ltc,lh,lhc,rt,rtc,rh,rhc,kbL6,kbR6,prl6,prr6⟩)
      have HEE:=H_ hx6
      go_wp2_with fail
      go_meet
      case rel=>exact ⟨_,_,rfl,rfl,HLR,HEE⟩
   case rest =>
    obtain ⟨bL,bR,rfl,rfl,HLR,HXW⟩:=hcut
    obtain ⟨lt,ltc,lh,lhc,rt,rtc,rh,rhc,kL,kR,pl,pr⟩:=HLR.out
    have HKL9:=H_ kL
    have HKR9:=H_ kR
    have HPL:=H_ pl
    have HPR:=H_ pr
    have HX13:=H_ (HXB13.out.below HXW.out.1)
    clear kL kR pl pr HLR HL15 HR15
    have hb10:=HB10.out.trans (HXW.out.1.mono HB10.out.size)
    have hb8:=HW8.out.trans (hb10.mono HW8.out.size)
    have HBF:=H_ (HB4.out.trans (hb8.mono HB4.out.size))
    clear hb10 hb8 HXJ HXW
    by_cases hcy:cy=0
    rotate_left
    ·have x8:World.cell? _ ⟨B13,8,none⟩=some (.int .i64 cy):=HX13.out.2 8 (by simp)
     have x8l:=HX13.out.1
     go_wp2_with fail
     go_ret
     exact ⟨rfl,HBF.out⟩
    subst hcy
    by_cases hcl:cl=0
    rotate_left
    ·have x8:World.cell? _ ⟨B13,8,none⟩=some (.int .i64 0):=HX13.out.2 8 (by simp)
     have x8l:=HX13.out.1
     have x9:World.cell? _ ⟨bL,8,none⟩=some (.int .i64 cl):=HKL9.out.2 8 (by simp)
     have x9l:=HKL9.out.1
     go_wp2_with fail
     go_ret
     exact ⟨rfl,HBF.out⟩
    subst hcl
    obtain ⟨hrl,hcr⟩:=jr_assoc HJ.out HJ2.out HJL.out HJR.out
    subst hrl hcr
    have hrn:rn=ln:=HNR.out.trans HNL.out.symm
    have hrk:rk=lk:=HKR.out.trans HKL.out.symm
    subst hrn hrk
    have HLF:Hid (∀W,WdP r lt ltc lh lhc W→WdP r rt rtc rh rhc W→Calls Tryd.prog 7 #[.agg #[.string r.a,.string r.m,.int .i64 r.mo,.int .i64 r.ev,.int .i64 r.su,.int .i64 r.mx,.slice lt rn ltc,.slice lh rk lhc,.int .i64 0],.agg #[.string r.a,.string r.m,.int .i64 r.mo,.int .i64 r.ev,.int .i64 r.su,.int .i64 r.mx,.slice rt rn rtc,.slice rh rk rhc,.int .i64 0]] W fun e w'=>e=.returned (.bool true)∧Below W.heap.size W w'):=H_ (fun W hl hr=>by have e1:=HNR.out;have e2:=HKR.out;subst e1 e2;exact lwWs_any r 0 (jr_right HJR.out) (HSR.out.small (by omega)) lt ltc lh lhc rt rtc rh rhc W hl.tg hl.hr hr.tg hr.hr)
    have x8:World.cell? _ ⟨B13,8,none⟩=some (.int .i64 0):=HX13.out.2 8 (by simp)
    have x8l:=HX13.out.1
    have g0:World.cell? _ ⟨bL,0,none⟩=some (.string r.a):=HKL9.out.2 0 (by simp)
    have g1:World.cell? _ ⟨bL,1,none⟩=some (.string r.m):=HKL9.out.2 1 (by simp)
    have g2:World.cell? _ ⟨bL,2,none⟩=some (.int .i64 r.mo):=HKL9.out.2 2 (by simp)
    have g3:World.cell? _ ⟨bL,3,none⟩=some (.int .i64 r.ev):=HKL9.out.2 3 (by simp)
    have g4:World.cell? _ ⟨bL,4,none⟩=some (.int .i64 r.su):=HKL9.out.2 4 (by simp)
    have g5:World.cell? _ ⟨bL,5,none⟩=some (.int .i64 r.mx):=HKL9.out.2 5 (by simp)
    have g6:World.cell? _ ⟨bL,6,none⟩=some (.slice lt rn ltc):=HKL9.out.2 6 (by simp)
    have g7:World.cell? _ ⟨bL,7,none⟩=some (.slice lh rk lhc):=HKL9.out.2 7 (by simp)
    have g8:World.cell? _ ⟨bL,8,none⟩=some (.int .i64 0):=HKL9.out.2 8 (by simp)
    have gl:=HKL9.out.1
    have k0:World.cell? _ ⟨bR,0,none⟩=some (.string r.a):=HKR9.out.2 0 (by simp)
    have k1:World.cell? _ ⟨bR,1,none⟩=some (.string r.m):=HKR9.out.2 1 (by simp)
    have k2:World.cell? _ ⟨bR,2,none⟩=some (.int .i64 r.mo):=HKR9.out.2 2 (by simp)
    have k3:World.cell? _ ⟨bR,3,none⟩=some (.int .i64 r.ev):=HKR9.out.2 3 (by simp)
    have k4:World.cell? _ ⟨bR,4,none⟩=some (.int .i64 r.su):=HKR9.out.2 4 (by simp)
    have k5:World.cell? _ ⟨bR,5,none⟩=some (.int .i64 r.mx):=HKR9.out.2 5 (by simp)
    have k6:World.cell? _ ⟨bR,6,none⟩=some (.slice rt rn rtc):=HKR9.out.2 6 (by simp)
    have k7:World.cell? _ ⟨bR,7,none⟩=some (.slice rh rk rhc):=HKR9.out.2 7 (by simp)
    have k8:World.cell? _ ⟨bR,8,none⟩=some (.int .i64 0):=HKR9.out.2 8 (by simp)
    have kl:=HKR9.out.1
    go_wp2_with fail
    refine (HLF.out _ HPL.out HPR.out).mono ?_
    rintro e w12 ⟨rfl,hb12⟩
    have HBG:=H_ (HBF.out.trans (hb12.mono HBF.out.size))
    clear hb12
    go_wp2_with fail
    go_ret
    exact ⟨rfl,HBG.out⟩
end JoinLaw
end Go.Proofs.YteejpnkmnmoebaaDoor
