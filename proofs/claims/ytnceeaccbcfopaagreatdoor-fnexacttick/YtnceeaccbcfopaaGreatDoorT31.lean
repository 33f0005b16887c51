/-
  How an engine's windows stand, on both sides.
  impl.EngineRight from its parts: what has been seen, the windows, all together.
  The model's count of documents of an account and month, and what they come to.
  The program's rows of a ledger, one document more.
  The conditions stand in what each theorem says.
-/
import Derived.Deep.RegionHeld3
import Derived.BigQuiet
import Derived.Deep.QuietTactic
import Derived.Test.YtnceeaccbcfopaaGreatDoorT30
set_option maxRecDepth 100000
set_option maxHeartbeats 16000000
namespace Go.Proofs.YtnceeaccbcfopaaGreatDoor
open Go.ChangeShapes Go.WideShapes Go.ChangeAt Go.RowKit
set_option linter.unusedVariables false
namespace WinR
open RowG LtR
open Go.Op (bytesLess)
open CatR (Blk Blk.new)
def wlt (x y:Wd):Bool:=if x.a=y.a then (if x.mo=y.mo then lt x.m y.m else decide (x.mo<y.mo)) else lt x.a y.a
def ci (x y:Int):Int:=if x<y then -1 else if y<x then 1 else 0
def or3 (a b c:Int):Int:=if a≠0 then a else if b≠0 then b else c
theorem order_lt (x y:Wd):(or3 (cb x.a y.a) (ci x.mo y.mo) (cb x.m y.m)<0)=(wlt x y=true):=by
 unfold or3 wlt ci
 rcases cb_cases x.a y.a with ⟨c1,c2,c3⟩|⟨c1,c2,c3⟩|⟨c1,c2,c3⟩
 ·simp [c1,c2,c3]
 ·rw [c1,if_pos c3]
  simp only [ne_eq,not_true,if_false]
  rcases (show x.mo<y.mo∨x.mo=y.mo∨y.mo<x.mo by omega) with h|h|h
  ·simp [h,show ¬x.mo=y.mo by omega]
  ·rw [if_pos h]
   simp only [h,Int.lt_irrefl,if_false,not_true]
   rcases cb_cases x.m y.m with ⟨d1,d2,d3⟩|⟨d1,d2,d3⟩|⟨d1,d2,d3⟩<;>simp [d1,d2]
  ·have h1:¬x.mo<y.mo:=by omega
   have h2:¬x.mo=y.mo:=by omega
   simp [h,h1,h2]
 ·simp [c1,c2,c3]
theorem icmp (x y:Int) (w:World):Calls Tryz.prog 180 #[.int .i64 x,.int .i64 y] w fun e w'=>e=.returned (.int .i64 (ci x y))∧w'=w:=by
 unfold ci
 rcases (show x<y∨(¬x<y∧y<x)∨(¬x<y∧¬y<x) by omega) with h|⟨h,h2⟩|⟨h,h2⟩
 ·rw [if_pos h]
  go_enter Tryz.func180,Tryz.ntmps180
  go_wp2
  go_ret
  exact ⟨rfl,rfl⟩
 ·rw [if_neg h,if_pos h2]
  go_enter Tryz.func180,Tryz.ntmps180
  go_wp2
  go_ret
  exact ⟨rfl,rfl⟩
 ·rw [if_neg h,if_neg h2]
  go_enter Tryz.func180,Tryz.ntmps180
  go_wp2
  go_ret
  exact ⟨rfl,rfl⟩
theorem ior (a b c:Int) (w:World):Calls Tryz.prog 178 #[.slice (some ⟨w.heap.size,0,none⟩) 3 3] (w.alloc (.cells #[.int .i64 a,.int .i64 b,.int .i64 c] 3)) fun e w'=>e=.returned (.int .i64 (or3 a b c))∧w'=w.alloc (.cells #[.int .i64 a,.int .i64 b,.int .i64 c] 3):=by
 obtain ⟨W,hW⟩:∃z,z=w.alloc (.cells #[.int .i64 a,.int .i64 b,.int .i64 c] 3):=⟨_,rfl⟩
 have h:=Blk.new w [.int .i64 a,.int .i64 b,.int .i64 c] 3
 rw [show (w.alloc (.cells [Value.int .i64 a,.int .i64 b,.int .i64 c].toArray 3))=W from hW.symm] at h
 rw [←hW]
 clear hW
 generalize w.heap.size=g at *
 obtain ⟨hl,hc⟩:=h
 have c0:=q_ hc 0
 have c1:=q_ hc 1
 have c2:=q_ hc 2
 clear hc
 go_enter Tryz.func178,Tryz.ntmps178
 go_wp2_with fail
 go_loopw [8,5] (fun z y wr=>∃k:Nat,k≤3∧z=.int .i64 k∧wr=W∧(1≤k→a=0)∧(2≤k→b=0)∧(3≤k→c=0)) (fun z _ _=>3-(intOf z).toNat)
 case atStart=>exact ⟨0,by omega,rfl,rfl,by omega,by omega,by omega⟩
 case round =>
  obtain ⟨k,hk,rfl,rfl,h1,h2,h3⟩:=hrel
  rcases (show k=0∨k=1∨k=2∨k=3 by omega) with rfl|rfl|rfl|rfl
  ·by_cases q:a=0
   ·go_wp2_with fail
    go_roundw
    case rel=>exact ⟨1,by omega,by go_num,trivial,fun _=>q,by omega,by omega⟩
    case measure=>simp [intOf]
   ·have hR:or3 a b c=a:=by unfold or3;rw [if_pos q]
    go_wp2_with fail
    go_ret
    exact ⟨ret_int hR.symm,rfl⟩
  ·have q0:=h1 (by omega)
   by_cases q:b=0
   ·go_wp2_with fail
    go_roundw
    case rel=>exact ⟨2,by omega,by go_num,trivial,fun _=>q0,fun _=>q,by omega⟩
    case measure=>simp [intOf]
   ·have hR:or3 a b c=b:=by unfold or3;rw [if_neg (by simp [q0]),if_pos q]
    go_wp2_with fail
    go_ret
    exact ⟨ret_int hR.symm,rfl⟩
  ·have q0:=h1 (by omega)
   have q1:=h2 (by omega)
   have hR:or3 a b c=c:=by unfold or3;rw [if_neg (by simp [q0]),if_neg (by simp [q1])]
   by_cases q:c=0
   ·go_wp2_with fail
    go_roundw
    case rel=>exact ⟨3,by omega,by go_num,trivial,fun _=>q0,fun _=>q1,fun _=>q⟩
    case measure=>simp [intOf]
   ·go_wp2_with fail
    go_ret
    exact ⟨ret_int hR.symm,rfl⟩
  ·have q0:=h1 (by omega)
   have q1:=h2 (by omega)
   have q2:=h3 (by omega)
   have hR:or3 a b c=0:=by unfold or3;simp [q0,q1,q2]
   go_wp2_with fail
   go_ret
   exact ⟨ret_int hR.symm,rfl⟩
def OB (w:World) (xa xm ya ym:ByteArray) (xo yo:Int) (W:World):Prop:=Below w.heap.size w W∧w.heap.size+1<W.heap.size∧W.cell? ⟨w.heap.size,0,none⟩=some (.string xa)∧W.cell? ⟨w.heap.size,1,none⟩=some (.string xm)∧W.cell? ⟨w.heap.size,2,none⟩=some (.int .i64 xo)∧W.cell? ⟨w.heap.size+1,0,none⟩=some (.string ya)∧W.cell? ⟨w.heap.size+1,1,none⟩=some (.string ym)∧W.cell? ⟨w.heap.size+1,2,none⟩=some (.int .i64 yo)
theorem OB.below {w:World} {xa xm ya ym:ByteArray} {xo yo:Int} {W W':World} (h:OB w xa xm ya ym xo yo W) (hb:Below W.heap.size W W'):OB w xa xm ya ym xo yo W':=by
 obtain ⟨h0,h1,c0,c1,c2,d0,d1,d2⟩:=h
 have f:=fun o=>hb.cell (p:=⟨w.heap.size,o,none⟩) (show w.heap.size<W.heap.size by omega)
 have g:=fun o=>hb.cell (p:=⟨w.heap.size+1,o,none⟩) h1
 have:=hb.size
 exact ⟨h0.trans (hb.mono h0.size),by omega,(f _).trans c0,(f _).trans c1,(f _).trans c2,(g _).trans d0,(g _).trans d1,(g _).trans d2⟩
theorem iorder_in (xa xm:ByteArray) (xo xe xs xx:Int) (xta:Option Addr) (xtl xtc:Nat) (xha:Option Addr) (xhl xhc:Nat) (ya ym:ByteArray) (yo ye ys yx:Int) (yta:Option Addr) (ytl ytc:Nat) (yha:Option Addr) (yhl yhc:Nat) (w:World) :
 Calls Tryz.prog 131 #[.agg #[.string xa,.string xm,.int .i64 xo,.int .i64 xe,.int .i64 xs,.int .i64 xx,.slice xta xtl xtc,.slice xha xhl xhc],.agg #[.string ya,.string ym,.int .i64 yo,.int .i64 ye,.int .i64 ys,.int .i64 yx,.slice yta ytl ytc,.slice yha yhl yhc]] w fun e w'=>e=.returned (.int .i64 (or3 (cb xa ya) (ci xo yo) (cb xm ym)))∧Below w.heap.size w w':=by
 have HC:=H_ icb
 have HI:=H_ icmp
 have HO:=H_ ior
 have HS0:Hid (OB w xa xm ya ym xo yo ((w.alloc (.cells #[.string xa,.string xm,.int .i64 xo,.int .i64 xe,.int .i64 xs,.int .i64 xx,.slice xta xtl xtc,.slice xha xhl xhc] 106)).alloc (.cells #[.string ya,.string ym,.int .i64 yo,.int .i64 ye,.int .i64 ys,.int .i64 yx,.slice yta ytl ytc,.slice yha yhl yhc] 106))):=H_ ⟨(al_ _ _).alloc (by simp) _,by simp,by simp [go_sem],by simp [go_sem],by simp [go_sem],by simp [go_sem],by simp [go_sem],by simp [go_sem]⟩
 have HS1:=H_ (HS0.out.below (Below.refl _ _).drew)
 go_enter Tryz.func131,Tryz.ntmps131
 go_wp2_with fail
 refine wp_region_held_drew (S:=(fun W=>Below w.heap.size w W∧w.heap.size+1<W.heap.size∧W.cell? ⟨w.heap.size,0,none⟩=some (.string xa)∧W.cell? ⟨w.heap.size,1,none⟩=some (.string xm)∧W.cell? ⟨w.heap.size,2,none⟩=some (.int .i64 xo)∧W.cell? ⟨w.heap.size+1,0,none⟩=some (.string ya)∧W.cell? ⟨w.heap.size+1,1,none⟩=some (.string ym)∧W.cell? ⟨w.heap.size+1,2,none⟩=some (.int .i64 yo))) (by kernel_rfl) HS1.out (fun hHeld=>?_)
 obtain ⟨kd,hkd⟩:∃z,z=((w.alloc (.cells #[.string xa,.string xm,.int .i64 xo,.int .i64 xe,.int .i64 xs,.int .i64 xx,.slice xta xtl xtc,.slice xha xhl xhc] 106)).alloc (.cells #[.string ya,.string ym,.int .i64 yo,.int .i64 ye,.int .i64 ys,.int .i64 yx,.slice yta ytl ytc,.slice yha yhl yhc] 106)).drew:=⟨_,rfl⟩
 rw [←hkd]
 have HS2:=HS1
 rw [←hkd] at HS2 hHeld
 clear hkd HS1 HS0
 refine tk 0 ?_
 refine tk 1 ?_
 refine tk 2 ?_
 refine tk 3 ?_
 refine tk 5 ?_
 refine tk 6 ?_
 refine tk 7 ?_
 refine tk 8 ?_
 refine tk 10 ?_
 refine tk 11 ?_
 refine tk 12 ?_
 refine tk 13 ?_
 refine rd 4 (fun K hK=>?_)
 go_simp
 go_at_call 179
 refine (HC.out _ _ _).mono ?_
 rintro e w' ⟨rfl,rfl⟩
 try go_wp2_with fail
 refine hK.out _ _ HS2.out (fun _=>?_)
 clear hK K
 try simp only [Act.put,SL]
 refine rd 9 (fun K hK=>?_)
 go_simp
 go_at_call 180
 refine (HI.out _ _ _).mono ?_
 rintro e w' ⟨rfl,rfl⟩
 try go_wp2_with fail
 refine hK.out _ _ HS2.out (fun _=>?_)
 clear hK K
 try simp only [Act.put,SL]
 refine rd 14 (fun K hK=>?_)
 go_simp
 go_at_call 179
 refine (HC.out _ _ _).mono ?_
 rintro e w' ⟨rfl,rfl⟩
 try go_wp2_with fail
 refine hK.out _ _ HS2.out (fun _=>?_)
 clear hK K
 try simp only [Act.put,SL]
 refine rd 15 (fun K hK=>?_)
 go_simp
 try go_wp2_with fail
 have hk:=@OB.below w xa xm ya ym xo yo _ _ HS2.out ((Below.refl _ _).alloc (Nat.le_refl _) (.cells #[.int .i64 (cb xa ya),.int .i64 (ci xo yo),.int .i64 (cb xm ym)] 3))
 refine hK.out _ _ hk (fun _=>?_)
 clear hK K
 try simp only [Act.put,SL]
 refine rd 16 (fun K hK=>?_)
 go_simp
 go_at_call 178
 refine (HO.out _ _ _ _).mono ?_
 rintro e w' ⟨rfl,rfl⟩
 try go_wp2_with fail
 refine hK.out _ _ hk (fun _=>?_)
 clear hK K
 try simp only [Act.put,SL]
 refine tk 17 ?_
 refine wpAnyH_done (by kernel_rfl) ?_ _
 have HB9:=H_ hk.1
 clear hk
 go_wp2_with fail
 go_ret
 exact ⟨rfl,HB9.out⟩
theorem sless_in (xa xm:ByteArray) (xo xe xs xx:Int) (xta:Option Addr) (xtl xtc:Nat) (xha:Option Addr) (xhl xhc:Nat) (ya ym:ByteArray) (yo ye ys yx:Int) (yta:Option Addr) (ytl ytc:Nat) (yha:Option Addr) (yhl yhc:Nat) (w:World) :
 Calls Tryz.prog 58 #[.agg #[.string xa,.string xm,.int .i64 xo,.int .i64 xe,.int .i64 xs,.int .i64 xx,.slice xta xtl xtc,.slice xha xhl xhc],.agg #[.string ya,.string ym,.int .i64 yo,.int .i64 ye,.int .i64 ys,.int .i64 yx,.slice yta ytl ytc,.slice yha yhl yhc]] w fun e w'=>e=.returned (.bool (if xa=ya then (if xo=yo then lt xm ym else decide (xo<yo)) else lt xa ya))∧Below w.heap.size w w':=by
 have HB:Hid (Below w.heap.size w ((w.alloc (.cells #[.string xa,.string xm,.int .i64 xo,.int .i64 xe,.int .i64 xs,.int .i64 xx,.slice xta xtl xtc,.slice xha xhl xhc] 106)).alloc (.cells #[.string ya,.string ym,.int .i64 yo,.int .i64 ye,.int .i64 ys,.int .i64 yx,.slice yta ytl ytc,.slice yha yhl yhc] 106))):=H_ ((al_ _ _).alloc (by simp) _)
 by_cases h:xa=ya
 ·rw [if_pos h]
  by_cases h2:xo=yo
  ·rw [if_pos h2]
   subst h h2
   go_enter Tryz.func58,Tryz.ntmps58
   go_wp2_with fail
   go_ret
   exact ⟨rfl,HB.out⟩
  ·rw [if_neg h2]
   subst h
   go_enter Tryz.func58,Tryz.ntmps58
   go_wp2_with fail
   go_ret
   exact ⟨rfl,HB.out⟩
 ·rw [if_neg h]
  have hne:xa.toList≠ya.toList:=fun q=>h (toList_inj q)
  have hne2:(xa.toList==ya.toList)=false:=by simpa using hne
  go_enter Tryz.func58,Tryz.ntmps58
  go_wp2_with fail
  go_ret
  exact ⟨rfl,HB.out⟩
theorem sless (x y:Wd) (ta ha ta' ha':Option Addr) (tc hc tc' hc':Nat) (w:World):Calls Tryz.prog 58 #[.agg (wcells x ta tc ha hc),.agg (wcells y ta' tc' ha' hc')] w fun e w'=>e=.returned (.bool (wlt x y))∧Below w.heap.size w w' :=
 sless_in x.a x.m x.mo x.ev x.su x.mx ta _ tc ha _ hc y.a y.m y.mo y.ev y.su y.mx ta' _ tc' ha' _ hc' w
end WinR
namespace EngR
open CatR
open WinR (Wd Wns wcells wB wlt Tgs Hrs)
open SeenR (sB)
def wok (ws:List Wd) (ms:List Me) (fr:Int) (k:Nat):Bool:=wB (ws.getD k Wd.zero)&&sellB ms (ws.getD k Wd.zero).m && !decide ((ws.getD k Wd.zero).mo<fr)&&(k==0||wlt (ws.getD (k-1) Wd.zero) (ws.getD k Wd.zero))
def winB (ws:List Wd) (ms:List Me) (fr:Int):Bool:=decide (ws.length≤16)&&(List.range ws.length).all (wok ws ms fr)
theorem winB_no {ws:List Wd} {ms:List Me} {fr:Int} {k:Nat} (hk:k<ws.length) (h:wok ws ms fr k=false):winB ws ms fr=false:=by
 unfold winB
 rw [List.all_eq_false.2 ⟨k,List.mem_range.2 hk,by simp [h]⟩,Bool.and_false]
theorem winB_long {ws:List Wd} {ms:List Me} {fr:Int} (h:16<ws.length):winB ws ms fr=false:=by unfold winB;rw [decide_eq_false (by omega),Bool.false_and]
theorem winB_yes {ws:List Wd} {ms:List Me} {fr:Int} (h:ws.length≤16) (h2:∀i,i<ws.length→wok ws ms fr i=true):winB ws ms fr=true:=by
 unfold winB
 rw [decide_eq_true h,Bool.true_and,List.all_eq_true]
 exact fun i hi=>h2 i (List.mem_range.1 hi)
theorem okMore {f:Nat→Bool} {k:Nat} (h:∀i,i<k→f i=true) (h1:f k=true):∀i,i<k+1→f i=true:=by
 intro i hi
 by_cases e:i=k
 ·subst e;exact h1
 ·exact h i (by omega)
theorem eseen_in (ma:Option Addr) (ml mc:Nat) (ca:Option Addr) (cl cc:Nat) (sa:Option Addr) (sl sc:Nat) (ea:Option Addr) (el ec:Nat) (ua:Option Addr) (ul uc:Nat) (da:Option Addr) (dl dc:Nat) (fr v:Int) (b1 b2:Bool) (w:World)
 (hm:∀W,Below w.heap.size w W→Calls Tryz.prog 125 #[.int .i64 fr] W fun e w'=>e=.returned (.int .i64 v)∧Below W.heap.size W w')
 (hs:∀W,Below w.heap.size w W→Calls Tryz.prog 127 #[.slice ea el ec] W fun e w'=>e=.returned (.bool b1)∧Below W.heap.size W w')
 (hc:∀W B,Below w.heap.size w W→B<W.heap.size→W.cell? ⟨B,0,none⟩=some (.int .i64 v)→Calls Tryz.prog 128 #[.slice ea el ec,.func (.func 126) #[] #[.pointer (some ⟨B,0,none⟩)]] W fun e w'=>e=.returned (.bool b2)∧Below W.heap.size W w') :
 Calls Tryz.prog 74 #[.agg #[.slice ma ml mc,.slice ca cl cc,.slice sa sl sc,.slice ea el ec,.slice ua ul uc,.slice da dl dc,.int .i64 fr]] w fun e w'=>e=.returned (.bool (b1 && !b2))∧Below w.heap.size w w':=by
 have HM:=H_ hm
 have HS:=H_ hs
 have HC:=H_ hc
 obtain ⟨W0,hW0⟩:∃z,z=w.alloc (.cells #[.slice ma ml mc,.slice ca cl cc,.slice sa sl sc,.slice ea el ec,.slice ua ul uc,.slice da dl dc,.int .i64 fr] 42):=⟨_,rfl⟩
 have hal:Below w.heap.size w W0:=by rw [hW0];exact (Below.refl _ _).alloc (Nat.le_refl _) _
 have hA:Blk w.heap.size [.slice ma ml mc,.slice ca cl cc,.slice sa sl sc,.slice ea el ec,.slice ua ul uc,.slice da dl dc,.int .i64 fr] W0:=by rw [hW0];exact Blk.new w _ _
 have HB0:=H_ hal
 have HA0:=H_ hA
 have HW:=H_ hW0
 clear hm hs hc hal hA hW0
 go_enter Tryz.func74,Tryz.ntmps74
 go_wp2_with fail
 rw [←HW.out]
 refine (HM.out _ HB0.out).mono ?_
 rintro e w1 ⟨rfl,hb⟩
 have HB1:=HT_ HB0 hb
 have hA1:=HA0.out.below hb
 clear hb HW HB0 HA0 HM
 obtain ⟨hl1,ak⟩:=hA1
 have p3:=q_ ak 3
 obtain ⟨W2,hW2⟩:∃z,z=w1.alloc (.cells #[.int .i64 v] 2):=⟨_,rfl⟩
 have hal2:Below w1.heap.size w1 W2:=by rw [hW2];exact (Below.refl _ _).alloc (Nat.le_refl _) _
 have q3:W2.cell? ⟨w.heap.size,3,none⟩=some (.slice ea el ec):=(hal2.cell (p:=⟨w.heap.size,3,none⟩) hl1).trans p3
 have qv:W2.cell? ⟨w1.heap.size,0,none⟩=some (.int .i64 v):=by rw [hW2];simp [go_sem]
 have ql:w1.heap.size<W2.heap.size:=by rw [hW2];simp
 have HB2:=HT_ HB1 hal2
 have HW:=H_ hW2
 have HQV:=H_ qv
 have hl2:w.heap.size<W2.heap.size:=by omega
 clear hal2 hW2 ak qv
 go_wp2_with fail
 rw [←HW.out]
 clear HW HB1 p3
 generalize w1.heap.size=B at *
 refine (HS.out _ HB2.out).mono ?_
 rintro e w3 ⟨rfl,hb⟩
 have HB3:=HT_ HB2 hb
 have r3:w3.cell? ⟨w.heap.size,3,none⟩=some (.slice ea el ec):=(hb.cell (p:=⟨w.heap.size,3,none⟩) hl2).trans q3
 have HRV:=H_ ((hb.cell (p:=⟨B,0,none⟩) ql).trans HQV.out)
 have rl:B<w3.heap.size:=by have:=hb.size;omega
 have rl2:w.heap.size<w3.heap.size:=by have:=hb.size;omega
 clear hb q3 HQV HB2 HS ql hl2 hl1
 cases b1
 ·go_wp2_with fail
  go_ret
  exact ⟨rfl,HB3.out⟩
 ·go_wp2_with fail
  refine (HC.out _ _ HB3.out rl HRV.out).mono ?_
  rintro e w4 ⟨rfl,hb⟩
  have HB4:=HT_ HB3 hb
  clear hb
  go_wp2_with fail
  go_ret
  exact ⟨rfl,HB4.out⟩
theorem ewin_in (ma:Option Addr) (ml mc:Nat) (ca:Option Addr) (cl cc:Nat) (sa:Option Addr) (sl sc:Nat) (ea:Option Addr) (el ec:Nat) (ua:Option Addr) (uc:Nat) (da:Option Addr) (dl dc:Nat) (fr:Int) (ws:List Wd) (ms:List Me) (w:World)
 (hI:Wns ua ws w) (hlen:ws.length≤1048576)
 (hw:∀k,k<ws.length→∀ta tc ha hc W,Below w.heap.size w W→Tgs ta (ws.getD k Wd.zero).ts W→Hrs ha (ws.getD k Wd.zero).hs W→Calls Tryz.prog 129 #[.agg (wcells (ws.getD k Wd.zero) ta tc ha hc)] W fun e w'=>e=.returned (.bool (wB (ws.getD k Wd.zero)))∧Below W.heap.size W w')
 (hs:∀t W,Below w.heap.size w W→Calls Tryz.prog 130 #[.agg #[.slice ma ml mc,.slice ca cl cc],.string t] W fun e w'=>e=.returned (.bool (sellB ms t))∧Below W.heap.size W w') :
 Calls Tryz.prog 75 #[.agg #[.slice ma ml mc,.slice ca cl cc,.slice sa sl sc,.slice ea el ec,.slice ua ws.length uc,.slice da dl dc,.int .i64 fr]] w fun e w'=>e=.returned (.bool (winB ws ms fr))∧Below w.heap.size w w':=by
 have HI:=H_ hI
 have HWR:=H_ hw
 have HSE:=H_ hs
 have HF:Hid (∀k,k<ws.length→wok ws ms fr k=false→winB ws ms fr=false):=H_ (fun k hk h=>winB_no hk h)
 have HG:Hid (16<ws.length→winB ws ms fr=false):=H_ (fun h=>winB_long h)
 have HY:Hid (ws.length≤16→(∀i,i<ws.length→wok ws ms fr i=true)→winB ws ms fr=true):=H_ (fun h h2=>winB_yes h h2)
 generalize winB ws ms fr=R at *
 obtain ⟨len,hl⟩:∃len,len=ws.length:=⟨_,rfl⟩
 have HL:=H_ hl
 rw [←hl] at hlen HF HG HY ⊢
 clear hI hw hs hl
 obtain ⟨W0,hW0⟩:∃z,z=w.alloc (.cells #[.slice ma ml mc,.slice ca cl cc,.slice sa sl sc,.slice ea el ec,.slice ua len uc,.slice da dl dc,.int .i64 fr] 42):=⟨_,rfl⟩
 have hal:Below w.heap.size w W0:=by rw [hW0];exact (Below.refl _ _).alloc (Nat.le_refl _) _
 have hA:Blk w.heap.size [.slice ma ml mc,.slice ca cl cc,.slice sa sl sc,.slice ea el ec,.slice ua len uc,.slice da dl dc,.int .i64 fr] W0:=by rw [hW0];exact Blk.new w _ _
 have HB0:=H_ hal
 have HA0:=H_ hA
 have HW:=H_ hW0
 clear hal hA hW0
 by_cases h16:16<len
 ·have h2:(16:Int)<(len:Int):=by omega
  have HR:=H_ (HG.out h16)
  rw [HW.out] at HB0
  go_enter Tryz.func75,Tryz.ntmps75
  go_wp2_with fail
  go_ret
  exact ⟨ret_bool HR.out.symm,HB0.out⟩
 have h2:¬(16:Int)<(len:Int):=by omega
 go_enter Tryz.func75,Tryz.ntmps75
 go_wp2_with fail
 rw [←HW.out]
 clear HW
 go_loopw [12] (fun z wr=>∃k:Nat,k≤len∧z=.int .i64 k∧Hid (∀i,i<k→wok ws ms fr i=true)∧Hid (Blk w.heap.size [.slice ma ml mc,.slice ca cl cc,.slice sa sl sc,.slice ea el ec,.slice ua len uc,.slice da dl dc,.int .i64 fr] wr)∧Hid (Below w.heap.size w wr)) (fun z _=>len-(intOf z).toNat)
 case atStart=>exact ⟨0,by omega,rfl,H_ (fun i hi=>absurd hi (by omega)),HA0,HB0⟩
 case round =>
  clear HA0 HB0
  obtain ⟨k,hk,rfl,HK,HA,HB⟩:=hrel
  by_cases hlt:k<len
  ·have hlt2:(k:Int)<(len:Int):=by omega
   obtain ⟨b,off,ta,tc,ha,hc,rfl,hbl,c0,c1,c2,c3,c4,c5,c6,c7,hT,hH⟩:=(HI.out.below HB.out).at k (by have:=HL.out;omega)
   have hlk:k<ws.length:=by have:=HL.out;omega
   have HWK:=H_ (HWR.out k hlk ta tc ha hc)
   have HFK:=H_ (HF.out k hlt)
   have HMK:Hid (wok ws ms fr k=true→∀i,i<k+1→wok ws ms fr i=true):=H_ (fun h=>okMore HK.out h)
   have HOK:Hid (wok ws ms fr k=(wB (ws.getD k Wd.zero)&&sellB ms (ws.getD k Wd.zero).m && !decide ((ws.getD k Wd.zero).mo<fr)&&(k==0||wlt (ws.getD (k-1) Wd.zero) (ws.getD k Wd.zero)))):=H_ rfl
   obtain ⟨X,hX⟩:∃z,z=ws.getD k Wd.zero:=⟨_,rfl⟩
   rw [←hX] at c0 c1 c2 c3 c4 c5 c6 c7 hT hH HWK HOK
   have HWL:Hid (∀(Y:Wd) (ta' ha':Option Addr) (tc' hc':Nat),∃n:Int,((n<0)=(wlt Y X=true))∧∀W:World,Calls Tryz.prog 131 #[.agg (wcells Y ta' tc' ha' hc'),.agg (wcells X ta tc ha hc)] W fun e w'=>e=.returned (.int .i64 n)∧Below W.heap.size W w'):=H_ (fun Y ta' ha' tc' hc'=>⟨_,WinR.order_lt Y X,fun W=>WinR.iorder_in Y.a Y.m Y.mo Y.ev Y.su Y.mx ta' _ tc' ha' _ hc' X.a X.m X.mo X.ev X.su X.mx ta _ tc ha _ hc W⟩)
   generalize hqw:wB X=bw at *
   clear hqw
   generalize hqw:(fun Y=>wlt Y X)=WL at *
   have hWL:∀Y,wlt Y X=WL Y:=fun Y=>congrFun hqw Y
   simp only [hWL] at HWL HOK
   clear hqw hWL hX
   obtain ⟨xa,xm,xo,xe,xs,xx,xt,xh⟩:=X
   dsimp only [wcells] at c0 c1 c2 c3 c4 c5 c6 c7 hT hH HWK HOK HWL
   obtain ⟨W1,hW1⟩:∃z,z=wr.alloc (.cells #[.string xa,.string xm,.int .i64 xo,.int .i64 xe,.int .i64 xs,.int .i64 xx,.slice ta xt.length tc,.slice ha xh.length hc] 106):=⟨_,rfl⟩
   have hal:Below wr.heap.size wr W1:=by rw [hW1];exact (Below.refl _ _).alloc (Nat.le_refl _) _
   have HX1:Hid (Blk wr.heap.size [.string xa,.string xm,.int .i64 xo,.int .i64 xe,.int .i64 xs,.int .i64 xx,.slice ta xt.length tc,.slice ha xh.length hc] W1):=H_ (by rw [hW1];exact Blk.new wr _ _)
   have HB1:=HT_ HB hal
   have HA1:=H_ (HA.out.below hal)
   have HW1:=H_ hW1
   have HWK1:=H_ (HWK.out W1 HB1.out (hT.below hal) (hH.below hal))
   clear hT hH hal hW1 HWK HWR HA
   generalize xt.length=tl at *
   generalize xh.length=hl at *
   go_wp2_with fail
   rw [←HW1.out]
   clear HW1 c0 c1 c2 c3 c4 c5 c6 c7
   generalize wr.heap.size=B at *
   refine HWK1.out.mono ?_
   rintro e w2 ⟨rfl,hb⟩
   have HB2:=HT_ HB1 hb
   have hA2:=HA1.out.below hb
   have hX2:=HX1.out.below hb
   clear hb HB1 HA1 HX1 HWK1
   cases bw
   ·have HR:=H_ (HFK.out (by rw [HOK.out];simp))
    go_wp2_with fail
    go_ret
    exact ⟨ret_bool HR.out.symm,HB2.out⟩
   have HSE2:=H_ (HSE.out xm w2 HB2.out)
   have HA2:=H_ hA2
   have HX2:=H_ hX2
   have al:=hA2.1
   have a0:=q_ hA2.2 0
   have a1:=q_ hA2.2 1
   have x1:=q_ hX2.2 1
   generalize sellB ms xm=bs at *
   clear hA2 hX2 HSE
   go_wp2_with fail
   refine HSE2.out.mono ?_
   rintro e w3 ⟨rfl,hb⟩
   have HB3:=HT_ HB2 hb
   have hA3:=HA2.out.below hb
   have hX3:=HX2.out.below hb
   clear hb HB2 HA2 HX2 HSE2 al a0 a1 x1
   cases bs
   ·have HR:=H_ (HFK.out (by rw [HOK.out];simp))
    go_wp2_with fail
    go_ret
    exact ⟨ret_bool HR.out.symm,HB3.out⟩
   have HA3:=H_ hA3
   have HX3:=H_ hX3
   have al:=hA3.1
   have bl:=hX3.1
   have a4:=q_ hA3.2 4
   have a6:=q_ hA3.2 6
   have x2:=q_ hX3.2 2
   by_cases hmo:xo<fr
   ·have HR:=H_ (HFK.out (by rw [HOK.out];simp [hmo]))
    clear hA3 hX3
    go_wp2_with fail
    go_ret
    exact ⟨ret_bool HR.out.symm,HB3.out⟩
   rcases (show k=0∨∃j,k=j+1 from by rcases k with _|j;exact .inl rfl;exact .inr ⟨j,rfl⟩) with rfl|⟨j,hkj⟩
   ·have HM2:=H_ (HMK.out (by rw [HOK.out];simp [hmo]))
    clear hA3 hX3
    go_wp2_with fail
    go_quiet (fail)
    go_wp2_with fail
    go_roundw
    case rel=>exact ⟨0+1,by omega,by go_num,HM2,H_ (HA3.out.drewN _),H_ (StxR.bdN HB3.out _)⟩
    case measure=>simp [intOf];omega
   obtain ⟨b',off',ta',tc',ha',hc',hbo,hbl',d0,d1,d2,d3,d4,d5,d6,d7,_,_⟩:=(HI.out.below HB3.out).at j (by have:=HL.out;omega)
   obtain ⟨rfl,rfl⟩:b=b'∧off=off':=by simpa using hbo
   clear hbo
   obtain ⟨n,hn,hWL2⟩:=HWL.out (ws.getD j Wd.zero) ta' ha' tc' hc'
   have HWL2:=H_ hWL2
   clear hWL2
   have HOK2:Hid (wok ws ms fr k=WL (ws.getD j Wd.zero)):=H_ (by rw [HOK.out];simp [hmo,hkj])
   clear HOK HWL
   generalize WL (ws.getD j Wd.zero)=lb at *
   generalize ws.getD j Wd.zero=Y at *
   obtain ⟨ya,ym,yo,ye,ys,yx,yt,yh⟩:=Y
   dsimp only [wcells] at d0 d1 d2 d3 d4 d5 d6 d7 HWL2
   generalize yt.length=tl' at *
   generalize yh.length=hl' at *
   have hj1:IntKind.i64.wrap ((k:Int)-1)=(j:Int):=by rw [IntKind.wrap_i64];omega
   have hj2:0<k:=by omega
   have hj3:(j:Int)<(len:Int):=by omega
   clear hkj
   have x0:=q_ hX3.2 0
   have x1:=q_ hX3.2 1
   have x3:=q_ hX3.2 3
   have x4:=q_ hX3.2 4
   have x5:=q_ hX3.2 5
   have x6:=q_ hX3.2 6
   have x7:=q_ hX3.2 7
   obtain ⟨S,hS⟩:∃S:World→Prop,∀W,S W↔Below w3.heap.size w3 W:=⟨_,fun _=>Iff.rfl⟩
   have HSC:Hid (∀s:HW S,Below w3.heap.size w3 s.w):=H_ (fun s=>(hS _).1 s.h)
   have HSB:Hid (∀(s:HW S) w',Below s.w.heap.size s.w w'→S w'):=H_ (fun s w' hb=>(hS _).2 ((HSC.out s).trans (hb.mono (HSC.out s).size)))
   have HSD:Hid (S w3.drew):=H_ ((hS _).2 (Below.refl _ _).drew)
   have hne:Nonempty (HW S):=⟨⟨_,HSD.out⟩⟩
   have e4:∀s:HW S,s.w.cell? ⟨w.heap.size,4,none⟩=some (.slice (some ⟨b,off,none⟩) len uc):=fun s=>((HSC.out s).cell (p:=⟨w.heap.size,4,none⟩) al).trans a4
   have f0:∀s:HW S,s.w.cell? ⟨B,0,none⟩=some (.string xa):=fun s=>((HSC.out s).cell (p:=⟨B,0,none⟩) bl).trans x0
   have f1:∀s:HW S,s.w.cell? ⟨B,1,none⟩=some (.string xm):=fun s=>((HSC.out s).cell (p:=⟨B,1,none⟩) bl).trans x1
   have f2:∀s:HW S,s.w.cell? ⟨B,2,none⟩=some (.int .i64 xo):=fun s=>((HSC.out s).cell (p:=⟨B,2,none⟩) bl).trans x2
   have f3:∀s:HW S,s.w.cell? ⟨B,3,none⟩=some (.int .i64 xe):=fun s=>((HSC.out s).cell (p:=⟨B,3,none⟩) bl).trans x3
   have f4:∀s:HW S,s.w.cell? ⟨B,4,none⟩=some (.int .i64 xs):=fun s=>((HSC.out s).cell (p:=⟨B,4,none⟩) bl).trans x4
   have f5:∀s:HW S,s.w.cell? ⟨B,5,none⟩=some (.int .i64 xx):=fun s=>((HSC.out s).cell (p:=⟨B,5,none⟩) bl).trans x5
   have f6:∀s:HW S,s.w.cell? ⟨B,6,none⟩=some (.slice ta tl tc):=fun s=>((HSC.out s).cell (p:=⟨B,6,none⟩) bl).trans x6
   have f7:∀s:HW S,s.w.cell? ⟨B,7,none⟩=some (.slice ha hl hc):=fun s=>((HSC.out s).cell (p:=⟨B,7,none⟩) bl).trans x7
   have g0:∀s:HW S,s.w.cell? ⟨b,off+j*8,none⟩=some (.string ya):=fun s=>((HSC.out s).cell (p:=⟨b,off+j*8,none⟩) hbl').trans d0
   have g1:∀s:HW S,s.w.cell? ⟨b,off+j*8+1,none⟩=some (.string ym):=fun s=>((HSC.out s).cell (p:=⟨b,off+j*8+1,none⟩) hbl').trans d1
   have g2:∀s:HW S,s.w.cell? ⟨b,off+j*8+2,none⟩=some (.int .i64 yo):=fun s=>((HSC.out s).cell (p:=⟨b,off+j*8+2,none⟩) hbl').trans d2
   have g3:∀s:HW S,s.w.cell? ⟨b,off+j*8+3,none⟩=some (.int .i64 ye):=fun s=>((HSC.out s).cell (p:=⟨b,off+j*8+3,none⟩) hbl').trans d3
   have g4:∀s:HW S,s.w.cell? ⟨b,off+j*8+4,none⟩=some (.int .i64 ys):=fun s=>((HSC.out s).cell (p:=⟨b,off+j*8+4,none⟩) hbl').trans d4
   have g5:∀s:HW S,s.w.cell? ⟨b,off+j*8+5,none⟩=some (.int .i64 yx):=fun s=>((HSC.out s).cell (p:=⟨b,off+j*8+5,none⟩) hbl').trans d5
   have g6:∀s:HW S,s.w.cell? ⟨b,off+j*8+6,none⟩=some (.slice ta' tl' tc'):=fun s=>((HSC.out s).cell (p:=⟨b,off+j*8+6,none⟩) hbl').trans d6
   have g7:∀s:HW S,s.w.cell? ⟨b,off+j*8+7,none⟩=some (.slice ha' hl' hc'):=fun s=>((HSC.out s).cell (p:=⟨b,off+j*8+7,none⟩) hbl').trans d7
   go_wp2_with fail
   clear hA3 hX3 hS al bl a4 a6 x0 x1 x2 x3 x4 x5 x6 x7 d0 d1 d2 d3 d4 d5 d6 d7
   have HN:=H_ hn
   clear hn
   refine wp_region_hw S (by kernel_rfl) (by kernel_rfl) HSD.out ?_
   repeat (go_big_quiet_step ((rename_i s;go_at_call 131;refine (HWL2.out _).mono ?_;rintro e w1 ⟨rfl,hb1⟩;exact ⟨rfl,⟨w1,HSB.out s w1 hb1⟩,rfl⟩)))
   refine wpQuiet_nil ?_
   intro _ hw'
   obtain ⟨s,hw''⟩:=hw'
   subst hw''
   have HB4:=H_ (HB3.out.trans ((HSC.out s).mono HB3.out.size))
   have HA4:=H_ (HA3.out.below (HSC.out s))
   clear HA3 HB3 HX3 HWL2 HSC HSB HSD hne e4 f0 f1 f2 f3 f4 f5 f6 f7 g0 g1 g2 g3 g4 g5 g6 g7
   have hn:=HN.out
   clear HN
   cases lb
   ·have HR:=H_ (HFK.out HOK2.out)
    have hn2:0≤n:=by
     rcases Int.lt_or_le n 0 with h|h
     ·rw [eq_iff_iff] at hn
      exact absurd (hn.1 h) (by simp)
     ·exact h
    clear hn HFK HMK HOK2
    go_wp2_with fail
    go_ret
    exact ⟨ret_bool HR.out.symm,HB4.out⟩
   ·have HM2:=H_ (HMK.out HOK2.out)
    have hn2:¬0≤n:=by
     rw [eq_iff_iff] at hn
     have:=hn.2 rfl
     omega
    clear hn HFK HMK HOK2
    go_wp2_with fail
    go_roundw
    case rel=>exact ⟨k+1,by omega,by go_num,HM2,HA4,HB4⟩
    case measure=>simp [intOf];omega
  ·have hlt2:¬(k:Int)<(len:Int):=by omega
   obtain rfl:k=len:=by omega
   have HR:=H_ (HY.out (by omega) HK.out)
   go_wp2_with fail
   go_ret
   exact ⟨ret_bool HR.out.symm,HB.out⟩
end EngR
namespace LedR
open LinR RowG LtR NetR DocR
theorem of_cases (a:ByteArray) (m:Int) (x:D):((x.a.toList==a.toList)=false∧of a m x=false)∨((x.a.toList==a.toList)=true∧(x.mo==m)=false∧of a m x=false)∨((x.a.toList==a.toList)=true∧(x.mo==m)=true∧of a m x=true):=by
 unfold of
 cases (x.a.toList==a.toList)<;>cases (x.mo==m)<;>simp
theorem scount (ao:Option Addr) (cap:Nat) (ds:List D) (n:Nat) (a:ByteArray) (m:Int) (w:World) (hn:n≤ds.length) (hlen:ds.length≤1048576) (hI:Dcs ao ds w) :
 Calls Tryz.prog 107 #[.slice ao ds.length cap,.int .i64 n,.string a,.int .i64 m] w fun e w'=>e=.returned (.int .i64 (cnt (ds.take n) a m:Nat))∧Below w.heap.size w w':=by
 have HI:=H_ hI
 have HN:=H_ hn
 obtain ⟨len,hl⟩:∃len,len=ds.length:=⟨_,rfl⟩
 rw [←hl] at hlen hn ⊢
 have HL:=H_ hl
 have HCL:Hid (∀k,cnt (ds.take k) a m≤1048576):=H_ (fun k=>by have h1:=cnt_le (ds.take k) a m;have h2:=(List.take_sublist k ds).length_le;omega)
 clear hI hl
 go_enter Tryz.func107,Tryz.ntmps107
 go_wp2_with fail
 go_loopw [9,10] (fun c z wr=>∃k:Nat,k≤n∧z=.int .i64 k∧c=.int .i64 (cnt (ds.take k) a m:Nat)∧Hid (Below w.heap.size w wr)) (fun c z _=>n-(intOf z).toNat)
 case atStart=>exact ⟨0,by omega,rfl,rfl,H_ (Below.refl _ _)⟩
 case round =>
  obtain ⟨k,hk,rfl,rfl,HB⟩:=hrel
  have hcl:=HCL.out k
  by_cases hlt:k<n
  ·have hlt2:(k:Int)<(n:Int):=by omega
   have hkl2:(k:Int)<(len:Int):=by omega
   have hkl:k<ds.length:=by have:=HL.out;omega
   obtain ⟨b,off,la,lc,rfl,hbl,c0,c1,c2,c3,_⟩:=(HI.out.below HB.out).at k hkl
   have HC:=H_ (cnt_more ds k hkl a m)
   have HO:=H_ (of_cases a m (ds.getD k D.zero))
   generalize ds.getD k D.zero=X at *
   obtain ⟨xa,xm,xs,xl⟩:=X
   dsimp only at c0 c1
   rcases HO.out with ⟨q1,q2⟩|⟨q1,q3,q2⟩|⟨q1,q3,q2⟩
   ·dsimp only at q1
    rw [q2,cond_false,Nat.add_zero] at HC
    go_wp2_with fail
    go_roundw
    case rel=>exact ⟨k+1,by omega,by go_num,by rw [HC.out];rfl,HB⟩
    case measure=>simp [intOf];omega
   ·dsimp only at q1 q3
    rw [q2,cond_false,Nat.add_zero] at HC
    go_wp2_with fail
    go_roundw
    case rel=>exact ⟨k+1,by omega,by go_num,by rw [HC.out];rfl,HB⟩
    case measure=>simp [intOf];omega
   ·dsimp only at q1 q3
    rw [q2,cond_true] at HC
    generalize cnt (ds.take k) a m=C at *
    go_wp2_with fail
    go_roundw
    case rel=>exact ⟨k+1,by omega,by go_num,by rw [HC.out];go_num,HB⟩
    case measure=>simp [intOf];omega
  ·have hlt2:¬(k:Int)<(n:Int):=by omega
   obtain rfl:k=n:=by omega
   go_wp2_with fail
   go_ret
   exact ⟨rfl,HB.out⟩
theorem ssum (ao:Option Addr) (cap:Nat) (ds:List D) (a:ByteArray) (m:Int) (w:World) (hlen:ds.length≤30) (hS:SOk ds ds.length) (hI:Dcs ao ds w) :
 Calls Tryz.prog 109 #[.slice ao ds.length cap,.string a,.int .i64 m] w fun e w'=>∃v,e=.returned v∧OwnN w' w.heap.size v (net ds a m)∧Below w.heap.size w w':=by
 have HI:=H_ hI
 have HS:=H_ hS
 obtain ⟨len,hl⟩:∃len,len=ds.length:=⟨_,rfl⟩
 have HEND:Hid (net (ds.take len) a m=net ds a m):=H_ (by rw [hl,List.take_length])
 rw [←hl] at hlen ⊢
 have HL:=H_ hl
 have HE:=H_ (own_empty w w.heap.size 209 2 (Nat.le_refl _))
 clear hI hl hS
 go_enter Tryz.func109,Tryz.ntmps109
 go_wp2_with fail
 go_loopw [7,8] (fun v z wr=>∃k:Nat,k≤len∧z=.int .i64 k∧Hid (OwnN wr w.heap.size v (net (ds.take k) a m))∧Hid (Below w.heap.size w wr)) (fun v z _=>len-(intOf z).toNat)
 case atStart=>exact ⟨0,by omega,rfl,H_ ⟨HE.out,fun e=>by cases e⟩,H_ (al _ _)⟩
 case round =>
  obtain ⟨k,hk,rfl,HV,HB⟩:=hrel
  by_cases hlt:k<len
  ·have hlt2:(k:Int)<(len:Int):=by omega
   have hkl:k<ds.length:=by have:=HL.out;omega
   obtain ⟨b,off,la,lc,rfl,hbl,c0,c1,c2,c3,hLi⟩:=(HI.out.below HB.out).at k hkl
   have HLi:=H_ hLi
   have HNM:=H_ (net_more ds k hkl a m)
   have HNF:=H_ (net_facts (ds:=ds) k (by omega) (fun i hi=>HS.out i (by omega)) a m)
   have HRG:=H_ (dB_lines (HS.out k hkl).1)
   have HO:=H_ (of_cases a m (ds.getD k D.zero))
   clear hLi
   generalize ds.getD k D.zero=X at *
   obtain ⟨xa,xm,xs,xl⟩:=X
   dsimp only at c0 c1 c3
   rcases HO.out with ⟨q1,q2⟩|⟨q1,q3,q2⟩|⟨q1,q3,q2⟩
   ·dsimp only at q1
    rw [q2,cond_false] at HNM
    go_wp2_with fail
    go_roundw
    case rel=>exact ⟨k+1,by omega,by go_num,H_ (by rw [HNM.out];exact HV.out),HB⟩
    case measure=>simp [intOf];omega
   ·dsimp only at q1 q3
    rw [q2,cond_false] at HNM
    go_wp2_with fail
    go_roundw
    case rel=>exact ⟨k+1,by omega,by go_num,H_ (by rw [HNM.out];exact HV.out),HB⟩
    case measure=>simp [intOf];omega
   ·dsimp only at q1 q3
    rw [q2,cond_true] at HNM
    obtain ⟨g,cp,rfl,g1,g2,g3,g4,g5⟩:=HV.out.open
    have h6:xl.length≤6:=HRG.out.1
    have HAD:=H_ (sadd g 0 cp (net (ds.take k) a m) la lc xl 1 (6000000000000000*(k:Int)) wr (.inl rfl) (by omega) (right_bd HRG.out) HNF.out.1 (by have:=HNF.out.2.1;omega) (by omega) HNF.out.2.2 g5 HLi.out)
    generalize net (ds.take k) a m=NL at *
    generalize xl.length=ll at *
    generalize NL.length=nl at *
    clear g5
    go_wp2_with fail
    refine HAD.out.mono ?_
    rintro e w2 ⟨v,rfl,hv,hb⟩
    have HV2:Hid (OwnN w2 w.heap.size v (all NL xl 1)):=H_ ⟨own_low hv.1 HB.out.size,hv.2⟩
    have HB2:=HT_ HB hb
    clear hv hb
    go_wp2_with fail
    go_roundw
    case rel=>exact ⟨k+1,by omega,by go_num,H_ (by rw [HNM.out];exact HV2.out),HB2⟩
    case measure=>simp [intOf];omega
  ·have hlt2:¬(k:Int)<(len:Int):=by omega
   obtain rfl:k=len:=by omega
   rw [HEND.out] at HV
   go_wp2_with fail
   go_ret
   exact ⟨_,rfl,HV.out,HB.out⟩
end LedR
namespace LedR
open LinR RowG LtR NetR DocR
theorem rows_step {rb M k nb:Nat} {ds:List D} {W W':World} {Dm:DataW Value} {f:ByteArray→Int→Nat} (hk:k<ds.length) (hg:Good (ds.getD k D.zero).a (ds.getD k D.zero).mo)
 (h1:W.ownsMap Tryz.prog 231 RV rb M Dm)
 (h2:∀kl,Maps.has Dm kl=true→∃a m,Good a m∧kl=kP a m∧cnt (ds.take k) a m≠0)
 (h3:∀a m,cnt (ds.take k) a m≠0→Good a m∧(∀z,Dm.atKey (kP a m) z=.held (.agg #[.int .i64 (cnt (ds.take k) a m:Nat),.map (some (f a m))]))∧rb<f a m∧f a m<W.heap.size∧∃Dn M',M'≤6*(ds.take k).length∧W.ownsMap Tryz.prog 9 (plainElem (H:=Value) Tryz.prog 2) (f a m) M' Dn∧NetM Dn (net (ds.take k) a m))
 (h4:∀a m a' m',cnt (ds.take k) a m≠0→cnt (ds.take k) a' m'≠0→f a m=f a' m'→a=a'∧m=m')
 (hnb:rb<nb∧nb<W'.heap.size)
 (hnew:(cnt (ds.take k) (ds.getD k D.zero).a (ds.getD k D.zero).mo≠0∧nb=f (ds.getD k D.zero).a (ds.getD k D.zero).mo)∨(cnt (ds.take k) (ds.getD k D.zero).a (ds.getD k D.zero).mo=0∧W.heap.size≤nb))
 (hrows:W'.ownsMap Tryz.prog 231 RV rb (M+1) (Dm.put (kP (ds.getD k D.zero).a (ds.getD k D.zero).mo) (.held (.agg #[.int .i64 ((cnt (ds.take k) (ds.getD k D.zero).a (ds.getD k D.zero).mo:Nat)+1),.map (some nb)]))))
 (hnet:∃Dn M',M'≤6*(k+1)∧W'.ownsMap Tryz.prog 9 (plainElem (H:=Value) Tryz.prog 2) nb M' Dn∧NetM Dn (all (net (ds.take k) (ds.getD k D.zero).a (ds.getD k D.zero).mo) (ds.getD k D.zero).ls 1))
 (hoth:∀b,b<W.heap.size→b≠rb→b≠nb→W'.heap[b]? = W.heap[b]?) (hsz:W.heap.size≤W'.heap.size) :
 RowsM rb (M+1) (ds.take (k+1)) W':=by
 have htl:(ds.take (k+1)).length=k+1:=by simp;omega
 have htk:(ds.take k).length=k:=by simp;omega
 have hcm:=fun a m=>cnt_more ds k hk a m
 have hnm:=fun a m=>net_more ds k hk a m
 generalize hX:ds.getD k D.zero=X at *
 have hself:of X.a X.mo X=true:=of_self X
 have hoth2:∀a m,¬(a=X.a∧m=X.mo)→of a m X=false:=by
  intro a m hn
  cases h:of a m X
  ·rfl
  ·obtain ⟨e1,e2⟩:=of_iff.1 h
   exact absurd ⟨e1.symm,e2.symm⟩ hn
 have hkeep:∀b n Dn,b<W.heap.size→b≠rb→b≠nb→W.ownsMap Tryz.prog 9 (plainElem (H:=Value) Tryz.prog 2) b n Dn→W'.ownsMap Tryz.prog 9 (plainElem (H:=Value) Tryz.prog 2) b n Dn:=by
  intro b n Dn hb n1 n2 ⟨es,clock,q1,q2⟩
  exact ⟨es,clock,(hoth b hb n1 n2).trans q1,q2⟩
 have hmono:∀a m,cnt (ds.take k) a m≠0→cnt (ds.take (k+1)) a m≠0:=fun a m h=>by rw [hcm];omega
 obtain ⟨f',hf1,hf2⟩:∃f':ByteArray→Int→Nat,f' X.a X.mo=nb∧∀a m,¬(a=X.a∧m=X.mo)→f' a m=f a m:=⟨fun a m=>if a=X.a∧m=X.mo then nb else f a m,by simp,fun a m h=>by simp [h]⟩
 refine ⟨_,f',hrows,fun kl hh=>?_,fun a m hc=>?_,fun a m a' m' hc hc' e=>?_⟩
 ·by_cases e:kl=kP X.a X.mo
  ·exact ⟨X.a,X.mo,hg,e,by rw [hcm,hself,cond_true];omega⟩
  ·rw [Maps.has_put_other e] at hh
   obtain ⟨a,m,g,e2,hc⟩:=h2 kl hh
   exact ⟨a,m,g,e2,hmono a m hc⟩
 ·by_cases e:a=X.a∧m=X.mo
  ·obtain ⟨rfl,rfl⟩:=e
   obtain ⟨Dn,M',q1,q2,q3⟩:=hnet
   refine ⟨hg,fun z=>?_,?_,?_,Dn,M',by rw [htl];exact q1,?_,?_⟩
   ·rw [Maps.atKey_put_same h1.isMap (kP_key _ _),hcm,hself,cond_true,hf1]
    rfl
   ·rw [hf1];exact hnb.1
   ·rw [hf1];exact hnb.2
   ·rw [hf1];exact q2
   ·rw [hnm,hself,cond_true];exact q3
  ·have h0:=hoth2 a m e
   rw [hcm,h0,cond_false,Nat.add_zero] at hc
   obtain ⟨g,p1,p2,p3,Dn,M',p4,p5,p6⟩:=h3 a m hc
   have hne:f a m≠nb:=by
    rcases hnew with ⟨hn,en⟩|⟨_,hn⟩
    ·intro e2
     exact e (h4 a m X.a X.mo hc hn (e2.trans en))
    ·omega
   refine ⟨g,fun z=>?_,?_,?_,Dn,M',by rw [htl];rw [htk] at p4;omega,?_,?_⟩
   ·rw [Maps.atKey_put_other (fun e2=>e (kP_inj g hg e2)),p1,hcm,h0,cond_false,Nat.add_zero,hf2 a m e]
   ·rw [hf2 a m e];exact p2
   ·rw [hf2 a m e];omega
   ·rw [hf2 a m e];exact hkeep _ _ _ p3 (by omega) hne p5
   ·rw [hnm,h0,cond_false];exact p6
 ·have key:∀a m,cnt (ds.take (k+1)) a m≠0→¬(a=X.a∧m=X.mo)→cnt (ds.take k) a m≠0∧f a m≠nb:=by
   intro a m hc hn
   rw [hcm,hoth2 a m hn,cond_false,Nat.add_zero] at hc
   refine ⟨hc,?_⟩
   rcases hnew with ⟨hn2,en⟩|⟨_,hn2⟩
   ·intro e2
    exact hn (h4 a m X.a X.mo hc hn2 (e2.trans en))
   ·have:=(h3 a m hc).2.2.2.1;omega
  by_cases e1:a=X.a∧m=X.mo
  ·by_cases e2:a'=X.a∧m'=X.mo
   ·exact ⟨e1.1.trans e2.1.symm,e1.2.trans e2.2.symm⟩
   ·rw [e1.1,e1.2,hf1,hf2 a' m' e2] at e
    exact absurd e.symm (key a' m' hc' e2).2
  ·by_cases e2:a'=X.a∧m'=X.mo
   ·rw [e2.1,e2.2,hf1,hf2 a m e1] at e
    exact absurd e (key a m hc e1).2
   ·rw [hf2 a m e1,hf2 a' m' e2] at e
    exact h4 a m a' m' (key a m hc e1).1 (key a' m' hc' e2).1 e
end LedR
end Go.Proofs.YtnceeaccbcfopaaGreatDoor
