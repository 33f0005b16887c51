/-
  How an engine's windows stand, on both sides. The condition: none beyond the values.
-/
import Derived.Deep.RegionHeld3
import Derived.Test.YtnceeaccbcfopaaGreatDoorT134
namespace Go.Proofs.YtnceeaccbcfopaaGreatDoor
open Go.ChangeShapes Go.WideShapes Go.ChangeAt Go.RowKit
set_option linter.unusedVariables false
namespace WinR
open RowG LtR
open Go.Op (bytesLess)
open CatR (Blk Blk.new)
def wlt (x y:Wd):Bool:=if x.a=y.a then (if x.mo=y.mo then lt x.m y.m else decide (x.mo<y.mo)) else lt x.a y.a
def ci (x y:Int):Int:=if x<y then -1 else if y<x then 1 else 0
def or3 (a b c:Int):Int:=if a≠0 then a else if b≠0 then b else c
theorem order_lt (x y:Wd):(or3 (cb x.a y.a) (ci x.mo y.mo) (cb x.m y.m)<0)=(wlt x y=true):=by
 unfold or3 wlt ci
 rcases cb_cases x.a y.a with ⟨c1,c2,c3⟩|⟨c1,c2,c3⟩|⟨c1,c2,c3⟩
 ·simp [c1,c2,c3]
 ·rw [c1,if_pos c3]
  simp only [ne_eq,not_true,if_false]
  rcases (show x.mo<y.mo∨x.mo=y.mo∨y.mo<x.mo by omega) with h|h|h
  ·simp [h,show ¬x.mo=y.mo by omega]
  ·rw [if_pos h]
   simp only [h,Int.lt_irrefl,if_false,not_true]
   rcases cb_cases x.m y.m with ⟨d1,d2,d3⟩|⟨d1,d2,d3⟩|⟨d1,d2,d3⟩<;>simp [d1,d2]
  ·have h1:¬x.mo<y.mo:=by omega
   have h2:¬x.mo=y.mo:=by omega
   simp [h,h1,h2]
 ·simp [c1,c2,c3]
theorem icmp (x y:Int) (w:World):Calls Tryz.prog 180 #[.int .i64 x,.int .i64 y] w fun e w'=>e=.returned (.int .i64 (ci x y))∧w'=w:=by
 unfold ci
 rcases (show x<y∨(¬x<y∧y<x)∨(¬x<y∧¬y<x) by omega) with h|⟨h,h2⟩|⟨h,h2⟩
 ·rw [if_pos h]
  go_enter Tryz.func180,Tryz.ntmps180
  go_wp2
  go_ret
  exact ⟨rfl,rfl⟩
 ·rw [if_neg h,if_pos h2]
  go_enter Tryz.func180,Tryz.ntmps180
  go_wp2
  go_ret
  exact ⟨rfl,rfl⟩
 ·rw [if_neg h,if_neg h2]
  go_enter Tryz.func180,Tryz.ntmps180
  go_wp2
  go_ret
  exact ⟨rfl,rfl⟩
theorem ior (a b c:Int) (w:World):Calls Tryz.prog 178 #[.slice (some ⟨w.heap.size,0,none⟩) 3 3] (w.alloc (.cells #[.int .i64 a,.int .i64 b,.int .i64 c] 3)) fun e w'=>e=.returned (.int .i64 (or3 a b c))∧w'=w.alloc (.cells #[.int .i64 a,.int .i64 b,.int .i64 c] 3):=by
 obtain ⟨W,hW⟩:∃z,z=w.alloc (.cells #[.int .i64 a,.int .i64 b,.int .i64 c] 3):=⟨_,rfl⟩
 have h:=Blk.new w [.int .i64 a,.int .i64 b,.int .i64 c] 3
 rw [show (w.alloc (.cells [Value.int .i64 a,.int .i64 b,.int .i64 c].toArray 3))=W from hW.symm] at h
 rw [←hW]
 clear hW
 generalize w.heap.size=g at *
 obtain ⟨hl,hc⟩:=h
 have c0:W.cell? ⟨g,0,none⟩=some (.int .i64 a):=hc 0 (by simp)
 have c1:W.cell? ⟨g,1,none⟩=some (.int .i64 b):=hc 1 (by simp)
 have c2:W.cell? ⟨g,2,none⟩=some (.int .i64 c):=hc 2 (by simp)
 clear hc
 go_enter Tryz.func178,Tryz.ntmps178
 go_wp2_with fail
 go_loopw [8,5] (fun z y wr=>∃k:Nat,k≤3∧z=.int .i64 k∧wr=W∧(1≤k→a=0)∧(2≤k→b=0)∧(3≤k→c=0)) (fun z _ _=>3-(intOf z).toNat)
 case atStart=>exact ⟨0,by omega,rfl,rfl,by omega,by omega,by omega⟩
 case round =>
  obtain ⟨k,hk,rfl,rfl,h1,h2,h3⟩:=hrel
  rcases (show k=0∨k=1∨k=2∨k=3 by omega) with rfl|rfl|rfl|rfl
  ·by_cases q:a=0
   ·go_wp2_with fail
    go_roundw
    case rel=>exact ⟨1,by omega,by go_num,trivial,fun _=>q,by omega,by omega⟩
    case measure=>simp [intOf]
   ·have hR:or3 a b c=a:=by unfold or3;rw [if_pos q]
    go_wp2_with fail
    go_ret
    exact ⟨ret_int hR.symm,rfl⟩
  ·have q0:=h1 (by omega)
   by_cases q:b=0
   ·go_wp2_with fail
    go_roundw
    case rel=>exact ⟨2,by omega,by go_num,trivial,fun _=>q0,fun _=>q,by omega⟩
    case measure=>simp [intOf]
   ·have hR:or3 a b c=b:=by unfold or3;rw [if_neg (by simp [q0]),if_pos q]
    go_wp2_with fail
    go_ret
    exact ⟨ret_int hR.symm,rfl⟩
  ·have q0:=h1 (by omega)
   have q1:=h2 (by omega)
   have hR:or3 a b c=c:=by unfold or3;rw [if_neg (by simp [q0]),if_neg (by simp [q1])]
   by_cases q:c=0
   ·go_wp2_with fail
    go_roundw
    case rel=>exact ⟨3,by omega,by go_num,trivial,fun _=>q0,fun _=>q1,fun _=>q⟩
    case measure=>simp [intOf]
   ·go_wp2_with fail
    go_ret
    exact ⟨ret_int hR.symm,rfl⟩
  ·have q0:=h1 (by omega)
   have q1:=h2 (by omega)
   have q2:=h3 (by omega)
   have hR:or3 a b c=0:=by unfold or3;simp [q0,q1,q2]
   go_wp2_with fail
   go_ret
   exact ⟨ret_int hR.symm,rfl⟩
def OB (w:World) (xa xm ya ym:ByteArray) (xo yo:Int) (W:World):Prop:=Below w.heap.size w W∧w.heap.size+1<W.heap.size∧W.cell? ⟨w.heap.size,0,none⟩=some (.string xa)∧W.cell? ⟨w.heap.size,1,none⟩=some (.string xm)∧W.cell? ⟨w.heap.size,2,none⟩=some (.int .i64 xo)∧W.cell? ⟨w.heap.size+1,0,none⟩=some (.string ya)∧W.cell? ⟨w.heap.size+1,1,none⟩=some (.string ym)∧W.cell? ⟨w.heap.size+1,2,none⟩=some (.int .i64 yo)
theorem OB.below {w:World} {xa xm ya ym:ByteArray} {xo yo:Int} {W W':World} (h:OB w xa xm ya ym xo yo W) (hb:Below W.heap.size W W'):OB w xa xm ya ym xo yo W':=by
 obtain ⟨h0,h1,c0,c1,c2,d0,d1,d2⟩:=h
 have f:=fun o=>hb.cell (p:=⟨w.heap.size,o,none⟩) (show w.heap.size<W.heap.size by omega)
 have g:=fun o=>hb.cell (p:=⟨w.heap.size+1,o,none⟩) h1
 have:=hb.size
 exact ⟨h0.trans (hb.mono h0.size),by omega,(f _).trans c0,(f _).trans c1,(f _).trans c2,(g _).trans d0,(g _).trans d1,(g _).trans d2⟩
set_option maxRecDepth 100000 in
set_option maxHeartbeats 4000000 in
theorem iorder_in (xa xm:ByteArray) (xo xe xs xx:Int) (xta:Option Addr) (xtl xtc:Nat) (xha:Option Addr) (xhl xhc:Nat) (ya ym:ByteArray) (yo ye ys yx:Int) (yta:Option Addr) (ytl ytc:Nat) (yha:Option Addr) (yhl yhc:Nat) (w:World) :
 Calls Tryz.prog 131 #[.agg #[.string xa,.string xm,.int .i64 xo,.int .i64 xe,.int .i64 xs,.int .i64 xx,.slice xta xtl xtc,.slice xha xhl xhc],.agg #[.string ya,.string ym,.int .i64 yo,.int .i64 ye,.int .i64 ys,.int .i64 yx,.slice yta ytl ytc,.slice yha yhl yhc]] w fun e w'=>e=.returned (.int .i64 (or3 (cb xa ya) (ci xo yo) (cb xm ym)))∧Below w.heap.size w w':=by
 have HC:=H_ icb
 have HI:=H_ icmp
 have HO:=H_ ior
 have HS0:Hid (OB w xa xm ya ym xo yo ((w.alloc (.cells #[.string xa,.string xm,.int .i64 xo,.int .i64 xe,.int .i64 xs,.int .i64 xx,.slice xta xtl xtc,.slice xha xhl xhc] 106)).alloc (.cells #[.string ya,.string ym,.int .i64 yo,.int .i64 ye,.int .i64 ys,.int .i64 yx,.slice yta ytl ytc,.slice yha yhl yhc] 106))):=H_ ⟨((Below.refl _ _).alloc (Nat.le_refl _) _).alloc (by simp) _,by simp,by simp [go_sem],by simp [go_sem],by simp [go_sem],by simp [go_sem],by simp [go_sem],by simp [go_sem]⟩
 have HS1:=H_ (HS0.out.below (Below.refl _ _).drew)
 go_enter Tryz.func131,Tryz.ntmps131
 go_wp2_with fail
 refine wp_region_held_drew (S:=(fun W=>Below w.heap.size w W∧w.heap.size+1<W.heap.size∧W.cell? ⟨w.heap.size,0,none⟩=some (.string xa)∧W.cell? ⟨w.heap.size,1,none⟩=some (.string xm)∧W.cell? ⟨w.heap.size,2,none⟩=some (.int .i64 xo)∧W.cell? ⟨w.heap.size+1,0,none⟩=some (.string ya)∧W.cell? ⟨w.heap.size+1,1,none⟩=some (.string ym)∧W.cell? ⟨w.heap.size+1,2,none⟩=some (.int .i64 yo))) (by kernel_rfl) HS1.out (fun hHeld=>?_)
 obtain ⟨kd,hkd⟩:∃z,z=((w.alloc (.cells #[.string xa,.string xm,.int .i64 xo,.int .i64 xe,.int .i64 xs,.int .i64 xx,.slice xta xtl xtc,.slice xha xhl xhc] 106)).alloc (.cells #[.string ya,.string ym,.int .i64 yo,.int .i64 ye,.int .i64 ys,.int .i64 yx,.slice yta ytl ytc,.slice yha yhl yhc] 106)).drew:=⟨_,rfl⟩
 rw [←hkd]
 have HS2:=HS1
 rw [←hkd] at HS2 hHeld
 clear hkd HS1 HS0
 refine tk 0 (⟨some 5,.fieldAddr 106 (.tmp 2) 0,0,"l10_engine.go:108",#[],none⟩) ?_
 refine tk 1 (⟨some 6,.load 9 (.tmp 5),9,"l10_engine.go:108",#[⟨0,.data⟩],none⟩) ?_
 refine tk 2 (⟨some 7,.fieldAddr 106 (.tmp 3) 0,0,"l10_engine.go:108",#[],none⟩) ?_
 refine tk 3 (⟨some 8,.load 9 (.tmp 7),9,"l10_engine.go:108",#[⟨2,.data⟩],none⟩) ?_
 refine tk 5 (⟨some 10,.fieldAddr 106 (.tmp 2) 2,0,"l10_engine.go:108",#[],none⟩) ?_
 refine tk 6 (⟨some 11,.load 2 (.tmp 10),2,"l10_engine.go:108",#[⟨5,.data⟩],none⟩) ?_
 refine tk 7 (⟨some 12,.fieldAddr 106 (.tmp 3) 2,0,"l10_engine.go:108",#[],none⟩) ?_
 refine tk 8 (⟨some 13,.load 2 (.tmp 12),2,"l10_engine.go:108",#[⟨7,.data⟩],none⟩) ?_
 refine tk 10 (⟨some 15,.fieldAddr 106 (.tmp 2) 1,0,"l10_engine.go:108",#[],none⟩) ?_
 refine tk 11 (⟨some 16,.load 9 (.tmp 15),9,"l10_engine.go:108",#[⟨10,.data⟩],none⟩) ?_
 refine tk 12 (⟨some 17,.fieldAddr 106 (.tmp 3) 1,0,"l10_engine.go:108",#[],none⟩) ?_
 refine tk 13 (⟨some 18,.load 9 (.tmp 17),9,"l10_engine.go:108",#[⟨12,.data⟩],none⟩) ?_
 refine rd 4 (⟨some 9,.call {callee:=Callee.value (.func 179),args:=#[.tmp 6,.tmp 8],argTypes:=#[9,9]},3,"l10_engine.go:108",#[⟨1,.data⟩,⟨3,.data⟩],none⟩) (fun K hK=>?_)
 go_simp
 go_at_call 179
 refine (HC.out _ _ _).mono ?_
 rintro e w' ⟨rfl,rfl⟩
 try go_wp2_with fail
 refine hK.out _ _ HS2.out (fun _=>?_)
 clear hK K
 try simp only [Act.put,SL]
 refine rd 9 (⟨some 14,.call {callee:=Callee.value (.func 180),args:=#[.tmp 11,.tmp 13],argTypes:=#[2,2]},3,"l10_engine.go:108",#[⟨6,.data⟩,⟨8,.data⟩,⟨4,.chain⟩],none⟩) (fun K hK=>?_)
 go_simp
 go_at_call 180
 refine (HI.out _ _ _).mono ?_
 rintro e w' ⟨rfl,rfl⟩
 try go_wp2_with fail
 refine hK.out _ _ HS2.out (fun _=>?_)
 clear hK K
 try simp only [Act.put,SL]
 refine rd 14 (⟨some 19,.call {callee:=Callee.value (.func 179),args:=#[.tmp 16,.tmp 18],argTypes:=#[9,9]},3,"l10_engine.go:108",#[⟨11,.data⟩,⟨13,.data⟩,⟨9,.chain⟩],none⟩) (fun K hK=>?_)
 go_simp
 go_at_call 179
 refine (HC.out _ _ _).mono ?_
 rintro e w' ⟨rfl,rfl⟩
 try go_wp2_with fail
 refine hK.out _ _ HS2.out (fun _=>?_)
 clear hK K
 try simp only [Act.put,SL]
 refine rd 15 (⟨some 20,.buildSlice 266 3 #[(0,.tmp 9),(1,.tmp 14),(2,.tmp 19)],266,"l10_engine.go:108",#[⟨4,.data⟩,⟨9,.data⟩,⟨14,.data⟩],none⟩) (fun K hK=>?_)
 go_simp
 try go_wp2_with fail
 have hk:=@OB.below w xa xm ya ym xo yo _ _ HS2.out ((Below.refl _ _).alloc (Nat.le_refl _) (.cells #[.int .i64 (cb xa ya),.int .i64 (ci xo yo),.int .i64 (cb xm ym)] 3))
 refine hK.out _ _ hk (fun _=>?_)
 clear hK K
 try simp only [Act.put,SL]
 refine rd 16 (⟨some 21,.call {callee:=Callee.value (.func 178),args:=#[.tmp 20],argTypes:=#[266]},3,"l10_engine.go:108",#[⟨15,.data⟩,⟨14,.chain⟩],none⟩) (fun K hK=>?_)
 go_simp
 go_at_call 178
 refine (HO.out _ _ _ _).mono ?_
 rintro e w' ⟨rfl,rfl⟩
 try go_wp2_with fail
 refine hK.out _ _ hk (fun _=>?_)
 clear hK K
 try simp only [Act.put,SL]
 refine tk 17 (⟨some 4,.assign (.tmp 21),3,"l10_engine.go:108",#[⟨16,.data⟩,⟨16,.chain⟩,⟨0,.phase⟩,⟨1,.phase⟩,⟨2,.phase⟩,⟨3,.phase⟩,⟨4,.phase⟩,⟨5,.phase⟩,⟨6,.phase⟩,⟨7,.phase⟩,⟨8,.phase⟩,⟨9,.phase⟩,⟨10,.phase⟩,⟨11,.phase⟩,⟨12,.phase⟩,⟨13,.phase⟩,⟨14,.phase⟩,⟨15,.phase⟩,⟨16,.phase⟩],none⟩) ?_
 refine wpAnyH_done (by kernel_rfl) ?_ _
 have HB9:=H_ hk.1
 clear hk
 go_wp2_with fail
 go_ret
 exact ⟨rfl,HB9.out⟩
set_option maxHeartbeats 4000000 in
theorem sless_in (xa xm:ByteArray) (xo xe xs xx:Int) (xta:Option Addr) (xtl xtc:Nat) (xha:Option Addr) (xhl xhc:Nat) (ya ym:ByteArray) (yo ye ys yx:Int) (yta:Option Addr) (ytl ytc:Nat) (yha:Option Addr) (yhl yhc:Nat) (w:World) :
 Calls Tryz.prog 58 #[.agg #[.string xa,.string xm,.int .i64 xo,.int .i64 xe,.int .i64 xs,.int .i64 xx,.slice xta xtl xtc,.slice xha xhl xhc],.agg #[.string ya,.string ym,.int .i64 yo,.int .i64 ye,.int .i64 ys,.int .i64 yx,.slice yta ytl ytc,.slice yha yhl yhc]] w fun e w'=>e=.returned (.bool (if xa=ya then (if xo=yo then lt xm ym else decide (xo<yo)) else lt xa ya))∧Below w.heap.size w w':=by
 have HB:Hid (Below w.heap.size w ((w.alloc (.cells #[.string xa,.string xm,.int .i64 xo,.int .i64 xe,.int .i64 xs,.int .i64 xx,.slice xta xtl xtc,.slice xha xhl xhc] 106)).alloc (.cells #[.string ya,.string ym,.int .i64 yo,.int .i64 ye,.int .i64 ys,.int .i64 yx,.slice yta ytl ytc,.slice yha yhl yhc] 106))):=H_ (((Below.refl _ _).alloc (Nat.le_refl _) _).alloc (by simp) _)
 by_cases h:xa=ya
 ·rw [if_pos h]
  by_cases h2:xo=yo
  ·rw [if_pos h2]
   subst h h2
   go_enter Tryz.func58,Tryz.ntmps58
   go_wp2_with fail
   go_ret
   exact ⟨rfl,HB.out⟩
  ·rw [if_neg h2]
   subst h
   go_enter Tryz.func58,Tryz.ntmps58
   go_wp2_with fail
   go_ret
   exact ⟨rfl,HB.out⟩
 ·rw [if_neg h]
  have hne:xa.toList≠ya.toList:=fun q=>h (toList_inj q)
  have hne2:(xa.toList==ya.toList)=false:=by simpa using hne
  go_enter Tryz.func58,Tryz.ntmps58
  go_wp2_with fail
  go_ret
  exact ⟨rfl,HB.out⟩
theorem sless (x y:Wd) (ta ha ta' ha':Option Addr) (tc hc tc' hc':Nat) (w:World):Calls Tryz.prog 58 #[.agg (wcells x ta tc ha hc),.agg (wcells y ta' tc' ha' hc')] w fun e w'=>e=.returned (.bool (wlt x y))∧Below w.heap.size w w' :=
 sless_in x.a x.m x.mo x.ev x.su x.mx ta _ tc ha _ hc y.a y.m y.mo y.ev y.su y.mx ta' _ tc' ha' _ hc' w
end WinR
end Go.Proofs.YtnceeaccbcfopaaGreatDoor
