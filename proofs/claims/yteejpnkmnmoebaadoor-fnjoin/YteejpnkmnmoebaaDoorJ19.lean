/-
  What two usages were together: the program's way. The conditions: sums far from running over, lists of at most 1048575 items together.
-/
import Derived.Test.YteejpnkmnmoebaaDoorJ18
namespace Go.Proofs.YteejpnkmnmoebaaDoor
open Go.ChangeShapes Go.WideShapes Go.ChangeAt Go.RowKit
set_option linter.unusedVariables false
namespace WinR
open RowG (MadeG Rws)
open EvtR (Pt)
open LtR (lt)
def UJ (w:World) (a1 m1:ByteArray) (mo1 ev1 su1 mx1:Int) (ta1:Option Addr) (tl1 tc1:Nat) (ha1:Option Addr) (hl1 hc1:Nat) (a2 m2:ByteArray) (mo2 ev2 su2 mx2:Int) (ta2:Option Addr) (tl2 tc2:Nat) (ha2:Option Addr) (hl2 hc2:Nat) (W:World):Prop:=Below w.heap.size w W∧w.heap.size+1+1<W.heap.size∧W.cell? ⟨w.heap.size,0,none⟩=some (.string a1)∧W.cell? ⟨w.heap.size,1,none⟩=some (.string m1)∧W.cell? ⟨w.heap.size,2,none⟩=some (.int .i64 mo1)∧W.cell? ⟨w.heap.size,3,none⟩=some (.int .i64 ev1)∧W.cell? ⟨w.heap.size,4,none⟩=some (.int .i64 su1)∧W.cell? ⟨w.heap.size,5,none⟩=some (.int .i64 mx1)∧W.cell? ⟨w.heap.size,6,none⟩=some (.slice ta1 tl1 tc1)∧W.cell? ⟨w.heap.size,7,none⟩=some (.func (.func 60) #[] #[])∧W.cell? ⟨w.heap.size,8,none⟩=some (.func (.func 61) #[] #[])∧W.cell? ⟨w.heap.size,9,none⟩=some (.slice ha1 hl1 hc1)∧W.cell? ⟨w.heap.size,10,none⟩=some (.func (.func 62) #[] #[])∧W.cell? ⟨w.heap.size,11,none⟩=some (.func (.func 63) #[] #[])∧W.cell? ⟨w.heap.size+1,3,none⟩=some (.int .i64 ev2)∧W.cell? ⟨w.heap.size+1,4,none⟩=some (.int .i64 su2)∧W.cell? ⟨w.heap.size+1,5,none⟩=some (.int .i64 mx2)∧W.cell? ⟨w.heap.size+1,6,none⟩=some (.slice ta2 tl2 tc2)∧W.cell? ⟨w.heap.size+1,7,none⟩=some (.func (.func 60) #[] #[])∧W.cell? ⟨w.heap.size+1,8,none⟩=some (.func (.func 61) #[] #[])∧W.cell? ⟨w.heap.size+1,9,none⟩=some (.slice ha2 hl2 hc2)∧W.cell? ⟨w.heap.size+1,10,none⟩=some (.func (.func 62) #[] #[])∧W.cell? ⟨w.heap.size+1,11,none⟩=some (.func (.func 63) #[] #[])∧Pt (w.heap.size+1+1) 12 W
theorem UJ.below {w:World} {a1 m1:ByteArray} {mo1 ev1 su1 mx1:Int} {ta1:Option Addr} {tl1 tc1:Nat} {ha1:Option Addr} {hl1 hc1:Nat} {a2 m2:ByteArray} {mo2 ev2 su2 mx2:Int} {ta2:Option Addr} {tl2 tc2:Nat} {ha2:Option Addr} {hl2 hc2:Nat} {W W':World} (h:UJ w a1 m1 mo1 ev1 su1 mx1 ta1 tl1 tc1 ha1 hl1 hc1 a2 m2 mo2 ev2 su2 mx2 ta2 tl2 tc2 ha2 hl2 hc2 W) (hb:Below W.heap.size W W'):UJ w a1 m1 mo1 ev1 su1 mx1 ta1 tl1 tc1 ha1 hl1 hc1 a2 m2 mo2 ev2 su2 mx2 ta2 tl2 tc2 ha2 hl2 hc2 W':=by
 obtain ⟨h0,h1,c0,c1,c2,c3,c4,c5,c6,c7,c8,c9,c10,c11,d3,d4,d5,d6,d7,d8,d9,d10,d11,hp⟩:=h
 have c:=fun o=>hb.cell (p:=⟨w.heap.size,o,none⟩) (show w.heap.size<W.heap.size by omega)
 have d:=fun o=>hb.cell (p:=⟨w.heap.size+1,o,none⟩) (show w.heap.size+1<W.heap.size by omega)
 have:=hb.size
 exact ⟨h0.trans (hb.mono h0.size),by omega,(c 0).trans c0,(c 1).trans c1,(c 2).trans c2,(c 3).trans c3,(c 4).trans c4,(c 5).trans c5,(c 6).trans c6,(c 7).trans c7,(c 8).trans c8,(c 9).trans c9,(c 10).trans c10,(c 11).trans c11,(d 3).trans d3,(d 4).trans d4,(d 5).trans d5,(d 6).trans d6,(d 7).trans d7,(d 8).trans d8,(d 9).trans d9,(d 10).trans d10,(d 11).trans d11,hp.below hb⟩
theorem UJ.put {w:World} {a1 m1:ByteArray} {mo1 ev1 su1 mx1:Int} {ta1:Option Addr} {tl1 tc1:Nat} {ha1:Option Addr} {hl1 hc1:Nat} {a2 m2:ByteArray} {mo2 ev2 su2 mx2:Int} {ta2:Option Addr} {tl2 tc2:Nat} {ha2:Option Addr} {hl2 hc2:Nat} {W:World} (h:UJ w a1 m1 mo1 ev1 su1 mx1 ta1 tl1 tc1 ha1 hl1 hc1 a2 m2 mo2 ev2 su2 mx2 ta2 tl2 tc2 ha2 hl2 hc2 W) (o:Nat) (v:Value):UJ w a1 m1 mo1 ev1 su1 mx1 ta1 tl1 tc1 ha1 hl1 hc1 a2 m2 mo2 ev2 su2 mx2 ta2 tl2 tc2 ha2 hl2 hc2 (W.setCell ⟨w.heap.size+1+1,o,none⟩ v):=by
 obtain ⟨h0,h1,c0,c1,c2,c3,c4,c5,c6,c7,c8,c9,c10,c11,d3,d4,d5,d6,d7,d8,d9,d10,d11,hp⟩:=h
 have hg:=RowG.grown_set W (w.heap.size+1+1) o v
 have c:=fun k=>World.cell?_of_block (a:=⟨w.heap.size,k,none⟩) (hg.block w.heap.size (by omega) (by simp;omega))
 have d:=fun k=>World.cell?_of_block (a:=⟨w.heap.size+1,k,none⟩) (hg.block (w.heap.size+1) (by omega) (by simp))
 exact ⟨h0.setCell (by simp;omega) _,by simpa using h1,(c 0).trans c0,(c 1).trans c1,(c 2).trans c2,(c 3).trans c3,(c 4).trans c4,(c 5).trans c5,(c 6).trans c6,(c 7).trans c7,(c 8).trans c8,(c 9).trans c9,(c 10).trans c10,(c 11).trans c11,(d 3).trans d3,(d 4).trans d4,(d 5).trans d5,(d 6).trans d6,(d 7).trans d7,(d 8).trans d8,(d 9).trans d9,(d 10).trans d10,(d 11).trans d11,hp.set _ _⟩
theorem UJ.out {w:World} {a1 m1:ByteArray} {mo1 ev1 su1 mx1:Int} {ta1:Option Addr} {tl1 tc1:Nat} {ha1:Option Addr} {hl1 hc1:Nat} {a2 m2:ByteArray} {mo2 ev2 su2 mx2:Int} {ta2:Option Addr} {tl2 tc2:Nat} {ha2:Option Addr} {hl2 hc2:Nat} {W:World} (h:UJ w a1 m1 mo1 ev1 su1 mx1 ta1 tl1 tc1 ha1 hl1 hc1 a2 m2 mo2 ev2 su2 mx2 ta2 tl2 tc2 ha2 hl2 hc2 W):Pt (w.heap.size+1+1) 12 W:=by
 obtain ⟨h0,h1,c0,c1,c2,c3,c4,c5,c6,c7,c8,c9,c10,c11,d3,d4,d5,d6,d7,d8,d9,d10,d11,hp⟩:=h
 exact hp
theorem pt12 (w:World) (T:TypeId):Pt w.heap.size 12 (w.alloc (.cells #[.string ⟨#[]⟩,.string ⟨#[]⟩,.int .i64 0,.int .i64 0,.int .i64 0,.int .i64 0,.slice none 0 0,.nilFunc,.nilFunc,.slice none 0 0,.nilFunc,.nilFunc] T)):=by
 refine ⟨by simp,fun o ho=>?_,fun o ho=>by simp [go_sem]⟩
 match o,ho with
 | 0,_=>exact ⟨_,by simp [go_sem];rfl⟩
 | 1,_=>exact ⟨_,by simp [go_sem];rfl⟩
 | 2,_=>exact ⟨_,by simp [go_sem];rfl⟩
 | 3,_=>exact ⟨_,by simp [go_sem];rfl⟩
 | 4,_=>exact ⟨_,by simp [go_sem];rfl⟩
 | 5,_=>exact ⟨_,by simp [go_sem];rfl⟩
 | 6,_=>exact ⟨_,by simp [go_sem];rfl⟩
 | 7,_=>exact ⟨_,by simp [go_sem];rfl⟩
 | 8,_=>exact ⟨_,by simp [go_sem];rfl⟩
 | 9,_=>exact ⟨_,by simp [go_sem];rfl⟩
 | 10,_=>exact ⟨_,by simp [go_sem];rfl⟩
 | 11,_=>exact ⟨_,by simp [go_sem];rfl⟩
set_option maxRecDepth 100000 in
set_option maxHeartbeats 16000000 in
theorem with_in (a1 m1:ByteArray) (mo1 ev1 su1 mx1:Int) (ta1:Option Addr) (tl1 tc1:Nat) (ha1:Option Addr) (hl1 hc1:Nat) (a2 m2:ByteArray) (mo2 ev2 su2 mx2:Int) (ta2:Option Addr) (tl2 tc2:Nat) (ha2:Option Addr) (hl2 hc2:Nat) (ts1 ts2:List ByteArray) (hs1 hs2:List H) (w:World) (e1:tl1=ts1.length) (e2:tl2=ts2.length) (f1:hl1=hs1.length) (f2:hl2=hs2.length)
 (h1:0≤ev1∧ev1≤1000000000000000) (h2:0≤ev2∧ev2≤1000000000000000) (h3:0≤su1∧su1≤1000000000000000) (h4:0≤su2∧su2≤1000000000000000)
 (ht:∀W,Below w.heap.size w W→Calls Tryd.prog 42 #[.agg #[.slice ta1 tl1 tc1,.func (.func 60) #[] #[],.func (.func 61) #[] #[]],.agg #[.slice ta2 tl2 tc2,.func (.func 60) #[] #[],.func (.func 61) #[] #[]]] W fun e w'=>∃ao c,e=.returned (.agg #[.slice ao (mrg lt fstT ts1 ts2).length c,.func (.func 60) #[] #[],.func (.func 61) #[] #[]])∧Tgs ao (mrg lt fstT ts1 ts2) w'∧((mrg lt fstT ts1 ts2).length=0∨∀b off,ao=some ⟨b,off,none⟩→W.heap.size≤b)∧Below W.heap.size W w')
 (hh:∀W,Below w.heap.size w W→Calls Tryd.prog 43 #[.agg #[.slice ha1 hl1 hc1,.func (.func 62) #[] #[],.func (.func 63) #[] #[]],.agg #[.slice ha2 hl2 hc2,.func (.func 62) #[] #[],.func (.func 63) #[] #[]]] W fun e w'=>∃ao c,e=.returned (.agg #[.slice ao (mrg hlt addH hs1 hs2).length c,.func (.func 62) #[] #[],.func (.func 63) #[] #[]])∧Hrs ao (mrg hlt addH hs1 hs2) w'∧((mrg hlt addH hs1 hs2).length=0∨∀b off,ao=some ⟨b,off,none⟩→W.heap.size≤b)∧Below W.heap.size W w') :
 Calls Tryd.prog 17 #[.agg #[.string a1,.string m1,.int .i64 mo1,.int .i64 ev1,.int .i64 su1,.int .i64 mx1,.slice ta1 tl1 tc1,.func (.func 60) #[] #[],.func (.func 61) #[] #[],.slice ha1 hl1 hc1,.func (.func 62) #[] #[],.func (.func 63) #[] #[]],.agg #[.string a2,.string m2,.int .i64 mo2,.int .i64 ev2,.int .i64 su2,.int .i64 mx2,.slice ta2 tl2 tc2,.func (.func 60) #[] #[],.func (.func 61) #[] #[],.slice ha2 hl2 hc2,.func (.func 62) #[] #[],.func (.func 63) #[] #[]]] w fun e w'=>∃ao c ho hc,e=.returned (.agg #[.string a1,.string m1,.int .i64 mo1,.int .i64 (ev1+ev2),.int .i64 (su1+su2),.int .i64 (max mx1 mx2),.slice ao (mrg lt fstT ts1 ts2).length c,.func (.func 60) #[] #[],.func (.func 61) #[] #[],.slice ho (mrg hlt addH hs1 hs2).length hc,.func (.func 62) #[] #[],.func (.func 63) #[] #[]])∧Tgs ao (mrg lt fstT ts1 ts2) w'∧Hrs ho (mrg hlt addH hs1 hs2) w'∧Below w.heap.size w w':=by
 have HS:=H_ (fun W=>splus ev1 su1 mx1 ev2 su2 mx2 W h1 h2 h3 h4)
 have HTT:=H_ ht
 have HHH:=H_ hh
 generalize mrg lt fstT ts1 ts2=MT at *
 generalize mrg hlt addH hs1 hs2=MH at *
 obtain ⟨EV,hEV⟩:∃x,x=ev1+ev2:=⟨_,rfl⟩
 obtain ⟨SU,hSU⟩:∃x,x=su1+su2:=⟨_,rfl⟩
 obtain ⟨MX,hMX⟩:∃x,x=max mx1 mx2:=⟨_,rfl⟩
 rw [←hEV,←hSU,←hMX] at HS ⊢
 clear ht hh h1 h2 h3 h4 e1 e2 f1 f2 hEV hSU hMX
 have HT0:Hid (UJ w a1 m1 mo1 ev1 su1 mx1 ta1 tl1 tc1 ha1 hl1 hc1 a2 m2 mo2 ev2 su2 mx2 ta2 tl2 tc2 ha2 hl2 hc2 ((((w.alloc (.cells #[.string a1,.string m1,.int .i64 mo1,.int .i64 ev1,.int .i64 su1,.int .i64 mx1,.slice ta1 tl1 tc1,.func (.func 60) #[] #[],.func (.func 61) #[] #[],.slice ha1 hl1 hc1,.func (.func 62) #[] #[],.func (.func 63) #[] #[]] 54)).alloc (.cells #[.string a2,.string m2,.int .i64 mo2,.int .i64 ev2,.int .i64 su2,.int .i64 mx2,.slice ta2 tl2 tc2,.func (.func 60) #[] #[],.func (.func 61) #[] #[],.slice ha2 hl2 hc2,.func (.func 62) #[] #[],.func (.func 63) #[] #[]] 54)).alloc (.cells #[.string ⟨#[]⟩,.string ⟨#[]⟩,.int .i64 0,.int .i64 0,.int .i64 0,.int .i64 0,.slice none 0 0,.nilFunc,.nilFunc,.slice none 0 0,.nilFunc,.nilFunc] 54)).drew)):=H_ (by
  refine ⟨(((((Below.refl _ _).alloc (Nat.le_refl _) _).alloc (by simp) _).alloc (by simp;try omega) _).drew),by simp,by simp [go_sem],by simp [go_sem],by simp [go_sem],by simp [go_sem],by simp [go_sem],by simp [go_sem],by simp [go_sem],by simp [go_sem],by simp [go_sem],by simp [go_sem],by simp [go_sem],by simp [go_sem],by simp [go_sem],by simp [go_sem],by simp [go_sem],by simp [go_sem],by simp [go_sem],by simp [go_sem],by simp [go_sem],by simp [go_sem],by simp [go_sem],?_⟩
  have:=pt12 ((w.alloc (.cells #[.string a1,.string m1,.int .i64 mo1,.int .i64 ev1,.int .i64 su1,.int .i64 mx1,.slice ta1 tl1 tc1,.func (.func 60) #[] #[],.func (.func 61) #[] #[],.slice ha1 hl1 hc1,.func (.func 62) #[] #[],.func (.func 63) #[] #[]] 54)).alloc (.cells #[.string a2,.string m2,.int .i64 mo2,.int .i64 ev2,.int .i64 su2,.int .i64 mx2,.slice ta2 tl2 tc2,.func (.func 60) #[] #[],.func (.func 61) #[] #[],.slice ha2 hl2 hc2,.func (.func 62) #[] #[],.func (.func 63) #[] #[]] 54)) 54
  simp only [World.size_alloc] at this
  exact ⟨this.lt,this.has,this.free⟩)
 go_enter Tryd.func17,Tryd.ntmps17
 go_wp2_with fail
 refine wp_region_held_drew (S:=(fun W=>Below w.heap.size w W∧w.heap.size+1+1<W.heap.size∧W.cell? ⟨w.heap.size,0,none⟩=some (.string a1)∧W.cell? ⟨w.heap.size,1,none⟩=some (.string m1)∧W.cell? ⟨w.heap.size,2,none⟩=some (.int .i64 mo1)∧W.cell? ⟨w.heap.size,3,none⟩=some (.int .i64 ev1)∧W.cell? ⟨w.heap.size,4,none⟩=some (.int .i64 su1)∧W.cell? ⟨w.heap.size,5,none⟩=some (.int .i64 mx1)∧W.cell? ⟨w.heap.size,6,none⟩=some (.slice ta1 tl1 tc1)∧W.cell? ⟨w.heap.size,7,none⟩=some (.func (.func 60) #[] #[])∧W.cell? ⟨w.heap.size,8,none⟩=some (.func (.func 61) #[] #[])∧W.cell? ⟨w.heap.size,9,none⟩=some (.slice ha1 hl1 hc1)∧W.cell? ⟨w.heap.size,10,none⟩=some (.func (.func 62) #[] #[])∧W.cell? ⟨w.heap.size,11,none⟩=some (.func (.func 63) #[] #[])∧W.cell? ⟨w.heap.size+1,3,none⟩=some (.int .i64 ev2)∧W.cell? ⟨w.heap.size+1,4,none⟩=some (.int .i64 su2)∧W.cell? ⟨w.heap.size+1,5,none⟩=some (.int .i64 mx2)∧W.cell? ⟨w.heap.size+1,6,none⟩=some (.slice ta2 tl2 tc2)∧W.cell? ⟨w.heap.size+1,7,none⟩=some (.func (.func 60) #[] #[])∧W.cell? ⟨w.heap.size+1,8,none⟩=some (.func (.func 61) #[] #[])∧W.cell? ⟨w.heap.size+1,9,none⟩=some (.slice ha2 hl2 hc2)∧W.cell? ⟨w.heap.size+1,10,none⟩=some (.func (.func 62) #[] #[])∧W.cell? ⟨w.heap.size+1,11,none⟩=some (.func (.func 63) #[] #[])∧Pt (w.heap.size+1+1) 12 W)) (by kernel_rfl) HT0.out (fun hHeld=>?_)
 refine tk 0 (⟨some 5,.fieldAddr 54 (.tmp 2) 0,0,"l07_window.go:192",#[],none⟩) ?_
 refine tk 1 (⟨some 6,.load 42 (.tmp 5),42,"l07_window.go:192",#[⟨0,.data⟩],none⟩) ?_
 refine tk 2 (⟨some 7,.fieldAddr 54 (.tmp 2) 1,0,"l07_window.go:192",#[],none⟩) ?_
 refine tk 3 (⟨some 8,.load 44 (.tmp 7),44,"l07_window.go:192",#[⟨2,.data⟩],none⟩) ?_
 refine tk 4 (⟨some 9,.fieldAddr 54 (.tmp 3) 1,0,"l07_window.go:192",#[],none⟩) ?_
 refine tk 5 (⟨some 10,.load 44 (.tmp 9),44,"l07_window.go:192",#[⟨4,.data⟩],none⟩) ?_
 refine tk 7 (⟨some 12,.fieldAddr 54 (.tmp 2) 2,0,"l07_window.go:192",#[],none⟩) ?_
 refine tk 8 (⟨some 13,.load 48 (.tmp 12),48,"l07_window.go:192",#[⟨7,.data⟩],none⟩) ?_
 refine tk 9 (⟨some 14,.fieldAddr 54 (.tmp 3) 2,0,"l07_window.go:192",#[],none⟩) ?_
 refine tk 10 (⟨some 15,.load 48 (.tmp 14),48,"l07_window.go:192",#[⟨9,.data⟩],none⟩) ?_
 refine tk 12 (⟨some 17,.fieldAddr 54 (.tmp 2) 3,0,"l07_window.go:192",#[],none⟩) ?_
 refine tk 13 (⟨some 18,.load 52 (.tmp 17),52,"l07_window.go:192",#[⟨12,.data⟩],none⟩) ?_
 refine tk 14 (⟨some 19,.fieldAddr 54 (.tmp 3) 3,0,"l07_window.go:192",#[],none⟩) ?_
 refine tk 15 (⟨some 20,.load 52 (.tmp 19),52,"l07_window.go:192",#[⟨14,.data⟩],none⟩) ?_
 refine rd 6 (⟨some 11,.call {callee:=Callee.value (.func 41),args:=#[.tmp 8,.tmp 10],argTypes:=#[44,44]},44,"l07_window.go:192",#[⟨3,.data⟩,⟨5,.data⟩],none⟩) (fun K hK=>?_)
 go_simp
 go_at_call 41
 refine (HS.out _).mono ?_
 rintro e q1 ⟨rfl,hq1⟩
 try go_wp2_with fail
 have hk1:=@UJ.below w a1 m1 mo1 ev1 su1 mx1 ta1 tl1 tc1 ha1 hl1 hc1 a2 m2 mo2 ev2 su2 mx2 ta2 tl2 tc2 ha2 hl2 hc2 _ _ HT0.out hq1
 refine hK.out _ _ hk1 (fun _=>?_)
 clear hK K
 try simp only [Act.put,SL]
 refine rd 11 (⟨some 16,.call {callee:=Callee.value (.func 42),args:=#[.tmp 13,.tmp 15],argTypes:=#[48,48]},48,"l07_window.go:192",#[⟨8,.data⟩,⟨10,.data⟩,⟨6,.chain⟩],none⟩) (fun K hK=>?_)
 go_simp
 go_at_call 42
 refine (HTT.out _ hk1.1).mono ?_
 rintro e q2 ⟨ao,c,rfl,hT,hTn,hq2⟩
 try go_wp2_with fail
 have hk2:=@UJ.below w a1 m1 mo1 ev1 su1 mx1 ta1 tl1 tc1 ha1 hl1 hc1 a2 m2 mo2 ev2 su2 mx2 ta2 tl2 tc2 ha2 hl2 hc2 _ _ hk1 hq2
 refine hK.out _ _ hk2 (fun _=>?_)
 clear hK K
 try simp only [Act.put,SL]
 refine rd 16 (⟨some 21,.call {callee:=Callee.value (.func 43),args:=#[.tmp 18,.tmp 20],argTypes:=#[52,52]},52,"l07_window.go:192",#[⟨13,.data⟩,⟨15,.data⟩,⟨11,.chain⟩],none⟩) (fun K hK=>?_)
 go_simp
 go_at_call 43
 refine (HHH.out _ hk2.1).mono ?_
 rintro e q3 ⟨ho,hc,rfl,hH,hHn,hq3⟩
 try go_wp2_with fail
 have hk3:=@UJ.below w a1 m1 mo1 ev1 su1 mx1 ta1 tl1 tc1 ha1 hl1 hc1 a2 m2 mo2 ev2 su2 mx2 ta2 tl2 tc2 ha2 hl2 hc2 _ _ hk2 hq3
 refine hK.out _ _ hk3 (fun _=>?_)
 clear hK K
 try simp only [Act.put,SL]
 refine tk 17 (⟨some 22,.build 54 #[(0,.tmp 6),(1,.tmp 11),(2,.tmp 16),(3,.tmp 21)],54,"l07_window.go:192",#[⟨1,.data⟩,⟨6,.data⟩,⟨11,.data⟩,⟨16,.data⟩],none⟩) ?_
 have hp:=@UJ.out w a1 m1 mo1 ev1 su1 mx1 ta1 tl1 tc1 ha1 hl1 hc1 a2 m2 mo2 ev2 su2 mx2 ta2 tl2 tc2 ha2 hl2 hc2 _ hk3
 have hlt:=hk3.2.1
 obtain ⟨v0,r0⟩:=hp.has 0 (by omega)
 have z0:=hp.free 0 (by omega)
 obtain ⟨v1,r1⟩:=hp.has 1 (by omega)
 have z1:=hp.free 1 (by omega)
 obtain ⟨v2,r2⟩:=hp.has 2 (by omega)
 have z2:=hp.free 2 (by omega)
 obtain ⟨v3,r3⟩:=hp.has 3 (by omega)
 have z3:=hp.free 3 (by omega)
 obtain ⟨v4,r4⟩:=hp.has 4 (by omega)
 have z4:=hp.free 4 (by omega)
 obtain ⟨v5,r5⟩:=hp.has 5 (by omega)
 have z5:=hp.free 5 (by omega)
 obtain ⟨v6,r6⟩:=hp.has 6 (by omega)
 have z6:=hp.free 6 (by omega)
 obtain ⟨v7,r7⟩:=hp.has 7 (by omega)
 have z7:=hp.free 7 (by omega)
 obtain ⟨v8,r8⟩:=hp.has 8 (by omega)
 have z8:=hp.free 8 (by omega)
 obtain ⟨v9,r9⟩:=hp.has 9 (by omega)
 have z9:=hp.free 9 (by omega)
 obtain ⟨v10,r10⟩:=hp.has 10 (by omega)
 have z10:=hp.free 10 (by omega)
 obtain ⟨v11,r11⟩:=hp.has 11 (by omega)
 have z11:=hp.free 11 (by omega)
 refine rd 18 (⟨none,.store 54 (.tmp 4) (.tmp 22),0,"l07_window.go:192",#[⟨17,.data⟩,⟨16,.chain⟩,⟨0,.phase⟩,⟨1,.phase⟩,⟨2,.phase⟩,⟨3,.phase⟩,⟨4,.phase⟩,⟨5,.phase⟩,⟨6,.phase⟩,⟨7,.phase⟩,⟨8,.phase⟩,⟨9,.phase⟩,⟨10,.phase⟩,⟨11,.phase⟩,⟨12,.phase⟩,⟨13,.phase⟩,⟨14,.phase⟩,⟨15,.phase⟩,⟨16,.phase⟩,⟨17,.phase⟩],none⟩) (fun K hK=>?_)
 go_simp
 try go_wp2_with fail
 have hk4:=(@UJ.put w a1 m1 mo1 ev1 su1 mx1 ta1 tl1 tc1 ha1 hl1 hc1 a2 m2 mo2 ev2 su2 mx2 ta2 tl2 tc2 ha2 hl2 hc2 _ (@UJ.put w a1 m1 mo1 ev1 su1 mx1 ta1 tl1 tc1 ha1 hl1 hc1 a2 m2 mo2 ev2 su2 mx2 ta2 tl2 tc2 ha2 hl2 hc2 _ (@UJ.put w a1 m1 mo1 ev1 su1 mx1 ta1 tl1 tc1 ha1 hl1 hc1 a2 m2 mo2 ev2 su2 mx2 ta2 tl2 tc2 ha2 hl2 hc2 _ (@UJ.put w a1 m1 mo1 ev1 su1 mx1 ta1 tl1 tc1 ha1 hl1 hc1 a2 m2 mo2 ev2 su2 mx2 ta2 tl2 tc2 ha2 hl2 hc2 _ (@UJ.put w a1 m1 mo1 ev1 su1 mx1 ta1 tl1 tc1 ha1 hl1 hc1 a2 m2 mo2 ev2 su2 mx2 ta2 tl2 tc2 ha2 hl2 hc2 _ (@UJ.put w a1 m1 mo1 ev1 su1 mx1 ta1 tl1 tc1 ha1 hl1 hc1 a2 m2 mo2 ev2 su2 mx2 ta2 tl2 tc2 ha2 hl2 hc2 _ (@UJ.put w a1 m1 mo1 ev1 su1 mx1 ta1 tl1 tc1 ha1 hl1 hc1 a2 m2 mo2 ev2 su2 mx2 ta2 tl2 tc2 ha2 hl2 hc2 _ (@UJ.put w a1 m1 mo1 ev1 su1 mx1 ta1 tl1 tc1 ha1 hl1 hc1 a2 m2 mo2 ev2 su2 mx2 ta2 tl2 tc2 ha2 hl2 hc2 _ (@UJ.put w a1 m1 mo1 ev1 su1 mx1 ta1 tl1 tc1 ha1 hl1 hc1 a2 m2 mo2 ev2 su2 mx2 ta2 tl2 tc2 ha2 hl2 hc2 _ (@UJ.put w a1 m1 mo1 ev1 su1 mx1 ta1 tl1 tc1 ha1 hl1 hc1 a2 m2 mo2 ev2 su2 mx2 ta2 tl2 tc2 ha2 hl2 hc2 _ (@UJ.put w a1 m1 mo1 ev1 su1 mx1 ta1 tl1 tc1 ha1 hl1 hc1 a2 m2 mo2 ev2 su2 mx2 ta2 tl2 tc2 ha2 hl2 hc2 _ (@UJ.put w a1 m1 mo1 ev1 su1 mx1 ta1 tl1 tc1 ha1 hl1 hc1 a2 m2 mo2 ev2 su2 mx2 ta2 tl2 tc2 ha2 hl2 hc2 _ hk3 0 (.string a1)) 1 (.string m1)) 2 (.int .i64 mo1)) 3 (.int .i64 EV)) 4 (.int .i64 SU)) 5 (.int .i64 MX)) 6 (.slice ao MT.length c)) 7 (.func (.func 60) #[] #[])) 8 (.func (.func 61) #[] #[])) 9 (.slice ho MH.length hc)) 10 (.func (.func 62) #[] #[])) 11 (.func (.func 63) #[] #[]))
 have hgw:q3.grownBy ((((((((((((q3.setCell ⟨w.heap.size+1+1,0,none⟩ (.string a1)).setCell ⟨w.heap.size+1+1,1,none⟩ (.string m1)).setCell ⟨w.heap.size+1+1,2,none⟩ (.int .i64 mo1)).setCell ⟨w.heap.size+1+1,3,none⟩ (.int .i64 EV)).setCell ⟨w.heap.size+1+1,4,none⟩ (.int .i64 SU)).setCell ⟨w.heap.size+1+1,5,none⟩ (.int .i64 MX)).setCell ⟨w.heap.size+1+1,6,none⟩ (.slice ao MT.length c)).setCell ⟨w.heap.size+1+1,7,none⟩ (.func (.func 60) #[] #[])).setCell ⟨w.heap.size+1+1,8,none⟩ (.func (.func 61) #[] #[])).setCell ⟨w.heap.size+1+1,9,none⟩ (.slice ho MH.length hc)).setCell ⟨w.heap.size+1+1,10,none⟩ (.func (.func 62) #[] #[])).setCell ⟨w.heap.size+1+1,11,none⟩ (.func (.func 63) #[] #[])) (some (w.heap.size+1+1)):=(gtr (gtr (gtr (gtr (gtr (gtr (gtr (gtr (gtr (gtr (gtr (RowG.grown_set _ _ _ _) (RowG.grown_set _ _ _ _)) (RowG.grown_set _ _ _ _)) (RowG.grown_set _ _ _ _)) (RowG.grown_set _ _ _ _)) (RowG.grown_set _ _ _ _)) (RowG.grown_set _ _ _ _)) (RowG.grown_set _ _ _ _)) (RowG.grown_set _ _ _ _)) (RowG.grown_set _ _ _ _)) (RowG.grown_set _ _ _ _)) (RowG.grown_set _ _ _ _))
 have hTF:=H_ (Rws.keep (Rws.below hT hq3) hgw (hTn.imp id (fun h b off e=>by have:=h b off e;have:=hk1.2.1;omega)))
 have hHF:=H_ (Rws.keep hH hgw (hHn.imp id (fun h b off e=>by have:=h b off e;have:=hk2.2.1;omega)))
 clear hgw hT hH
 refine hK.out _ _ hk4 (fun _=>?_)
 clear hK K
 try simp only [Act.put,SL]
 refine wpAnyH_done (by kernel_rfl) ?_ _
 have HB:=H_ hk4.1
 clear hk4 hk3 hk2 hk1 hTn hHn hp hq1 hq2 hq3
 go_wp2_with fail
 refine bodyPost_ret (v:=.agg #[.string a1,.string m1,.int .i64 mo1,.int .i64 EV,.int .i64 SU,.int .i64 MX,.slice ao MT.length c,.func (.func 60) #[] #[],.func (.func 61) #[] #[],.slice ho MH.length hc,.func (.func 62) #[] #[],.func (.func 63) #[] #[]]) (by simp [results,Tryd.results17,go_sem,r0,r1,r2,r3,r4,r5,r6,r7,r8,r9,r10,r11]) rfl ⟨ao,c,ho,hc,rfl,hTF.out,hHF.out,HB.out⟩
end WinR
end Go.Proofs.YteejpnkmnmoebaaDoor
