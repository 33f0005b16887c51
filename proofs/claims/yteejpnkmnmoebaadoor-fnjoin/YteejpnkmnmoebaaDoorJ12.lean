/-
  The window of one event, the model's way, its tags in a row that may grow. The conditions: texts of at most 1048576 bytes.
-/
import Derived.Test.YteejpnkmnmoebaaDoorJ11
namespace Go.Proofs.YteejpnkmnmoebaaDoor
open Go.ChangeShapes Go.WideShapes Go.ChangeAt Go.RowKit
set_option linter.unusedVariables false
namespace WinR
open RowG (MadeG Rws)
open EvtR (Pt ev evB empty_of full_of)
open CatR (Blk Blk.new)
open DateR (Laid)
def NewWO (base:Nat) (x:Wd) (v:Value) (w:World):Prop:=∃ta tc ha hc,v=.agg (wcells x ta tc ha hc)∧TgO base ta x.ts tc w∧Hrs ha x.hs w∧(x.hs.length=0∨∀b off,ha=some ⟨b,off,none⟩→base≤b)∧(∀b off b' off',ta=some ⟨b,off,none⟩→ha=some ⟨b',off',none⟩→b≠b')∧SlOk ha x.hs.length hc
theorem TgO.put {D:Nat} {ao:Option Addr} {ts:List ByteArray} {c:Nat} {w:World} (h:TgO D ao ts c w) (g o:Nat) (v:Value) (hne:∀b off,ao=some ⟨b,off,none⟩→b≠g):TgO D ao ts c (w.setCell ⟨g,o,none⟩ v):=h.far (RowG.grown_set w g o v) hne
theorem TgO.ge {D:Nat} {ao:Option Addr} {ts:List ByteArray} {c:Nat} {w:World} (h:TgO D ao ts c w):∀b off,ao=some ⟨b,off,none⟩→D≤b:=fun b off e=>by
 subst e
 exact (h.2.lt b rfl).1
theorem tgo_nil (D:Nat) (w:World):TgO D none [] 0 w:=⟨.inl rfl,World.ownsRow_nil _ _ _ _⟩
theorem tgo_one (t:ByteArray) (w:World) (D:Nat) (hD:D≤w.heap.size):TgO D (some ⟨w.heap.size,0,none⟩) [t] 1 (w.alloc (.cells #[.string t] 9)) :=
 ⟨tgs_one t w _,rfl,.inr ⟨w.heap.size,1,#[.string t],rfl,hD,heap_alloc_new w _,Nat.le_refl _,by unfold maxLen;omega,rfl,rfl⟩⟩
set_option maxRecDepth 100000 in
set_option maxHeartbeats 16000000 in
theorem sof_in (i a m t:ByteArray) (n k mo:Int) (w:World) (n1:0≤n) (n2:n≤121000000) (hmo:∀w,Calls Tryd.prog 55 #[.int .i64 n] w fun e w'=>e=.returned (.int .i64 mo)∧Below w.heap.size w w') :
 Calls Tryd.prog 57 #[ev i a m n k t] w fun e w'=>∃v,e=.returned v∧NewWO w.heap.size ⟨a,m,mo,1,k,k,tgl t,[⟨HourR.hourV n,k⟩]⟩ v w'∧Below w.heap.size w w':=by
 obtain ⟨b1,b2⟩:=HourR.hour_bd n n1 n2
 have eh:HourR.hourV n=n.tdiv 60:=by unfold HourR.hourV;rw [if_pos ⟨n1,n2⟩]
 rw [eh]
 have HMo:=H_ hmo
 generalize hqq:n.tdiv 60=hq at *
 have HT0:=H_ (fun (h:t.size=0)=>tgl_no h)
 have HT1:=H_ (fun (h:¬t.size=0)=>tgl_yes h)
 generalize tgl t=ts at *
 obtain ⟨tl,htl⟩:∃tl,tl=ts.length:=⟨_,rfl⟩
 have HTL:=H_ htl
 clear htl hmo eh
 have hwr:IntKind.i64.wrap hq=hq:=IntWalk.i64_in hq ⟨by omega,by omega⟩
 unfold ev
 obtain ⟨W0,hW0⟩:∃W0,W0=((w.alloc (.cells #[.string i,.string a,.string m,.int .i64 n,.int .i64 k,.string t] 76)).alloc (.cells #[.string ⟨#[]⟩,.string ⟨#[]⟩,.int .i64 0,.int .i64 0,.int .i64 0,.int .i64 0,.slice none 0 0,.slice none 0 0] 26)):=⟨_,rfl⟩
 have HW0:=H_ hW0
 have HB0:Hid (Below w.heap.size w W0):=H_ (by rw [hW0];exact ((Below.refl _ _).alloc (Nat.le_refl _) _).alloc (by simp) _)
 have HX0:Hid (Blk w.heap.size [.string i,.string a,.string m,.int .i64 n,.int .i64 k,.string t] W0):=H_ (by rw [hW0];exact (Blk.new w [.string i,.string a,.string m,.int .i64 n,.int .i64 k,.string t] 76).below ((Below.refl _ _).alloc (Nat.le_refl _) (Obj.cells #[.string ⟨#[]⟩,.string ⟨#[]⟩,.int .i64 0,.int .i64 0,.int .i64 0,.int .i64 0,.slice none 0 0,.slice none 0 0] 26)))
 have HY0:Hid (BlkW (w.heap.size+1) [.string ⟨#[]⟩,.string ⟨#[]⟩,.int .i64 0,.int .i64 0,.int .i64 0,.int .i64 0,.slice none 0 0,.slice none 0 0] W0):=H_ (by
  have h:=BlkW.new (w.alloc (.cells #[.string i,.string a,.string m,.int .i64 n,.int .i64 k,.string t] 76)) [.string ⟨#[]⟩,.string ⟨#[]⟩,.int .i64 0,.int .i64 0,.int .i64 0,.int .i64 0,.slice none 0 0,.slice none 0 0] 26
  rw [show (w.alloc (.cells #[.string i,.string a,.string m,.int .i64 n,.int .i64 k,.string t] 76)).heap.size=w.heap.size+1 by simp] at h
  rw [hW0]
  exact h)
 have HWS:Hid (W0.heap.size=w.heap.size+2):=H_ (by rw [hW0];simp)
 clear hW0
 have HS0:Hid (UOx w.heap.size W0 a m n k W0.drew):=H_ (UOx.below ⟨Below.refl _ _,HX0.out.1,HX0.out.2 1 (by simp),HX0.out.2 2 (by simp),HX0.out.2 3 (by simp),HX0.out.2 4 (by simp)⟩ (Below.refl _ _).drew)
 go_enter Tryd.func57,Tryd.ntmps57
 go_wp2_with fail
 rw [←HW0.out]
 go_cut [3] from 4 to 22 (fun v wx=>∃V HB,v=.pointer (some ⟨V,0,none⟩)∧W0.heap.size≤V∧W0.heap.size≤HB∧HB≠V∧Hid (Below W0.heap.size W0 wx)∧Hid (BlkW V [.string a,.string m,.int .i64 mo,.int .i64 1,.int .i64 k,.int .i64 k,.slice none 0 0,.slice (some ⟨HB,0,none⟩) 1 1] wx)∧Hid (Hrs (some ⟨HB,0,none⟩) [⟨hq,k⟩] wx))
 case first =>
  clear HW0
  refine wp_region_held_drew (S:=(fun W=>Below W0.heap.size W0 W∧w.heap.size<W0.heap.size∧W.cell? ⟨w.heap.size,1,none⟩=some (.string a)∧W.cell? ⟨w.heap.size,2,none⟩=some (.string m)∧W.cell? ⟨w.heap.size,3,none⟩=some (.int .i64 n)∧W.cell? ⟨w.heap.size,4,none⟩=some (.int .i64 k))) (by kernel_rfl) HS0.out (fun hHeld=>?_)
  obtain ⟨Wd,hWd⟩:∃Wd,Wd=W0.drew:=⟨_,rfl⟩
  rw [←hWd] at HS0 ⊢
  try rw [←hWd] at hHeld
  clear hWd
  refine tk 0 (⟨some 4,.fieldAddr 76 (.tmp 1) 1,0,"l07_window.go:35",#[],none⟩) ?_
  refine tk 1 (⟨some 5,.load 9 (.tmp 4),9,"l07_window.go:35",#[⟨0,.data⟩],none⟩) ?_
  refine tk 2 (⟨some 6,.fieldAddr 76 (.tmp 1) 2,0,"l07_window.go:35",#[],none⟩) ?_
  refine tk 3 (⟨some 7,.load 9 (.tmp 6),9,"l07_window.go:35",#[⟨2,.data⟩],none⟩) ?_
  refine tk 4 (⟨some 8,.fieldAddr 76 (.tmp 1) 3,0,"l07_window.go:35",#[],none⟩) ?_
  refine tk 5 (⟨some 9,.load 2 (.tmp 8),2,"l07_window.go:35",#[⟨4,.data⟩],none⟩) ?_
  refine tk 7 (⟨some 11,.fieldAddr 76 (.tmp 1) 4,0,"l07_window.go:35",#[],none⟩) ?_
  refine tk 8 (⟨some 12,.load 2 (.tmp 11),2,"l07_window.go:35",#[⟨7,.data⟩],none⟩) ?_
  refine tk 9 (⟨some 13,.fieldAddr 76 (.tmp 1) 4,0,"l07_window.go:35",#[],none⟩) ?_
  refine tk 10 (⟨some 14,.load 2 (.tmp 13),2,"l07_window.go:35",#[⟨9,.data⟩],none⟩) ?_
  refine tk 11 (⟨some 15,.fieldAddr 76 (.tmp 1) 3,0,"l07_window.go:35",#[],none⟩) ?_
  refine tk 12 (⟨some 16,.load 2 (.tmp 15),2,"l07_window.go:35",#[⟨11,.data⟩],none⟩) ?_
  refine tk 13 (⟨some 17,.binOp BinOp.quo 2 (.tmp 16) (.const (Value.int IntKind.i64 60)) 2,2,"l07_window.go:35",#[⟨12,.data⟩],none⟩) ?_
  refine tk 14 (⟨some 18,.fieldAddr 76 (.tmp 1) 4,0,"l07_window.go:35",#[],none⟩) ?_
  refine tk 15 (⟨some 19,.load 2 (.tmp 18),2,"l07_window.go:35",#[⟨14,.data⟩],none⟩) ?_
  refine tk 16 (⟨some 20,.build 87 #[(0,.tmp 17),(1,.tmp 19)],87,"l07_window.go:35",#[⟨13,.data⟩,⟨15,.data⟩],none⟩) ?_
  refine wpAnyH_ready (rs:=[6,17,19]) (by kernel_rfl) (by simp) ?_
  refine AllReadyH.cons (o:=⟨some 10,.call {callee:=Callee.value (.func 55),args:=#[.tmp 9],argTypes:=#[2]},2,"l07_window.go:35",#[⟨5,.data⟩],none⟩) rfl (fun K hK=>?_) (AllReadyH.cons (o:=⟨some 21,.buildSlice 24 1 #[(0,.tmp 20)],24,"l07_window.go:35",#[⟨16,.data⟩],none⟩) rfl (fun K hK=>?_) (AllReadyH.cons (o:=⟨some 3,.alloc 26,0,"l07_window.go:35",#[],none⟩) rfl (fun K hK=>?_) AllReadyH.nil))
  ·go_simp
   go_at_call 55
   refine (HMo.out _).mono ?_
   rintro e q1 ⟨rfl,hq1⟩
   try go_wp2_with fail
   have hkq1:=@UOx.below (w.heap.size) W0 a m n k _ _ HS0.out hq1
   refine hK.out _ _ hkq1 (fun _=>?_)
   clear hK K
   try simp only [Act.put,SL]
   refine wpAnyH_ready (rs:=[17,19]) (by kernel_rfl) (by simp) ?_
   refine AllReadyH.cons (o:=⟨some 21,.buildSlice 24 1 #[(0,.tmp 20)],24,"l07_window.go:35",#[⟨16,.data⟩],none⟩) rfl (fun K hK=>?_) (AllReadyH.cons (o:=⟨some 3,.alloc 26,0,"l07_window.go:35",#[],none⟩) rfl (fun K hK=>?_) AllReadyH.nil)
   ·go_simp
    try rw [hwr]
    try go_wp2_with fail
    have hkb:=@UOx.below (w.heap.size) W0 a m n k _ _ hkq1 ((Below.refl q1.heap.size q1).alloc (Nat.le_refl _) (Obj.cells #[.int .i64 hq,.int .i64 k] 87))
    have hrb:=hrs_one1 hq k q1 87
    have hle:=hkq1.1.size
    refine hK.out _ _ hkb (fun _=>?_)
    clear hK K
    try simp only [Act.put,SL]
    obtain ⟨HB,hHB⟩:∃HB,HB=q1.heap.size:=⟨_,rfl⟩
    obtain ⟨Wb,hWb⟩:∃Wb,Wb=q1.alloc (Obj.cells #[.int .i64 hq,.int .i64 k] 87):=⟨_,rfl⟩
    have hhb:W0.heap.size≤HB:=by rw [hHB];exact hle
    have hxb:HB<Wb.heap.size:=by rw [hWb,hHB];simp
    rw [←hWb] at hkb hrb ⊢
    rw [←hHB] at hrb ⊢
    clear hWb hHB hle
    refine tk 18 (⟨some 22,.build 26 #[(0,.tmp 5),(1,.tmp 7),(2,.tmp 10),(3,.const (Value.int IntKind.i64 1)),(4,.tmp 12),(5,.tmp 14),(7,.tmp 21)],26,"l07_window.go:35",#[⟨1,.data⟩,⟨3,.data⟩,⟨6,.data⟩,⟨8,.data⟩,⟨10,.data⟩,⟨17,.data⟩],none⟩) ?_
    refine rd 19 (⟨some 3,.alloc 26,0,"l07_window.go:35",#[],none⟩) (fun K hK=>?_)
    go_simp
    try go_wp2_with fail
    have hka:=@UOx.below (w.heap.size) W0 a m n k _ _ hkb ((Below.refl Wb.heap.size Wb).alloc (Nat.le_refl _) (Obj.cells #[.string ⟨#[]⟩,.string ⟨#[]⟩,.int .i64 0,.int .i64 0,.int .i64 0,.int .i64 0,.slice none 0 0,.slice none 0 0] 26))
    have hva:=BlkW.new Wb [.string ⟨#[]⟩,.string ⟨#[]⟩,.int .i64 0,.int .i64 0,.int .i64 0,.int .i64 0,.slice none 0 0,.slice none 0 0] 26
    have hle:=hkb.1.size
    have hra:=Hrs.below hrb ((Below.refl Wb.heap.size Wb).alloc (Nat.le_refl _) (Obj.cells #[.string ⟨#[]⟩,.string ⟨#[]⟩,.int .i64 0,.int .i64 0,.int .i64 0,.int .i64 0,.slice none 0 0,.slice none 0 0] 26))
    refine hK.out _ _ hka (fun _=>?_)
    clear hK K
    try simp only [Act.put,SL]
    obtain ⟨VB,hVB⟩:∃VB,VB=Wb.heap.size:=⟨_,rfl⟩
    obtain ⟨Wa,hWa⟩:∃Wa,Wa=Wb.alloc (Obj.cells #[.string ⟨#[]⟩,.string ⟨#[]⟩,.int .i64 0,.int .i64 0,.int .i64 0,.int .i64 0,.slice none 0 0,.slice none 0 0] 26):=⟨_,rfl⟩
    have hvb:W0.heap.size≤VB:=by rw [hVB];exact hle
    have hne:HB≠VB:=by rw [hVB];exact Nat.ne_of_lt hxb
    have hxa:HB<Wa.heap.size:=by rw [hWa];simp;omega
    rw [←hWa] at hka hva ⊢
    rw [←hWa] at hra
    rw [←hVB] at hva ⊢
    clear hWa hVB hle
    refine rd 20 (⟨none,.store 26 (.tmp 3) (.tmp 22),0,"l07_window.go:35",#[⟨19,.data⟩,⟨18,.data⟩,⟨6,.chain⟩,⟨0,.phase⟩,⟨1,.phase⟩,⟨2,.phase⟩,⟨3,.phase⟩,⟨4,.phase⟩,⟨5,.phase⟩,⟨6,.phase⟩,⟨7,.phase⟩,⟨8,.phase⟩,⟨9,.phase⟩,⟨10,.phase⟩,⟨11,.phase⟩,⟨12,.phase⟩,⟨13,.phase⟩,⟨14,.phase⟩,⟨15,.phase⟩,⟨16,.phase⟩,⟨17,.phase⟩,⟨18,.phase⟩,⟨19,.phase⟩],none⟩) (fun K hK=>?_)
    obtain ⟨⟨vl,vcs⟩,vfs⟩:=hva
    have y0:Wa.cell? ⟨VB,0,none⟩=some (.string ⟨#[]⟩):=vcs 0 (by simp)
    have f0:=vfs 0 (by simp)
    have y1:Wa.cell? ⟨VB,1,none⟩=some (.string ⟨#[]⟩):=vcs 1 (by simp)
    have f1:=vfs 1 (by simp)
    have y2:Wa.cell? ⟨VB,2,none⟩=some (.int .i64 0):=vcs 2 (by simp)
    have f2:=vfs 2 (by simp)
    have y3:Wa.cell? ⟨VB,3,none⟩=some (.int .i64 0):=vcs 3 (by simp)
    have f3:=vfs 3 (by simp)
    have y4:Wa.cell? ⟨VB,4,none⟩=some (.int .i64 0):=vcs 4 (by simp)
    have f4:=vfs 4 (by simp)
    have y5:Wa.cell? ⟨VB,5,none⟩=some (.int .i64 0):=vcs 5 (by simp)
    have f5:=vfs 5 (by simp)
    have y6:Wa.cell? ⟨VB,6,none⟩=some (.slice none 0 0):=vcs 6 (by simp)
    have f6:=vfs 6 (by simp)
    have y7:Wa.cell? ⟨VB,7,none⟩=some (.slice none 0 0):=vcs 7 (by simp)
    have f7:=vfs 7 (by simp)
    go_simp
    try go_wp2_with fail
    have hno:∀b off,(some ⟨HB,0,none⟩:Option Addr)=some ⟨b,off,none⟩→b≠VB:=fun b off e=>by simp at e;omega
    have hks:=(@UOx.put (w.heap.size) W0 a m n k _ (@UOx.put (w.heap.size) W0 a m n k _ (@UOx.put (w.heap.size) W0 a m n k _ (@UOx.put (w.heap.size) W0 a m n k _ (@UOx.put (w.heap.size) W0 a m n k _ (@UOx.put (w.heap.size) W0 a m n k _ (@UOx.put (w.heap.size) W0 a m n k _ (@UOx.put (w.heap.size) W0 a m n k _ hka VB 0 (.string a) hvb) VB 1 (.string m) hvb) VB 2 (.int .i64 mo) hvb) VB 3 (.int .i64 1) hvb) VB 4 (.int .i64 k) hvb) VB 5 (.int .i64 k) hvb) VB 6 (.slice none 0 0) hvb) VB 7 (.slice (some ⟨HB,0,none⟩) 1 1) hvb)
    have hvs:=(BlkW.set (BlkW.set (BlkW.set (BlkW.set (BlkW.set (BlkW.set (BlkW.set (BlkW.set (⟨⟨vl,vcs⟩,vfs⟩:BlkW VB [.string ⟨#[]⟩,.string ⟨#[]⟩,.int .i64 0,.int .i64 0,.int .i64 0,.int .i64 0,.slice none 0 0,.slice none 0 0] Wa) 0 (.string a) (by simp)) 1 (.string m) (by simp)) 2 (.int .i64 mo) (by simp)) 3 (.int .i64 1) (by simp)) 4 (.int .i64 k) (by simp)) 5 (.int .i64 k) (by simp)) 6 (.slice none 0 0) (by simp)) 7 (.slice (some ⟨HB,0,none⟩) 1 1) (by simp))
    have hrs:=(Hrs.put (Hrs.put (Hrs.put (Hrs.put (Hrs.put (Hrs.put (Hrs.put (Hrs.put hra VB 0 (.string a) hno) VB 1 (.string m) hno) VB 2 (.int .i64 mo) hno) VB 3 (.int .i64 1) hno) VB 4 (.int .i64 k) hno) VB 5 (.int .i64 k) hno) VB 6 (.slice none 0 0) hno) VB 7 (.slice (some ⟨HB,0,none⟩) 1 1) hno)
    refine hK.out _ _ hks (fun _=>?_)
    clear hK K
    try simp only [Act.put,SL]
    refine wpAnyH_done (by kernel_rfl) ?_ _
    have HBF:=H_ hks.1
    have HVF:=H_ hvs
    have HRF:=H_ hrs
    clear hks hvs hrs y0 y1 y2 y3 y4 y5 y6 y7 f0 f1 f2 f3 f4 f5 f6 f7 vcs vfs hno
    go_wp2_with fail
    go_meet
    case rel=>exact ⟨VB,HB,rfl,hvb,hhb,hne,HBF,HVF,HRF⟩
   ·go_simp
    try go_wp2_with fail
    have hka:=@UOx.below (w.heap.size) W0 a m n k _ _ hkq1 ((Below.refl q1.heap.size q1).alloc (Nat.le_refl _) (Obj.cells #[.string ⟨#[]⟩,.string ⟨#[]⟩,.int .i64 0,.int .i64 0,.int .i64 0,.int .i64 0,.slice none 0 0,.slice none 0 0] 26))
    have hva:=BlkW.new q1 [.string ⟨#[]⟩,.string ⟨#[]⟩,.int .i64 0,.int .i64 0,.int .i64 0,.int .i64 0,.slice none 0 0,.slice none 0 0] 26
    have hle:=hkq1.1.size
    refine hK.out _ _ hka (fun _=>?_)
    clear hK K
    try simp only [Act.put,SL]
    obtain ⟨VB,hVB⟩:∃VB,VB=q1.heap.size:=⟨_,rfl⟩
    obtain ⟨Wa,hWa⟩:∃Wa,Wa=q1.alloc (Obj.cells #[.string ⟨#[]⟩,.string ⟨#[]⟩,.int .i64 0,.int .i64 0,.int .i64 0,.int .i64 0,.slice none 0 0,.slice none 0 0] 26):=⟨_,rfl⟩
    have hvb:W0.heap.size≤VB:=by rw [hVB];exact hle
    rw [←hWa] at hka hva ⊢
    rw [←hVB] at hva ⊢
    clear hWa hVB hle
    refine rd 17 (⟨some 21,.buildSlice 24 1 #[(0,.tmp 20)],24,"l07_window.go:35",#[⟨16,.data⟩],none⟩) (fun K hK=>?_)
    go_simp
    try rw [hwr]
    try go_wp2_with fail
    have hkb:=@UOx.below (w.heap.size) W0 a m n k _ _ hka ((Below.refl Wa.heap.size Wa).alloc (Nat.le_refl _) (Obj.cells #[.int .i64 hq,.int .i64 k] 87))
    have hrb:=hrs_one1 hq k Wa 87
    have hle:=hka.1.size
    have hvb2:=BlkW.below hva ((Below.refl Wa.heap.size Wa).alloc (Nat.le_refl _) (Obj.cells #[.int .i64 hq,.int .i64 k] 87))
    have hwl:VB<Wa.heap.size:=hva.1.1
    refine hK.out _ _ hkb (fun _=>?_)
    clear hK K
    try simp only [Act.put,SL]
    obtain ⟨HB,hHB⟩:∃HB,HB=Wa.heap.size:=⟨_,rfl⟩
    obtain ⟨Wb,hWb⟩:∃Wb,Wb=Wa.alloc (Obj.cells #[.int .i64 hq,.int .i64 k] 87):=⟨_,rfl⟩
    have hhb:W0.heap.size≤HB:=by rw [hHB];exact hle
    have hxb:HB<Wb.heap.size:=by rw [hWb,hHB];simp
    have hne:HB≠VB:=by rw [hHB];exact (Nat.ne_of_lt hwl).symm
    rw [←hWb] at hkb hrb ⊢
    rw [←hWb] at hvb2
    rw [←hHB] at hrb ⊢
    clear hWb hHB hle
    refine tk 18 (⟨some 22,.build 26 #[(0,.tmp 5),(1,.tmp 7),(2,.tmp 10),(3,.const (Value.int IntKind.i64 1)),(4,.tmp 12),(5,.tmp 14),(7,.tmp 21)],26,"l07_window.go:35",#[⟨1,.data⟩,⟨3,.data⟩,⟨6,.data⟩,⟨8,.data⟩,⟨10,.data⟩,⟨17,.data⟩],none⟩) ?_
    refine rd 20 (⟨none,.store 26 (.tmp 3) (.tmp 22),0,"l07_window.go:35",#[⟨19,.data⟩,⟨18,.data⟩,⟨6,.chain⟩,⟨0,.phase⟩,⟨1,.phase⟩,⟨2,.phase⟩,⟨3,.phase⟩,⟨4,.phase⟩,⟨5,.phase⟩,⟨6,.phase⟩,⟨7,.phase⟩,⟨8,.phase⟩,⟨9,.phase⟩,⟨10,.phase⟩,⟨11,.phase⟩,⟨12,.phase⟩,⟨13,.phase⟩,⟨14,.phase⟩,⟨15,.phase⟩,⟨16,.phase⟩,⟨17,.phase⟩,⟨18,.phase⟩,⟨19,.phase⟩],none⟩) (fun K hK=>?_)
    obtain ⟨⟨vl,vcs⟩,vfs⟩:=hvb2
    have y0:Wb.cell? ⟨VB,0,none⟩=some (.string ⟨#[]⟩):=vcs 0 (by simp)
    have f0:=vfs 0 (by simp)
    have y1:Wb.cell? ⟨VB,1,none⟩=some (.string ⟨#[]⟩):=vcs 1 (by simp)
    have f1:=vfs 1 (by simp)
    have y2:Wb.cell? ⟨VB,2,none⟩=some (.int .i64 0):=vcs 2 (by simp)
    have f2:=vfs 2 (by simp)
    have y3:Wb.cell? ⟨VB,3,none⟩=some (.int .i64 0):=vcs 3 (by simp)
    have f3:=vfs 3 (by simp)
    have y4:Wb.cell? ⟨VB,4,none⟩=some (.int .i64 0):=vcs 4 (by simp)
    have f4:=vfs 4 (by simp)
    have y5:Wb.cell? ⟨VB,5,none⟩=some (.int .i64 0):=vcs 5 (by simp)
    have f5:=vfs 5 (by simp)
    have y6:Wb.cell? ⟨VB,6,none⟩=some (.slice none 0 0):=vcs 6 (by simp)
    have f6:=vfs 6 (by simp)
    have y7:Wb.cell? ⟨VB,7,none⟩=some (.slice none 0 0):=vcs 7 (by simp)
    have f7:=vfs 7 (by simp)
    go_simp
    try go_wp2_with fail
    have hno:∀b off,(some ⟨HB,0,none⟩:Option Addr)=some ⟨b,off,none⟩→b≠VB:=fun b off e=>by simp at e;omega
    have hks:=(@UOx.put (w.heap.size) W0 a m n k _ (@UOx.put (w.heap.size) W0 a m n k _ (@UOx.put (w.heap.size) W0 a m n k _ (@UOx.put (w.heap.size) W0 a m n k _ (@UOx.put (w.heap.size) W0 a m n k _ (@UOx.put (w.heap.size) W0 a m n k _ (@UOx.put (w.heap.size) W0 a m n k _ (@UOx.put (w.heap.size) W0 a m n k _ hkb VB 0 (.string a) hvb) VB 1 (.string m) hvb) VB 2 (.int .i64 mo) hvb) VB 3 (.int .i64 1) hvb) VB 4 (.int .i64 k) hvb) VB 5 (.int .i64 k) hvb) VB 6 (.slice none 0 0) hvb) VB 7 (.slice (some ⟨HB,0,none⟩) 1 1) hvb)
    have hvs:=(BlkW.set (BlkW.set (BlkW.set (BlkW.set (BlkW.set (BlkW.set (BlkW.set (BlkW.set (⟨⟨vl,vcs⟩,vfs⟩:BlkW VB [.string ⟨#[]⟩,.string ⟨#[]⟩,.int .i64 0,.int .i64 0,.int .i64 0,.int .i64 0,.slice none 0 0,.slice none 0 0] Wb) 0 (.string a) (by simp)) 1 (.string m) (by simp)) 2 (.int .i64 mo) (by simp)) 3 (.int .i64 1) (by simp)) 4 (.int .i64 k) (by simp)) 5 (.int .i64 k) (by simp)) 6 (.slice none 0 0) (by simp)) 7 (.slice (some ⟨HB,0,none⟩) 1 1) (by simp))
    have hrs:=(Hrs.put (Hrs.put (Hrs.put (Hrs.put (Hrs.put (Hrs.put (Hrs.put (Hrs.put hrb VB 0 (.string a) hno) VB 1 (.string m) hno) VB 2 (.int .i64 mo) hno) VB 3 (.int .i64 1) hno) VB 4 (.int .i64 k) hno) VB 5 (.int .i64 k) hno) VB 6 (.slice none 0 0) hno) VB 7 (.slice (some ⟨HB,0,none⟩) 1 1) hno)
    refine hK.out _ _ hks (fun _=>?_)
    clear hK K
    try simp only [Act.put,SL]
    refine wpAnyH_done (by kernel_rfl) ?_ _
    have HBF:=H_ hks.1
    have HVF:=H_ hvs
    have HRF:=H_ hrs
    clear hks hvs hrs y0 y1 y2 y3 y4 y5 y6 y7 f0 f1 f2 f3 f4 f5 f6 f7 vcs vfs hno
    go_wp2_with fail
    go_meet
    case rel=>exact ⟨VB,HB,rfl,hvb,hhb,hne,HBF,HVF,HRF⟩
  ·go_simp
   try rw [hwr]
   try go_wp2_with fail
   have hkb:=@UOx.below (w.heap.size) W0 a m n k _ _ HS0.out ((Below.refl Wd.heap.size Wd).alloc (Nat.le_refl _) (Obj.cells #[.int .i64 hq,.int .i64 k] 87))
   have hrb:=hrs_one1 hq k Wd 87
   have hle:=HS0.out.1.size
   refine hK.out _ _ hkb (fun _=>?_)
   clear hK K
   try simp only [Act.put,SL]
   obtain ⟨HB,hHB⟩:∃HB,HB=Wd.heap.size:=⟨_,rfl⟩
   obtain ⟨Wb,hWb⟩:∃Wb,Wb=Wd.alloc (Obj.cells #[.int .i64 hq,.int .i64 k] 87):=⟨_,rfl⟩
   have hhb:W0.heap.size≤HB:=by rw [hHB];exact hle
   have hxb:HB<Wb.heap.size:=by rw [hWb,hHB];simp
   rw [←hWb] at hkb hrb ⊢
   rw [←hHB] at hrb ⊢
   clear hWb hHB hle
   refine wpAnyH_ready (rs:=[6,19]) (by kernel_rfl) (by simp) ?_
   refine AllReadyH.cons (o:=⟨some 10,.call {callee:=Callee.value (.func 55),args:=#[.tmp 9],argTypes:=#[2]},2,"l07_window.go:35",#[⟨5,.data⟩],none⟩) rfl (fun K hK=>?_) (AllReadyH.cons (o:=⟨some 3,.alloc 26,0,"l07_window.go:35",#[],none⟩) rfl (fun K hK=>?_) AllReadyH.nil)
   ·go_simp
    go_at_call 55
    refine (HMo.out _).mono ?_
    rintro e q1 ⟨rfl,hq1⟩
    try go_wp2_with fail
    have hkq1:=@UOx.below (w.heap.size) W0 a m n k _ _ hkb hq1
    have hrq1:=Hrs.below hrb hq1
    have hxq1:HB<q1.heap.size:=Nat.lt_of_lt_of_le hxb hq1.size
    refine hK.out _ _ hkq1 (fun _=>?_)
    clear hK K
    try simp only [Act.put,SL]
    refine tk 18 (⟨some 22,.build 26 #[(0,.tmp 5),(1,.tmp 7),(2,.tmp 10),(3,.const (Value.int IntKind.i64 1)),(4,.tmp 12),(5,.tmp 14),(7,.tmp 21)],26,"l07_window.go:35",#[⟨1,.data⟩,⟨3,.data⟩,⟨6,.data⟩,⟨8,.data⟩,⟨10,.data⟩,⟨17,.data⟩],none⟩) ?_
    refine rd 19 (⟨some 3,.alloc 26,0,"l07_window.go:35",#[],none⟩) (fun K hK=>?_)
    go_simp
    try go_wp2_with fail
    have hka:=@UOx.below (w.heap.size) W0 a m n k _ _ hkq1 ((Below.refl q1.heap.size q1).alloc (Nat.le_refl _) (Obj.cells #[.string ⟨#[]⟩,.string ⟨#[]⟩,.int .i64 0,.int .i64 0,.int .i64 0,.int .i64 0,.slice none 0 0,.slice none 0 0] 26))
    have hva:=BlkW.new q1 [.string ⟨#[]⟩,.string ⟨#[]⟩,.int .i64 0,.int .i64 0,.int .i64 0,.int .i64 0,.slice none 0 0,.slice none 0 0] 26
    have hle:=hkq1.1.size
    have hra:=Hrs.below hrq1 ((Below.refl q1.heap.size q1).alloc (Nat.le_refl _) (Obj.cells #[.string ⟨#[]⟩,.string ⟨#[]⟩,.int .i64 0,.int .i64 0,.int .i64 0,.int .i64 0,.slice none 0 0,.slice none 0 0] 26))
    refine hK.out _ _ hka (fun _=>?_)
    clear hK K
    try simp only [Act.put,SL]
    obtain ⟨VB,hVB⟩:∃VB,VB=q1.heap.size:=⟨_,rfl⟩
    obtain ⟨Wa,hWa⟩:∃Wa,Wa=q1.alloc (Obj.cells #[.string ⟨#[]⟩,.string ⟨#[]⟩,.int .i64 0,.int .i64 0,.int .i64 0,.int .i64 0,.slice none 0 0,.slice none 0 0] 26):=⟨_,rfl⟩
    have hvb:W0.heap.size≤VB:=by rw [hVB];exact hle
    have hne:HB≠VB:=by rw [hVB];exact Nat.ne_of_lt hxq1
    have hxa:HB<Wa.heap.size:=by rw [hWa];simp;omega
    rw [←hWa] at hka hva ⊢
    rw [←hWa] at hra
    rw [←hVB] at hva ⊢
    clear hWa hVB hle
    refine rd 20 (⟨none,.store 26 (.tmp 3) (.tmp 22),0,"l07_window.go:35",#[⟨19,.data⟩,⟨18,.data⟩,⟨6,.chain⟩,⟨0,.phase⟩,⟨1,.phase⟩,⟨2,.phase⟩,⟨3,.phase⟩,⟨4,.phase⟩,⟨5,.phase⟩,⟨6,.phase⟩,⟨7,.phase⟩,⟨8,.phase⟩,⟨9,.phase⟩,⟨10,.phase⟩,⟨11,.phase⟩,⟨12,.phase⟩,⟨13,.phase⟩,⟨14,.phase⟩,⟨15,.phase⟩,⟨16,.phase⟩,⟨17,.phase⟩,⟨18,.phase⟩,⟨19,.phase⟩],none⟩) (fun K hK=>?_)
    obtain ⟨⟨vl,vcs⟩,vfs⟩:=hva
    have y0:Wa.cell? ⟨VB,0,none⟩=some (.string ⟨#[]⟩):=vcs 0 (by simp)
    have f0:=vfs 0 (by simp)
    have y1:Wa.cell? ⟨VB,1,none⟩=some (.string ⟨#[]⟩):=vcs 1 (by simp)
    have f1:=vfs 1 (by simp)
    have y2:Wa.cell? ⟨VB,2,none⟩=some (.int .i64 0):=vcs 2 (by simp)
    have f2:=vfs 2 (by simp)
    have y3:Wa.cell? ⟨VB,3,none⟩=some (.int .i64 0):=vcs 3 (by simp)
    have f3:=vfs 3 (by simp)
    have y4:Wa.cell? ⟨VB,4,none⟩=some (.int .i64 0):=vcs 4 (by simp)
    have f4:=vfs 4 (by simp)
    have y5:Wa.cell? ⟨VB,5,none⟩=some (.int .i64 0):=vcs 5 (by simp)
    have f5:=vfs 5 (by simp)
    have y6:Wa.cell? ⟨VB,6,none⟩=some (.slice none 0 0):=vcs 6 (by simp)
    have f6:=vfs 6 (by simp)
    have y7:Wa.cell? ⟨VB,7,none⟩=some (.slice none 0 0):=vcs 7 (by simp)
    have f7:=vfs 7 (by simp)
    go_simp
    try go_wp2_with fail
    have hno:∀b off,(some ⟨HB,0,none⟩:Option Addr)=some ⟨b,off,none⟩→b≠VB:=fun b off e=>by simp at e;omega
    have hks:=(@UOx.put (w.heap.size) W0 a m n k _ (@UOx.put (w.heap.size) W0 a m n k _ (@UOx.put (w.heap.size) W0 a m n k _ (@UOx.put (w.heap.size) W0 a m n k _ (@UOx.put (w.heap.size) W0 a m n k _ (@UOx.put (w.heap.size) W0 a m n k _ (@UOx.put (w.heap.size) W0 a m n k _ (@UOx.put (w.heap.size) W0 a m n k _ hka VB 0 (.string a) hvb) VB 1 (.string m) hvb) VB 2 (.int .i64 mo) hvb) VB 3 (.int .i64 1) hvb) VB 4 (.int .i64 k) hvb) VB 5 (.int .i64 k) hvb) VB 6 (.slice none 0 0) hvb) VB 7 (.slice (some ⟨HB,0,none⟩) 1 1) hvb)
    have hvs:=(BlkW.set (BlkW.set (BlkW.set (BlkW.set (BlkW.set (BlkW.set (BlkW.set (BlkW.set (⟨⟨vl,vcs⟩,vfs⟩:BlkW VB [.string ⟨#[]⟩,.string ⟨#[]⟩,.int .i64 0,.int .i64 0,.int .i64 0,.int .i64 0,.slice none 0 0,.slice none 0 0] Wa) 0 (.string a) (by simp)) 1 (.string m) (by simp)) 2 (.int .i64 mo) (by simp)) 3 (.int .i64 1) (by simp)) 4 (.int .i64 k) (by simp)) 5 (.int .i64 k) (by simp)) 6 (.slice none 0 0) (by simp)) 7 (.slice (some ⟨HB,0,none⟩) 1 1) (by simp))
    have hrs:=(Hrs.put (Hrs.put (Hrs.put (Hrs.put (Hrs.put (Hrs.put (Hrs.put (Hrs.put hra VB 0 (.string a) hno) VB 1 (.string m) hno) VB 2 (.int .i64 mo) hno) VB 3 (.int .i64 1) hno) VB 4 (.int .i64 k) hno) VB 5 (.int .i64 k) hno) VB 6 (.slice none 0 0) hno) VB 7 (.slice (some ⟨HB,0,none⟩) 1 1) hno)
    refine hK.out _ _ hks (fun _=>?_)
    clear hK K
    try simp only [Act.put,SL]
    refine wpAnyH_done (by kernel_rfl) ?_ _
    have HBF:=H_ hks.1
    have HVF:=H_ hvs
    have HRF:=H_ hrs
    clear hks hvs hrs y0 y1 y2 y3 y4 y5 y6 y7 f0 f1 f2 f3 f4 f5 f6 f7 vcs vfs hno
    go_wp2_with fail
    go_meet
    case rel=>exact ⟨VB,HB,rfl,hvb,hhb,hne,HBF,HVF,HRF⟩
   ·go_simp
    try go_wp2_with fail
    have hka:=@UOx.below (w.heap.size) W0 a m n k _ _ hkb ((Below.refl Wb.heap.size Wb).alloc (Nat.le_refl _) (Obj.cells #[.string ⟨#[]⟩,.string ⟨#[]⟩,.int .i64 0,.int .i64 0,.int .i64 0,.int .i64 0,.slice none 0 0,.slice none 0 0] 26))
    have hva:=BlkW.new Wb [.string ⟨#[]⟩,.string ⟨#[]⟩,.int .i64 0,.int .i64 0,.int .i64 0,.int .i64 0,.slice none 0 0,.slice none 0 0] 26
    have hle:=hkb.1.size
    have hra:=Hrs.below hrb ((Below.refl Wb.heap.size Wb).alloc (Nat.le_refl _) (Obj.cells #[.string ⟨#[]⟩,.string ⟨#[]⟩,.int .i64 0,.int .i64 0,.int .i64 0,.int .i64 0,.slice none 0 0,.slice none 0 0] 26))
    refine hK.out _ _ hka (fun _=>?_)
    clear hK K
    try simp only [Act.put,SL]
    obtain ⟨VB,hVB⟩:∃VB,VB=Wb.heap.size:=⟨_,rfl⟩
    obtain ⟨Wa,hWa⟩:∃Wa,Wa=Wb.alloc (Obj.cells #[.string ⟨#[]⟩,.string ⟨#[]⟩,.int .i64 0,.int .i64 0,.int .i64 0,.int .i64 0,.slice none 0 0,.slice none 0 0] 26):=⟨_,rfl⟩
    have hvb:W0.heap.size≤VB:=by rw [hVB];exact hle
    have hne:HB≠VB:=by rw [hVB];exact Nat.ne_of_lt hxb
    have hxa:HB<Wa.heap.size:=by rw [hWa];simp;omega
    rw [←hWa] at hka hva ⊢
    rw [←hWa] at hra
    rw [←hVB] at hva ⊢
    clear hWa hVB hle
    refine rd 6 (⟨some 10,.call {callee:=Callee.value (.func 55),args:=#[.tmp 9],argTypes:=#[2]},2,"l07_window.go:35",#[⟨5,.data⟩],none⟩) (fun K hK=>?_)
    go_simp
    go_at_call 55
    refine (HMo.out _).mono ?_
    rintro e q1 ⟨rfl,hq1⟩
    try go_wp2_with fail
    have hkq1:=@UOx.below (w.heap.size) W0 a m n k _ _ hka hq1
    have hvq1:=BlkW.below hva hq1
    have hrq1:=Hrs.below hra hq1
    have hxq1:HB<q1.heap.size:=Nat.lt_of_lt_of_le hxa hq1.size
    refine hK.out _ _ hkq1 (fun _=>?_)
    clear hK K
    try simp only [Act.put,SL]
    refine tk 18 (⟨some 22,.build 26 #[(0,.tmp 5),(1,.tmp 7),(2,.tmp 10),(3,.const (Value.int IntKind.i64 1)),(4,.tmp 12),(5,.tmp 14),(7,.tmp 21)],26,"l07_window.go:35",#[⟨1,.data⟩,⟨3,.data⟩,⟨6,.data⟩,⟨8,.data⟩,⟨10,.data⟩,⟨17,.data⟩],none⟩) ?_
    refine rd 20 (⟨none,.store 26 (.tmp 3) (.tmp 22),0,"l07_window.go:35",#[⟨19,.data⟩,⟨18,.data⟩,⟨6,.chain⟩,⟨0,.phase⟩,⟨1,.phase⟩,⟨2,.phase⟩,⟨3,.phase⟩,⟨4,.phase⟩,⟨5,.phase⟩,⟨6,.phase⟩,⟨7,.phase⟩,⟨8,.phase⟩,⟨9,.phase⟩,⟨10,.phase⟩,⟨11,.phase⟩,⟨12,.phase⟩,⟨13,.phase⟩,⟨14,.phase⟩,⟨15,.phase⟩,⟨16,.phase⟩,⟨17,.phase⟩,⟨18,.phase⟩,⟨19,.phase⟩],none⟩) (fun K hK=>?_)
    obtain ⟨⟨vl,vcs⟩,vfs⟩:=hvq1
    have y0:q1.cell? ⟨VB,0,none⟩=some (.string ⟨#[]⟩):=vcs 0 (by simp)
    have f0:=vfs 0 (by simp)
    have y1:q1.cell? ⟨VB,1,none⟩=some (.string ⟨#[]⟩):=vcs 1 (by simp)
    have f1:=vfs 1 (by simp)
    have y2:q1.cell? ⟨VB,2,none⟩=some (.int .i64 0):=vcs 2 (by simp)
    have f2:=vfs 2 (by simp)
    have y3:q1.cell? ⟨VB,3,none⟩=some (.int .i64 0):=vcs 3 (by simp)
    have f3:=vfs 3 (by simp)
    have y4:q1.cell? ⟨VB,4,none⟩=some (.int .i64 0):=vcs 4 (by simp)
    have f4:=vfs 4 (by simp)
    have y5:q1.cell? ⟨VB,5,none⟩=some (.int .i64 0):=vcs 5 (by simp)
    have f5:=vfs 5 (by simp)
    have y6:q1.cell? ⟨VB,6,none⟩=some (.slice none 0 0):=vcs 6 (by simp)
    have f6:=vfs 6 (by simp)
    have y7:q1.cell? ⟨VB,7,none⟩=some (.slice none 0 0):=vcs 7 (by simp)
    have f7:=vfs 7 (by simp)
    go_simp
    try go_wp2_with fail
    have hno:∀b off,(some ⟨HB,0,none⟩:Option Addr)=some ⟨b,off,none⟩→b≠VB:=fun b off e=>by simp at e;omega
    have hks:=(@UOx.put (w.heap.size) W0 a m n k _ (@UOx.put (w.heap.size) W0 a m n k _ (@UOx.put (w.heap.size) W0 a m n k _ (@UOx.put (w.heap.size) W0 a m n k _ (@UOx.put (w.heap.size) W0 a m n k _ (@UOx.put (w.heap.size) W0 a m n k _ (@UOx.put (w.heap.size) W0 a m n k _ (@UOx.put (w.heap.size) W0 a m n k _ hkq1 VB 0 (.string a) hvb) VB 1 (.string m) hvb) VB 2 (.int .i64 mo) hvb) VB 3 (.int .i64 1) hvb) VB 4 (.int .i64 k) hvb) VB 5 (.int .i64 k) hvb) VB 6 (.slice none 0 0) hvb) VB 7 (.slice (some ⟨HB,0,none⟩) 1 1) hvb)
    have hvs:=(BlkW.set (BlkW.set (BlkW.set (BlkW.set (BlkW.set (BlkW.set (BlkW.set (BlkW.set (⟨⟨vl,vcs⟩,vfs⟩:BlkW VB [.string ⟨#[]⟩,.string ⟨#[]⟩,.int .i64 0,.int .i64 0,.int .i64 0,.int .i64 0,.slice none 0 0,.slice none 0 0] q1) 0 (.string a) (by simp)) 1 (.string m) (by simp)) 2 (.int .i64 mo) (by simp)) 3 (.int .i64 1) (by simp)) 4 (.int .i64 k) (by simp)) 5 (.int .i64 k) (by simp)) 6 (.slice none 0 0) (by simp)) 7 (.slice (some ⟨HB,0,none⟩) 1 1) (by simp))
    have hrs:=(Hrs.put (Hrs.put (Hrs.put (Hrs.put (Hrs.put (Hrs.put (Hrs.put (Hrs.put hrq1 VB 0 (.string a) hno) VB 1 (.string m) hno) VB 2 (.int .i64 mo) hno) VB 3 (.int .i64 1) hno) VB 4 (.int .i64 k) hno) VB 5 (.int .i64 k) hno) VB 6 (.slice none 0 0) hno) VB 7 (.slice (some ⟨HB,0,none⟩) 1 1) hno)
    refine hK.out _ _ hks (fun _=>?_)
    clear hK K
    try simp only [Act.put,SL]
    refine wpAnyH_done (by kernel_rfl) ?_ _
    have HBF:=H_ hks.1
    have HVF:=H_ hvs
    have HRF:=H_ hrs
    clear hks hvs hrs y0 y1 y2 y3 y4 y5 y6 y7 f0 f1 f2 f3 f4 f5 f6 f7 vcs vfs hno
    go_wp2_with fail
    go_meet
    case rel=>exact ⟨VB,HB,rfl,hvb,hhb,hne,HBF,HVF,HRF⟩
  ·go_simp
   try go_wp2_with fail
   have hka:=@UOx.below (w.heap.size) W0 a m n k _ _ HS0.out ((Below.refl Wd.heap.size Wd).alloc (Nat.le_refl _) (Obj.cells #[.string ⟨#[]⟩,.string ⟨#[]⟩,.int .i64 0,.int .i64 0,.int .i64 0,.int .i64 0,.slice none 0 0,.slice none 0 0] 26))
   have hva:=BlkW.new Wd [.string ⟨#[]⟩,.string ⟨#[]⟩,.int .i64 0,.int .i64 0,.int .i64 0,.int .i64 0,.slice none 0 0,.slice none 0 0] 26
   have hle:=HS0.out.1.size
   refine hK.out _ _ hka (fun _=>?_)
   clear hK K
   try simp only [Act.put,SL]
   obtain ⟨VB,hVB⟩:∃VB,VB=Wd.heap.size:=⟨_,rfl⟩
   obtain ⟨Wa,hWa⟩:∃Wa,Wa=Wd.alloc (Obj.cells #[.string ⟨#[]⟩,.string ⟨#[]⟩,.int .i64 0,.int .i64 0,.int .i64 0,.int .i64 0,.slice none 0 0,.slice none 0 0] 26):=⟨_,rfl⟩
   have hvb:W0.heap.size≤VB:=by rw [hVB];exact hle
   rw [←hWa] at hka hva ⊢
   rw [←hVB] at hva ⊢
   clear hWa hVB hle
   refine wpAnyH_ready (rs:=[6,17]) (by kernel_rfl) (by simp) ?_
   refine AllReadyH.cons (o:=⟨some 10,.call {callee:=Callee.value (.func 55),args:=#[.tmp 9],argTypes:=#[2]},2,"l07_window.go:35",#[⟨5,.data⟩],none⟩) rfl (fun K hK=>?_) (AllReadyH.cons (o:=⟨some 21,.buildSlice 24 1 #[(0,.tmp 20)],24,"l07_window.go:35",#[⟨16,.data⟩],none⟩) rfl (fun K hK=>?_) AllReadyH.nil)
   ·go_simp
    go_at_call 55
    refine (HMo.out _).mono ?_
    rintro e q1 ⟨rfl,hq1⟩
    try go_wp2_with fail
    have hkq1:=@UOx.below (w.heap.size) W0 a m n k _ _ hka hq1
    have hvq1:=BlkW.below hva hq1
    refine hK.out _ _ hkq1 (fun _=>?_)
    clear hK K
    try simp only [Act.put,SL]
    refine rd 17 (⟨some 21,.buildSlice 24 1 #[(0,.tmp 20)],24,"l07_window.go:35",#[⟨16,.data⟩],none⟩) (fun K hK=>?_)
    go_simp
    try rw [hwr]
    try go_wp2_with fail
    have hkb:=@UOx.below (w.heap.size) W0 a m n k _ _ hkq1 ((Below.refl q1.heap.size q1).alloc (Nat.le_refl _) (Obj.cells #[.int .i64 hq,.int .i64 k] 87))
    have hrb:=hrs_one1 hq k q1 87
    have hle:=hkq1.1.size
    have hvb2:=BlkW.below hvq1 ((Below.refl q1.heap.size q1).alloc (Nat.le_refl _) (Obj.cells #[.int .i64 hq,.int .i64 k] 87))
    have hwl:VB<q1.heap.size:=hvq1.1.1
    refine hK.out _ _ hkb (fun _=>?_)
    clear hK K
    try simp only [Act.put,SL]
    obtain ⟨HB,hHB⟩:∃HB,HB=q1.heap.size:=⟨_,rfl⟩
    obtain ⟨Wb,hWb⟩:∃Wb,Wb=q1.alloc (Obj.cells #[.int .i64 hq,.int .i64 k] 87):=⟨_,rfl⟩
    have hhb:W0.heap.size≤HB:=by rw [hHB];exact hle
    have hxb:HB<Wb.heap.size:=by rw [hWb,hHB];simp
    have hne:HB≠VB:=by rw [hHB];exact (Nat.ne_of_lt hwl).symm
    rw [←hWb] at hkb hrb ⊢
    rw [←hWb] at hvb2
    rw [←hHB] at hrb ⊢
    clear hWb hHB hle
    refine tk 18 (⟨some 22,.build 26 #[(0,.tmp 5),(1,.tmp 7),(2,.tmp 10),(3,.const (Value.int IntKind.i64 1)),(4,.tmp 12),(5,.tmp 14),(7,.tmp 21)],26,"l07_window.go:35",#[⟨1,.data⟩,⟨3,.data⟩,⟨6,.data⟩,⟨8,.data⟩,⟨10,.data⟩,⟨17,.data⟩],none⟩) ?_
    refine rd 20 (⟨none,.store 26 (.tmp 3) (.tmp 22),0,"l07_window.go:35",#[⟨19,.data⟩,⟨18,.data⟩,⟨6,.chain⟩,⟨0,.phase⟩,⟨1,.phase⟩,⟨2,.phase⟩,⟨3,.phase⟩,⟨4,.phase⟩,⟨5,.phase⟩,⟨6,.phase⟩,⟨7,.phase⟩,⟨8,.phase⟩,⟨9,.phase⟩,⟨10,.phase⟩,⟨11,.phase⟩,⟨12,.phase⟩,⟨13,.phase⟩,⟨14,.phase⟩,⟨15,.phase⟩,⟨16,.phase⟩,⟨17,.phase⟩,⟨18,.phase⟩,⟨19,.phase⟩],none⟩) (fun K hK=>?_)
    obtain ⟨⟨vl,vcs⟩,vfs⟩:=hvb2
    have y0:Wb.cell? ⟨VB,0,none⟩=some (.string ⟨#[]⟩):=vcs 0 (by simp)
    have f0:=vfs 0 (by simp)
    have y1:Wb.cell? ⟨VB,1,none⟩=some (.string ⟨#[]⟩):=vcs 1 (by simp)
    have f1:=vfs 1 (by simp)
    have y2:Wb.cell? ⟨VB,2,none⟩=some (.int .i64 0):=vcs 2 (by simp)
    have f2:=vfs 2 (by simp)
    have y3:Wb.cell? ⟨VB,3,none⟩=some (.int .i64 0):=vcs 3 (by simp)
    have f3:=vfs 3 (by simp)
    have y4:Wb.cell? ⟨VB,4,none⟩=some (.int .i64 0):=vcs 4 (by simp)
    have f4:=vfs 4 (by simp)
    have y5:Wb.cell? ⟨VB,5,none⟩=some (.int .i64 0):=vcs 5 (by simp)
    have f5:=vfs 5 (by simp)
    have y6:Wb.cell? ⟨VB,6,none⟩=some (.slice none 0 0):=vcs 6 (by simp)
    have f6:=vfs 6 (by simp)
    have y7:Wb.cell? ⟨VB,7,none⟩=some (.slice none 0 0):=vcs 7 (by simp)
    have f7:=vfs 7 (by simp)
    go_simp
    try go_wp2_with fail
    have hno:∀b off,(some ⟨HB,0,none⟩:Option Addr)=some ⟨b,off,none⟩→b≠VB:=fun b off e=>by simp at e;omega
    have hks:=(@UOx.put (w.heap.size) W0 a m n k _ (@UOx.put (w.heap.size) W0 a m n k _ (@UOx.put (w.heap.size) W0 a m n k _ (@UOx.put (w.heap.size) W0 a m n k _ (@UOx.put (w.heap.size) W0 a m n k _ (@UOx.put (w.heap.size) W0 a m n k _ (@UOx.put (w.heap.size) W0 a m n k _ (@UOx.put (w.heap.size) W0 a m n k _ hkb VB 0 (.string a) hvb) VB 1 (.string m) hvb) VB 2 (.int .i64 mo) hvb) VB 3 (.int .i64 1) hvb) VB 4 (.int .i64 k) hvb) VB 5 (.int .i64 k) hvb) VB 6 (.slice none 0 0) hvb) VB 7 (.slice (some ⟨HB,0,none⟩) 1 1) hvb)
    have hvs:=(BlkW.set (BlkW.set (BlkW.set (BlkW.set (BlkW.set (BlkW.set (BlkW.set (BlkW.set (⟨⟨vl,vcs⟩,vfs⟩:BlkW VB [.string ⟨#[]⟩,.string ⟨#[]⟩,.int .i64 0,.int .i64 0,.int .i64 0,.int .i64 0,.slice none 0 0,.slice none 0 0] Wb) 0 (.string a) (by simp)) 1 (.string m) (by simp)) 2 (.int .i64 mo) (by simp)) 3 (.int .i64 1) (by simp)) 4 (.int .i64 k) (by simp)) 5 (.int .i64 k) (by simp)) 6 (.slice none 0 0) (by simp)) 7 (.slice (some ⟨HB,0,none⟩) 1 1) (by simp))
    have hrs:=(Hrs.put (Hrs.put (Hrs.put (Hrs.put (Hrs.put (Hrs.put (Hrs.put (Hrs.put hrb VB 0 (.string a) hno) VB 1 (.string m) hno) VB 2 (.int .i64 mo) hno) VB 3 (.int .i64 1) hno) VB 4 (.int .i64 k) hno) VB 5 (.int .i64 k) hno) VB 6 (.slice none 0 0) hno) VB 7 (.slice (some ⟨HB,0,none⟩) 1 1) hno)
    refine hK.out _ _ hks (fun _=>?_)
    clear hK K
    try simp only [Act.put,SL]
    refine wpAnyH_done (by kernel_rfl) ?_ _
    have HBF:=H_ hks.1
    have HVF:=H_ hvs
    have HRF:=H_ hrs
    clear hks hvs hrs y0 y1 y2 y3 y4 y5 y6 y7 f0 f1 f2 f3 f4 f5 f6 f7 vcs vfs hno
    go_wp2_with fail
    go_meet
    case rel=>exact ⟨VB,HB,rfl,hvb,hhb,hne,HBF,HVF,HRF⟩
   ·go_simp
    try rw [hwr]
    try go_wp2_with fail
    have hkb:=@UOx.below (w.heap.size) W0 a m n k _ _ hka ((Below.refl Wa.heap.size Wa).alloc (Nat.le_refl _) (Obj.cells #[.int .i64 hq,.int .i64 k] 87))
    have hrb:=hrs_one1 hq k Wa 87
    have hle:=hka.1.size
    have hvb2:=BlkW.below hva ((Below.refl Wa.heap.size Wa).alloc (Nat.le_refl _) (Obj.cells #[.int .i64 hq,.int .i64 k] 87))
    have hwl:VB<Wa.heap.size:=hva.1.1
    refine hK.out _ _ hkb (fun _=>?_)
    clear hK K
    try simp only [Act.put,SL]
    obtain ⟨HB,hHB⟩:∃HB,HB=Wa.heap.size:=⟨_,rfl⟩
    obtain ⟨Wb,hWb⟩:∃Wb,Wb=Wa.alloc (Obj.cells #[.int .i64 hq,.int .i64 k] 87):=⟨_,rfl⟩
    have hhb:W0.heap.size≤HB:=by rw [hHB];exact hle
    have hxb:HB<Wb.heap.size:=by rw [hWb,hHB];simp
    have hne:HB≠VB:=by rw [hHB];exact (Nat.ne_of_lt hwl).symm
    rw [←hWb] at hkb hrb ⊢
    rw [←hWb] at hvb2
    rw [←hHB] at hrb ⊢
    clear hWb hHB hle
    refine rd 6 (⟨some 10,.call {callee:=Callee.value (.func 55),args:=#[.tmp 9],argTypes:=#[2]},2,"l07_window.go:35",#[⟨5,.data⟩],none⟩) (fun K hK=>?_)
    go_simp
    go_at_call 55
    refine (HMo.out _).mono ?_
    rintro e q1 ⟨rfl,hq1⟩
    try go_wp2_with fail
    have hkq1:=@UOx.below (w.heap.size) W0 a m n k _ _ hkb hq1
    have hvq1:=BlkW.below hvb2 hq1
    have hrq1:=Hrs.below hrb hq1
    have hxq1:HB<q1.heap.size:=Nat.lt_of_lt_of_le hxb hq1.size
    refine hK.out _ _ hkq1 (fun _=>?_)
    clear hK K
    try simp only [Act.put,SL]
    refine tk 18 (⟨some 22,.build 26 #[(0,.tmp 5),(1,.tmp 7),(2,.tmp 10),(3,.const (Value.int IntKind.i64 1)),(4,.tmp 12),(5,.tmp 14),(7,.tmp 21)],26,"l07_window.go:35",#[⟨1,.data⟩,⟨3,.data⟩,⟨6,.data⟩,⟨8,.data⟩,⟨10,.data⟩,⟨17,.data⟩],none⟩) ?_
    refine rd 20 (⟨none,.store 26 (.tmp 3) (.tmp 22),0,"l07_window.go:35",#[⟨19,.data⟩,⟨18,.data⟩,⟨6,.chain⟩,⟨0,.phase⟩,⟨1,.phase⟩,⟨2,.phase⟩,⟨3,.phase⟩,⟨4,.phase⟩,⟨5,.phase⟩,⟨6,.phase⟩,⟨7,.phase⟩,⟨8,.phase⟩,⟨9,.phase⟩,⟨10,.phase⟩,⟨11,.phase⟩,⟨12,.phase⟩,⟨13,.phase⟩,⟨14,.phase⟩,⟨15,.phase⟩,⟨16,.phase⟩,⟨17,.phase⟩,⟨18,.phase⟩,⟨19,.phase⟩],none⟩) (fun K hK=>?_)
    obtain ⟨⟨vl,vcs⟩,vfs⟩:=hvq1
    have y0:q1.cell? ⟨VB,0,none⟩=some (.string ⟨#[]⟩):=vcs 0 (by simp)
    have f0:=vfs 0 (by simp)
    have y1:q1.cell? ⟨VB,1,none⟩=some (.string ⟨#[]⟩):=vcs 1 (by simp)
    have f1:=vfs 1 (by simp)
    have y2:q1.cell? ⟨VB,2,none⟩=some (.int .i64 0):=vcs 2 (by simp)
    have f2:=vfs 2 (by simp)
    have y3:q1.cell? ⟨VB,3,none⟩=some (.int .i64 0):=vcs 3 (by simp)
    have f3:=vfs 3 (by simp)
    have y4:q1.cell? ⟨VB,4,none⟩=some (.int .i64 0):=vcs 4 (by simp)
    have f4:=vfs 4 (by simp)
    have y5:q1.cell? ⟨VB,5,none⟩=some (.int .i64 0):=vcs 5 (by simp)
    have f5:=vfs 5 (by simp)
    have y6:q1.cell? ⟨VB,6,none⟩=some (.slice none 0 0):=vcs 6 (by simp)
    have f6:=vfs 6 (by simp)
    have y7:q1.cell? ⟨VB,7,none⟩=some (.slice none 0 0):=vcs 7 (by simp)
    have f7:=vfs 7 (by simp)
    go_simp
    try go_wp2_with fail
    have hno:∀b off,(some ⟨HB,0,none⟩:Option Addr)=some ⟨b,off,none⟩→b≠VB:=fun b off e=>by simp at e;omega
    have hks:=(@UOx.put (w.heap.size) W0 a m n k _ (@UOx.put (w.heap.size) W0 a m n k _ (@UOx.put (w.heap.size) W0 a m n k _ (@UOx.put (w.heap.size) W0 a m n k _ (@UOx.put (w.heap.size) W0 a m n k _ (@UOx.put (w.heap.size) W0 a m n k _ (@UOx.put (w.heap.size) W0 a m n k _ (@UOx.put (w.heap.size) W0 a m n k _ hkq1 VB 0 (.string a) hvb) VB 1 (.string m) hvb) VB 2 (.int .i64 mo) hvb) VB 3 (.int .i64 1) hvb) VB 4 (.int .i64 k) hvb) VB 5 (.int .i64 k) hvb) VB 6 (.slice none 0 0) hvb) VB 7 (.slice (some ⟨HB,0,none⟩) 1 1) hvb)
    have hvs:=(BlkW.set (BlkW.set (BlkW.set (BlkW.set (BlkW.set (BlkW.set (BlkW.set (BlkW.set (⟨⟨vl,vcs⟩,vfs⟩:BlkW VB [.string ⟨#[]⟩,.string ⟨#[]⟩,.int .i64 0,.int .i64 0,.int .i64 0,.int .i64 0,.slice none 0 0,.slice none 0 0] q1) 0 (.string a) (by simp)) 1 (.string m) (by simp)) 2 (.int .i64 mo) (by simp)) 3 (.int .i64 1) (by simp)) 4 (.int .i64 k) (by simp)) 5 (.int .i64 k) (by simp)) 6 (.slice none 0 0) (by simp)) 7 (.slice (some ⟨HB,0,none⟩) 1 1) (by simp))
    have hrs:=(Hrs.put (Hrs.put (Hrs.put (Hrs.put (Hrs.put (Hrs.put (Hrs.put (Hrs.put hrq1 VB 0 (.string a) hno) VB 1 (.string m) hno) VB 2 (.int .i64 mo) hno) VB 3 (.int .i64 1) hno) VB 4 (.int .i64 k) hno) VB 5 (.int .i64 k) hno) VB 6 (.slice none 0 0) hno) VB 7 (.slice (some ⟨HB,0,none⟩) 1 1) hno)
    refine hK.out _ _ hks (fun _=>?_)
    clear hK K
    try simp only [Act.put,SL]
    refine wpAnyH_done (by kernel_rfl) ?_ _
    have HBF:=H_ hks.1
    have HVF:=H_ hvs
    have HRF:=H_ hrs
    clear hks hvs hrs y0 y1 y2 y3 y4 y5 y6 y7 f0 f1 f2 f3 f4 f5 f6 f7 vcs vfs hno
    go_wp2_with fail
    go_meet
    case rel=>exact ⟨VB,HB,rfl,hvb,hhb,hne,HBF,HVF,HRF⟩
 case rest =>
  obtain ⟨V,HB,rfl,hV,hHB,hne,HB1,HV1,HR1⟩:=hcut
  obtain ⟨W1,hW1⟩:∃W1,W1=wc:=⟨_,rfl⟩
  subst hW1
  have HX1:=H_ (HX0.out.below HB1.out)
  have HY1:=H_ (HY0.out.below HB1.out)
  have HB2:=H_ (HB0.out.trans (HB1.out.mono HB0.out.size))
  have hRV:w.heap.size+1<V:=by have:=HWS.out;omega
  have hRH:w.heap.size+1<HB:=by have:=HWS.out;omega
  clear HS0 HW0 HX0 HY0
  have x5:W1.cell? ⟨w.heap.size,5,none⟩=some (.string t):=HX1.out.2 5 (by simp)
  have xl:=HX1.out.1
  go_upto_if 25 with fail
  go_cut [] from 23 to 29 (fun wx=>∃ta tc,(∀b off,ta=some ⟨b,off,none⟩→w.heap.size+1<b∧b≠HB)∧Hid (Below w.heap.size w wx)∧Hid (BlkW V [.string a,.string m,.int .i64 mo,.int .i64 1,.int .i64 k,.int .i64 k,.slice ta tl tc,.slice (some ⟨HB,0,none⟩) 1 1] wx)∧Hid (BlkW (w.heap.size+1) [.string ⟨#[]⟩,.string ⟨#[]⟩,.int .i64 0,.int .i64 0,.int .i64 0,.int .i64 0,.slice none 0 0,.slice none 0 0] wx)∧Hid (TgO w.heap.size ta ts tc wx)∧Hid (Hrs (some ⟨HB,0,none⟩) [⟨hq,k⟩] wx))
  case first =>
   have hVl:=HV1.out.1.1
   have v6:W1.cell? ⟨V,6,none⟩=some (.slice none 0 0):=HV1.out.1.2 6 (by simp)
   have f6:W1.frozen? ⟨V,6,none⟩=false:=HV1.out.2 6 (by simp)
   go_wp2_with fail
   ·rename_i hh
    have ht:¬t.size=0:=fun e=>by rw [empty_of t e] at hh;simp at hh
    have hts:=HT1.out ht
    have h0:tl=1:=by rw [HTL.out,hts];rfl
    subst h0
    obtain ⟨Wq,hWq⟩:∃Wq,Wq=W1.setCell ⟨V,6,none⟩ (.slice (some ⟨W1.heap.size,0,none⟩) 1 1):=⟨_,rfl⟩
    have hsz:Wq.heap.size=W1.heap.size:=by rw [hWq];simp
    have hbl:=(Below.refl Wq.heap.size Wq).alloc (Nat.le_refl _) (.cells #[.string t] 9)
    have hg:TgO w.heap.size (some ⟨W1.heap.size,0,none⟩) ts 1 (Wq.alloc (.cells #[.string t] 9)):=by
     have h:=tgo_one t Wq w.heap.size (by have:=HB2.out.size;omega)
     rw [hsz] at h
     rw [hts]
     exact h
    have hn:∀b off,(some ⟨W1.heap.size,0,none⟩:Option Addr)=some ⟨b,off,none⟩→b≠V:=fun b off e=>by simp at e;omega
    have hHBl:HB<W1.heap.size:=by
     rcases HR1.out with h0|⟨b',o',e,hl,_⟩
     ·simp at h0
     ·cases e;exact hl
    have hn2:∀b off,(some ⟨W1.heap.size,0,none⟩:Option Addr)=some ⟨b,off,none⟩→w.heap.size+1<b∧b≠HB:=fun b off e=>by simp at e;omega
    have hn3:∀b off,(some ⟨HB,0,none⟩:Option Addr)=some ⟨b,off,none⟩→b≠V:=fun b off e=>by simp at e;omega
    have hr5:=Hrs.put HR1.out V 6 (.slice (some ⟨W1.heap.size,0,none⟩) 1 1) hn3
    have hy5:=HY1.out.other V 6 (.slice (some ⟨W1.heap.size,0,none⟩) 1 1) (by omega)
    have hv5:=HV1.out.set 6 (.slice (some ⟨W1.heap.size,0,none⟩) 1 1) (by simp)
    have hb5:=HB2.out.setCell (p:=⟨V,6,none⟩) (by show w.heap.size≤V;omega) (.slice (some ⟨W1.heap.size,0,none⟩) 1 1)
    rw [←hWq] at hr5 hy5 hv5 hb5
    have HR5:=H_ (hr5.below hbl)
    have HY5:=H_ (hy5.below hbl)
    have HV5:=H_ (hv5.below hbl)
    have HB5:=H_ (hb5.trans (hbl.mono hb5.size))
    have HG5:=H_ hg
    rw [hWq] at HR5 HY5 HV5 HB5 HG5
    clear hr5 hy5 hv5 hb5 hsz hWq
    clear hbl hg
    go_meet
    case rel=>exact ⟨_,1,hn2,HB5,HV5,HY5,HG5,HR5⟩
   ·rename_i hh
    have ht:t.size=0:=by
     by_cases e:t.size=0
     ·exact e
     ·rw [(full_of t e).2] at hh;simp at hh
    have hts:=HT0.out ht
    have h0:tl=0:=by rw [HTL.out,hts];rfl
    have HG:Hid (TgO w.heap.size none ts 0 W1):=H_ (by rw [hts];exact tgo_nil _ _)
    subst h0
    go_meet
    case rel=>exact ⟨none,0,(fun b off e=>by cases e),HB2,HV1,HY1,HG,HR1⟩
  case rest =>
   obtain ⟨ta,tc,hn1,HB5,HV5,HY5,HG5,HR5⟩:=hcut
   have HN1:=H_ hn1
   clear hn1 x5 xl HB1 HV1 HR1 HX1 HY1 HB2
   obtain ⟨⟨vl,vk⟩,vf⟩:=HV5.out
   have v0:wc.cell? ⟨V,0,none⟩=some (.string a):=vk 0 (by simp)
   have v1:wc.cell? ⟨V,1,none⟩=some (.string m):=vk 1 (by simp)
   have v2:wc.cell? ⟨V,2,none⟩=some (.int .i64 mo):=vk 2 (by simp)
   have v3:wc.cell? ⟨V,3,none⟩=some (.int .i64 1):=vk 3 (by simp)
   have v4:wc.cell? ⟨V,4,none⟩=some (.int .i64 k):=vk 4 (by simp)
   have v5:wc.cell? ⟨V,5,none⟩=some (.int .i64 k):=vk 5 (by simp)
   have v6:wc.cell? ⟨V,6,none⟩=some (.slice ta tl tc):=vk 6 (by simp)
   have v7:wc.cell? ⟨V,7,none⟩=some (.slice (some ⟨HB,0,none⟩) 1 1):=vk 7 (by simp)
   obtain ⟨⟨yl,yk⟩,yf⟩:=HY5.out
   have y0:wc.cell? ⟨w.heap.size+1,0,none⟩=some (.string ⟨#[]⟩):=yk 0 (by simp)
   have q0:wc.frozen? ⟨w.heap.size+1,0,none⟩=false:=yf 0 (by simp)
   have y1:wc.cell? ⟨w.heap.size+1,1,none⟩=some (.string ⟨#[]⟩):=yk 1 (by simp)
   have q1:wc.frozen? ⟨w.heap.size+1,1,none⟩=false:=yf 1 (by simp)
   have y2:wc.cell? ⟨w.heap.size+1,2,none⟩=some (.int .i64 0):=yk 2 (by simp)
   have q2:wc.frozen? ⟨w.heap.size+1,2,none⟩=false:=yf 2 (by simp)
   have y3:wc.cell? ⟨w.heap.size+1,3,none⟩=some (.int .i64 0):=yk 3 (by simp)
   have q3:wc.frozen? ⟨w.heap.size+1,3,none⟩=false:=yf 3 (by simp)
   have y4:wc.cell? ⟨w.heap.size+1,4,none⟩=some (.int .i64 0):=yk 4 (by simp)
   have q4:wc.frozen? ⟨w.heap.size+1,4,none⟩=false:=yf 4 (by simp)
   have y5:wc.cell? ⟨w.heap.size+1,5,none⟩=some (.int .i64 0):=yk 5 (by simp)
   have q5:wc.frozen? ⟨w.heap.size+1,5,none⟩=false:=yf 5 (by simp)
   have y6:wc.cell? ⟨w.heap.size+1,6,none⟩=some (.slice none 0 0):=yk 6 (by simp)
   have q6:wc.frozen? ⟨w.heap.size+1,6,none⟩=false:=yf 6 (by simp)
   have y7:wc.cell? ⟨w.heap.size+1,7,none⟩=some (.slice none 0 0):=yk 7 (by simp)
   have q7:wc.frozen? ⟨w.heap.size+1,7,none⟩=false:=yf 7 (by simp)
   clear yk yf vk vf HY5 HV5
   have hn3:∀b off,(some ⟨HB,0,none⟩:Option Addr)=some ⟨b,off,none⟩→b≠w.heap.size+1:=fun b off e=>by simp at e;omega
   have HN3:=H_ hn3
   clear hn3
   go_wp2_with fail
   refine bodyPost_ret (v:=.agg #[.string a,.string m,.int .i64 mo,.int .i64 1,.int .i64 k,.int .i64 k,.slice ta tl tc,.slice (some ⟨HB,0,none⟩) 1 1]) (by simp [results,Tryd.results57,go_sem,y0,y1,y2,y3,y4,y5,y6,y7]) rfl ⟨_,rfl,⟨ta,tc,some ⟨HB,0,none⟩,1,by simp only [wcells,←HTL.out,List.length_cons,List.length_nil,Nat.zero_add],?_,?_,.inr (fun b off e=>by simp at e;omega),fun b off b' off' e e'=>by cases e';exact (HN1.out b off e).2,.inr ⟨_,_,rfl,by simp,by unfold maxLen;omega⟩⟩,?_⟩
   ·have hn:∀b off,ta=some ⟨b,off,none⟩→b≠w.heap.size+1:=fun b off e=>by have:=(HN1.out b off e).1;omega
    exact (TgO.put (TgO.put (TgO.put (TgO.put (TgO.put (TgO.put (TgO.put (TgO.put HG5.out (w.heap.size+1) 0 (.string a) hn) (w.heap.size+1) 1 (.string m) hn) (w.heap.size+1) 2 (.int .i64 mo) hn) (w.heap.size+1) 3 (.int .i64 1) hn) (w.heap.size+1) 4 (.int .i64 k) hn) (w.heap.size+1) 5 (.int .i64 k) hn) (w.heap.size+1) 6 (.slice ta tl tc) hn) (w.heap.size+1) 7 (.slice (some ⟨HB,0,none⟩) 1 1) hn)
   ·have hn:=HN3.out
    exact (Hrs.put (Hrs.put (Hrs.put (Hrs.put (Hrs.put (Hrs.put (Hrs.put (Hrs.put HR5.out (w.heap.size+1) 0 (.string a) hn) (w.heap.size+1) 1 (.string m) hn) (w.heap.size+1) 2 (.int .i64 mo) hn) (w.heap.size+1) 3 (.int .i64 1) hn) (w.heap.size+1) 4 (.int .i64 k) hn) (w.heap.size+1) 5 (.int .i64 k) hn) (w.heap.size+1) 6 (.slice ta tl tc) hn) (w.heap.size+1) 7 (.slice (some ⟨HB,0,none⟩) 1 1) hn)
   ·have hb2:w.heap.size≤w.heap.size+1:=Nat.le_succ _
    exact ((((((((HB5.out.setCell (hb2) _).setCell (hb2) _).setCell (hb2) _).setCell (hb2) _).setCell (hb2) _).setCell (hb2) _).setCell (hb2) _).setCell (hb2) _)
theorem wzo_new (base:Nat) (w:World):NewWO base wz (.agg #[.string ⟨#[]⟩,.string ⟨#[]⟩,.int .i64 0,.int .i64 0,.int .i64 0,.int .i64 0,.slice none 0 0,.slice none 0 0]) w :=
 ⟨none,0,none,0,rfl,tgo_nil _ _,.inl rfl,.inl rfl,fun b off b' off' e=>(by cases e),.inl ⟨rfl,rfl,rfl⟩⟩
set_option maxRecDepth 100000 in
set_option maxHeartbeats 4000000 in
theorem sof_any (i a m t:ByteArray) (n k:Int) (x:Wd) (w:World) (li:i.size≤1048576) (la:a.size≤1048576) (lm:m.size≤1048576) (lt:t.size≤1048576) (hx:(evB i a m n k t=false∧x=wz)∨(evB i a m n k t=true∧∀w,Calls Tryd.prog 57 #[ev i a m n k t] w fun e w'=>∃v,e=.returned v∧NewWO w.heap.size x v w'∧Below w.heap.size w w')) :
 Calls Tryd.prog 30 #[ev i a m n k t] w fun e w'=>∃v,e=.returned v∧NewWO w.heap.size x v w'∧Below w.heap.size w w':=by
 have HE:=H_ (fun w=>EvtR.spec_event i a m n k t li la lm lt w)
 unfold ev at *
 have HB0:Hid (Below w.heap.size w ((w.alloc (.cells #[.string i,.string a,.string m,.int .i64 n,.int .i64 k,.string t] 76)).alloc (.cells #[.string ⟨#[]⟩,.string ⟨#[]⟩,.int .i64 0,.int .i64 0,.int .i64 0,.int .i64 0,.slice none 0 0,.slice none 0 0] 26))):=H_ (((Below.refl _ _).alloc (Nat.le_refl _) _).alloc (by simp) _)
 have HX0:=H_ ((Blk.new w [.string i,.string a,.string m,.int .i64 n,.int .i64 k,.string t] 76).below ((Below.refl _ _).alloc (Nat.le_refl _) (Obj.cells #[.string ⟨#[]⟩,.string ⟨#[]⟩,.int .i64 0,.int .i64 0,.int .i64 0,.int .i64 0,.slice none 0 0,.slice none 0 0] 26)))
 have HY0:=H_ (BlkW.new (w.alloc (.cells #[.string i,.string a,.string m,.int .i64 n,.int .i64 k,.string t] 76)) [.string ⟨#[]⟩,.string ⟨#[]⟩,.int .i64 0,.int .i64 0,.int .i64 0,.int .i64 0,.slice none 0 0,.slice none 0 0] 26)
 rw [show (w.alloc (.cells #[.string i,.string a,.string m,.int .i64 n,.int .i64 k,.string t] 76)).heap.size=w.heap.size+1 by simp] at HY0
 rcases hx with ⟨hev,rfl⟩|⟨hev,hs⟩
 ·rw [hev] at HE
  clear hev
  go_enter Tryd.func30,Tryd.ntmps30
  go_wp2_with fail
  refine (HE.out _).mono ?_
  rintro e w5 ⟨rfl,hb1⟩
  have HY1:=H_ (HY0.out.below hb1)
  have HB5:=H_ (HB0.out.trans (hb1.mono HB0.out.size))
  clear HY0 HB0 hb1
  obtain ⟨⟨yl,yk⟩,yf⟩:=HY1.out
  have y0:w5.cell? ⟨w.heap.size+1,0,none⟩=some (.string ⟨#[]⟩):=yk 0 (by simp)
  have q0:w5.frozen? ⟨w.heap.size+1,0,none⟩=false:=yf 0 (by simp)
  have y1:w5.cell? ⟨w.heap.size+1,1,none⟩=some (.string ⟨#[]⟩):=yk 1 (by simp)
  have q1:w5.frozen? ⟨w.heap.size+1,1,none⟩=false:=yf 1 (by simp)
  have y2:w5.cell? ⟨w.heap.size+1,2,none⟩=some (.int .i64 0):=yk 2 (by simp)
  have q2:w5.frozen? ⟨w.heap.size+1,2,none⟩=false:=yf 2 (by simp)
  have y3:w5.cell? ⟨w.heap.size+1,3,none⟩=some (.int .i64 0):=yk 3 (by simp)
  have q3:w5.frozen? ⟨w.heap.size+1,3,none⟩=false:=yf 3 (by simp)
  have y4:w5.cell? ⟨w.heap.size+1,4,none⟩=some (.int .i64 0):=yk 4 (by simp)
  have q4:w5.frozen? ⟨w.heap.size+1,4,none⟩=false:=yf 4 (by simp)
  have y5:w5.cell? ⟨w.heap.size+1,5,none⟩=some (.int .i64 0):=yk 5 (by simp)
  have q5:w5.frozen? ⟨w.heap.size+1,5,none⟩=false:=yf 5 (by simp)
  have y6:w5.cell? ⟨w.heap.size+1,6,none⟩=some (.slice none 0 0):=yk 6 (by simp)
  have q6:w5.frozen? ⟨w.heap.size+1,6,none⟩=false:=yf 6 (by simp)
  have y7:w5.cell? ⟨w.heap.size+1,7,none⟩=some (.slice none 0 0):=yk 7 (by simp)
  have q7:w5.frozen? ⟨w.heap.size+1,7,none⟩=false:=yf 7 (by simp)
  clear yk yf HY1
  go_wp2_with fail
  refine bodyPost_ret (v:=.agg #[.string ⟨#[]⟩,.string ⟨#[]⟩,.int .i64 0,.int .i64 0,.int .i64 0,.int .i64 0,.slice none 0 0,.slice none 0 0]) (by simp [results,Tryd.results30,go_sem,y0,y1,y2,y3,y4,y5,y6,y7]) rfl ⟨_,rfl,wzo_new _ _,?_⟩
  have hb2:w.heap.size≤w.heap.size+1:=Nat.le_succ _
  exact ((((((((HB5.out.setCell (hb2) _).setCell (hb2) _).setCell (hb2) _).setCell (hb2) _).setCell (hb2) _).setCell (hb2) _).setCell (hb2) _).setCell (hb2) _)
 ·rw [hev] at HE
  have HS:=H_ hs
  clear hev hs
  go_enter Tryd.func30,Tryd.ntmps30
  go_wp2_with fail
  refine (HE.out _).mono ?_
  rintro e w1 ⟨rfl,hb1⟩
  have HX1:=H_ (HX0.out.below hb1)
  have HY1:=H_ (HY0.out.below hb1)
  have HB1:=H_ (HB0.out.trans (hb1.mono HB0.out.size))
  clear HX0 HY0 HB0 hb1
  obtain ⟨xl,xc⟩:=HX1.out
  have x0:w1.cell? ⟨w.heap.size,0,none⟩=some (.string i):=xc 0 (by simp)
  have x1:w1.cell? ⟨w.heap.size,1,none⟩=some (.string a):=xc 1 (by simp)
  have x2:w1.cell? ⟨w.heap.size,2,none⟩=some (.string m):=xc 2 (by simp)
  have x3:w1.cell? ⟨w.heap.size,3,none⟩=some (.int .i64 n):=xc 3 (by simp)
  have x4:w1.cell? ⟨w.heap.size,4,none⟩=some (.int .i64 k):=xc 4 (by simp)
  have x5:w1.cell? ⟨w.heap.size,5,none⟩=some (.string t):=xc 5 (by simp)
  clear xc
  go_wp2_with fail
  refine (HS.out _).mono ?_
  rintro e w5 ⟨v,rfl,⟨ta',tc',ha',hc',rfl,hm1,hm2,hl2,hd2,hk2⟩,hb5⟩
  have HM1:=H_ hm1
  have HM2:=H_ hm2
  have HY5:=H_ (HY1.out.below hb5)
  have HB5:=H_ (HB1.out.trans (hb5.mono HB1.out.size))
  have hwl:w.heap.size+1<w1.heap.size:=HY1.out.1.1
  have HN1:Hid (∀b off,ta'=some ⟨b,off,none⟩→b≠w.heap.size+1):=H_ (fun b off e=>by have:=hm1.ge b off e;omega)
  have HN2:Hid (x.hs.length=0∨∀b off,ha'=some ⟨b,off,none⟩→b≠w.heap.size+1):=H_ (hl2.imp id (fun h b off e=>by have:=h b off e;omega))
  have HD2:=H_ hd2
  have HK2:=H_ hk2
  have HL2:Hid (x.hs.length=0∨∀b off,ha'=some ⟨b,off,none⟩→w.heap.size≤b):=H_ (hl2.imp id (fun h b off e=>by have:=h b off e;omega))
  clear x0 x1 x2 x3 x4 x5 xl hm1 hm2 hl2 hd2 hk2 hb5 HX1 HY1 HB1
  simp only [wcells]
  obtain ⟨⟨yl,yk⟩,yf⟩:=HY5.out
  have y0:w5.cell? ⟨w.heap.size+1,0,none⟩=some (.string ⟨#[]⟩):=yk 0 (by simp)
  have q0:w5.frozen? ⟨w.heap.size+1,0,none⟩=false:=yf 0 (by simp)
  have y1:w5.cell? ⟨w.heap.size+1,1,none⟩=some (.string ⟨#[]⟩):=yk 1 (by simp)
  have q1:w5.frozen? ⟨w.heap.size+1,1,none⟩=false:=yf 1 (by simp)
  have y2:w5.cell? ⟨w.heap.size+1,2,none⟩=some (.int .i64 0):=yk 2 (by simp)
  have q2:w5.frozen? ⟨w.heap.size+1,2,none⟩=false:=yf 2 (by simp)
  have y3:w5.cell? ⟨w.heap.size+1,3,none⟩=some (.int .i64 0):=yk 3 (by simp)
  have q3:w5.frozen? ⟨w.heap.size+1,3,none⟩=false:=yf 3 (by simp)
  have y4:w5.cell? ⟨w.heap.size+1,4,none⟩=some (.int .i64 0):=yk 4 (by simp)
  have q4:w5.frozen? ⟨w.heap.size+1,4,none⟩=false:=yf 4 (by simp)
  have y5:w5.cell? ⟨w.heap.size+1,5,none⟩=some (.int .i64 0):=yk 5 (by simp)
  have q5:w5.frozen? ⟨w.heap.size+1,5,none⟩=false:=yf 5 (by simp)
  have y6:w5.cell? ⟨w.heap.size+1,6,none⟩=some (.slice none 0 0):=yk 6 (by simp)
  have q6:w5.frozen? ⟨w.heap.size+1,6,none⟩=false:=yf 6 (by simp)
  have y7:w5.cell? ⟨w.heap.size+1,7,none⟩=some (.slice none 0 0):=yk 7 (by simp)
  have q7:w5.frozen? ⟨w.heap.size+1,7,none⟩=false:=yf 7 (by simp)
  clear yk yf HY5
  go_wp2_with fail
  refine bodyPost_ret (v:=.agg #[.string x.a,.string x.m,.int .i64 x.mo,.int .i64 x.ev,.int .i64 x.su,.int .i64 x.mx,.slice ta' x.ts.length tc',.slice ha' x.hs.length hc']) (by simp [results,Tryd.results30,go_sem,y0,y1,y2,y3,y4,y5,y6,y7]) rfl ⟨_,rfl,⟨ta',tc',ha',hc',rfl,?_,?_,HL2.out,HD2.out,HK2.out⟩,?_⟩
  ·have hn:=HN1.out
   exact TgO.low (TgO.put (TgO.put (TgO.put (TgO.put (TgO.put (TgO.put (TgO.put (TgO.put HM1.out (w.heap.size+1) 0 (.string x.a) hn) (w.heap.size+1) 1 (.string x.m) hn) (w.heap.size+1) 2 (.int .i64 x.mo) hn) (w.heap.size+1) 3 (.int .i64 x.ev) hn) (w.heap.size+1) 4 (.int .i64 x.su) hn) (w.heap.size+1) 5 (.int .i64 x.mx) hn) (w.heap.size+1) 6 (.slice ta' x.ts.length tc') hn) (w.heap.size+1) 7 (.slice ha' x.hs.length hc') hn) (by omega)
  ·have hn:=HN2.out
   exact (Rws.put (Rws.put (Rws.put (Rws.put (Rws.put (Rws.put (Rws.put (Rws.put HM2.out (w.heap.size+1) 0 (.string x.a) hn) (w.heap.size+1) 1 (.string x.m) hn) (w.heap.size+1) 2 (.int .i64 x.mo) hn) (w.heap.size+1) 3 (.int .i64 x.ev) hn) (w.heap.size+1) 4 (.int .i64 x.su) hn) (w.heap.size+1) 5 (.int .i64 x.mx) hn) (w.heap.size+1) 6 (.slice ta' x.ts.length tc') hn) (w.heap.size+1) 7 (.slice ha' x.hs.length hc') hn)
  ·have hb2:w.heap.size≤w.heap.size+1:=Nat.le_succ _
   exact ((((((((HB5.out.setCell (hb2) _).setCell (hb2) _).setCell (hb2) _).setCell (hb2) _).setCell (hb2) _).setCell (hb2) _).setCell (hb2) _).setCell (hb2) _)
end WinR
end Go.Proofs.YteejpnkmnmoebaaDoor
