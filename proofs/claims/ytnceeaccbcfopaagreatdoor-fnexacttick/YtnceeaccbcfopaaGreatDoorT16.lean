/-
  A window laid in new memory, the program's way.
  The conditions stand in what each theorem says.
-/
import Derived.OwnWalk
import Derived.Lib.SliceRun
import Derived.Deep.CutRange
import Derived.Test.YtnceeaccbcfopaaGreatDoorT15
set_option maxRecDepth 100000
set_option maxHeartbeats 16000000
namespace Go.Proofs.YtnceeaccbcfopaaGreatDoor
open Go.ChangeShapes Go.WideShapes Go.ChangeAt Go.RowKit
set_option linter.unusedVariables false
namespace WinR
open RowG (MadeG Rws cellsAll cellsAll_len cellsAll_get own_made take_more getD_mem own_set)
open EvtR (Pt)
open CatR (Blk Blk.new)
theorem hrs_cells {b off:Nat} {hs:List H} {w:World} (h:Hrs (some ⟨b,off,none⟩) hs w):∀j u,(cellsAll H.cells hs)[j]? = some u→w.cell? ⟨b,off+j,none⟩=some u:=by
 intro j u hj
 have hlt:=(List.getElem?_eq_some_iff.1 hj).1
 rw [cellsAll_len H.len hs] at hlt
 have e:j=(j / 2)*2+j % 2:=by omega
 have hi:j / 2<hs.length:=by omega
 rw [e,cellsAll_get (z:=H.zero) H.len hs (j / 2) (j % 2) hi (by omega)] at hj
 rcases h with h0|⟨b',off',he,_,hc⟩
 ·omega
 ·simp only [Option.some.injEq,Addr.mk.injEq,and_true] at he
  obtain ⟨rfl,rfl⟩:=he
  have:=hc (j / 2) hi (j % 2) (by omega)
  rw [show off+j=off+j / 2*2+j % 2 by omega,this]
  exact hj
theorem hrs_one (hs:List H):∀v∈cellsAll H.cells hs,v.oneCell'=true:=by
 intro v hv
 simp only [cellsAll,List.mem_flatMap,H.cells,List.mem_cons,List.not_mem_nil,or_false] at hv
 obtain ⟨x,_,rfl|rfl⟩:=hv<;>rfl
def SlOk (ao:Option Addr) (n c:Nat):Prop:=(ao=none∧n=0∧c=0)∨(∃b off,ao=some ⟨b,off,none⟩∧n≤c∧c≤maxLen)
theorem own_slok {w:World} {base e size n l c:Nat} {ao:Option Addr} {xs:List Value} (h:w.ownsRow base e size (.slice ao l c) n xs):SlOk ao l c:=by
 rcases h.2 with ⟨h0,_⟩|⟨g,cap,cur,hv,_,_,hc,hm,_⟩
 ·simp only [Value.slice.injEq] at h0
  exact .inl h0
 ·simp only [Value.slice.injEq] at hv
  obtain ⟨rfl,rfl,rfl⟩:=hv
  exact .inr ⟨g,0,rfl,hc,hm⟩
def SlW (v:Value):Prop:=∃a m mo ev su mx ta tl tc ha hl hc,v=.agg #[.string a,.string m,.int .i64 mo,.int .i64 ev,.int .i64 su,.int .i64 mx,.slice ta tl tc,.slice ha hl hc]∧SlOk ta tl tc∧SlOk ha hl hc
def MadeWS (base:Nat) (x:Wd) (v:Value) (w:World):Prop:=MadeW base x v w∧SlW v
theorem clone_hrs (b off cap:Nat) (hs:List H) (w:World) (h5:hs.length≤1048576) (hI:Hrs (some ⟨b,off,none⟩) hs w) :
 Calls Tryz.prog 185 #[.slice (some ⟨b,off,none⟩) hs.length cap] w fun e w'=>∃ao cp,e=.returned (.slice ao hs.length cp)∧(MadeG 2 H.cells H.zero w.heap.size ao hs w'∧SlOk ao hs.length cp)∧Below w.heap.size w w':=by
 obtain ⟨i0,hi,hz0,hz1,hz2⟩:=info_parts infoH
 have HC:=H_ (hrs_cells hI)
 have HL:=H_ (cellsAll_len H.len hs)
 have H1:=H_ (hrs_one hs)
 have HM:Hid (∀v w',w'.ownsRow w.heap.size 207 2 v hs.length (cellsAll H.cells hs)→∃ao cp,v=.slice ao hs.length cp∧(MadeG 2 H.cells H.zero w.heap.size ao hs w'∧SlOk ao hs.length cp)):=H_ (fun v w' h=>by
  obtain ⟨ao,cp,rfl,hm⟩:=own_made (z:=H.zero) H.len h
  exact ⟨ao,cp,rfl,hm,own_slok h⟩)
 generalize MadeG 2 H.cells H.zero w.heap.size=M at *
 generalize cellsAll H.cells hs=C at *
 generalize hs.length=len at *
 clear hI
 have hnil:=fun W=>Lib.run_eql_slice_nil (P:=Tryz.prog) W 104 207 (some ⟨b,off,none⟩) len cap 0 0 Tryz.underlying104
 have HE0:Hid ((w.alloc (.cells #[] 207)).ownsRow w.heap.size 207 2 (.slice (some ⟨w.heap.size,0,none⟩) 0 0) 0 []):=H_ (World.ownsRow_made w #[] 0 (Nat.le_refl _) (by unfold maxLen;omega) (by simp))
 have HN:Hid (∀j u,C[j]? = some u→(w.alloc (.cells #[] 207)).cell? ((⟨b,off,none⟩:Addr).add j)=some u):=H_ (fun j u hj=>by
  have h:=HC.out j u hj
  rw [Addr.add_lit]
  exact (((Below.refl w.heap.size w).alloc (Nat.le_refl _) _).cell (p:=⟨b,off+j,none⟩) (World.block_lt_of_cell? w ⟨b,off+j,none⟩ h)).trans h)
 go_enter Tryz.func185,Tryz.ntmps185
 go_wp2_with (at_builtin;refine wpList_append_own _ rfl _ _ 104 rfl w.heap.size 207 i0 (.agg #[.int .i64 0,.int .i64 0]) 2 16 Tryz.underlying104 hi hz0 hz1 hz2 rfl (by decide) _ _ _ rfl HE0.out ⟨b,off,none⟩ len cap C rfl HL.out HN.out H1.out (by unfold maxLen;omega) (by omega) (by simp) ?_)
 intro v1 w1 hown hgrow hne
 have HO:Hid (w1.ownsRow w.heap.size 207 2 v1 len C):=H_ (by first|exact hown|simpa using hown)
 have HB:Hid (Below w.heap.size w w1):=H_ ((al_ _ _).grown hgrow (by simp) (fun k e=>by simp [Value.ownBlock] at e;omega))
 obtain ⟨ao,cp,rfl,hm⟩:=HM.out _ _ HO.out
 have HMM:=H_ hm
 clear hown hgrow hne hm
 go_wp2_with fail
 go_ret
 exact ⟨_,_,rfl,HMM.out,HB.out⟩
theorem own_slice {w:World} {base e size n:Nat} {v:Value} {xs:List Value} (h:w.ownsRow base e size v n xs):∃a l c,v=.slice a l c:=by
 rcases h.2 with ⟨h0,_⟩|⟨g,cap,cur,hv,_⟩
 ·exact ⟨_,_,_,h0⟩
 ·exact ⟨_,_,_,hv⟩
def VWx (W0:World) (V:Nat) (tv:Value) (W:World):Prop:=Below W0.heap.size W0 W∧V<W.heap.size∧W.cell? ⟨V,6,none⟩=some tv∧W.frozen? ⟨V,6,none⟩=false
theorem VWx.below {W0:World} {V:Nat} {tv:Value} {W W':World} (h:VWx W0 V tv W) (hb:Below W.heap.size W W'):VWx W0 V tv W' :=
 ⟨h.1.trans (hb.mono h.1.size),Nat.lt_of_lt_of_le h.2.1 hb.size,(hb.cell (p:=⟨V,6,none⟩) h.2.1).trans h.2.2.1,(hb.frozen (p:=⟨V,6,none⟩) h.2.1).trans h.2.2.2⟩
theorem VWx.grown {W0:World} {V:Nat} {tv:Value} {W W':World} {row:Option Nat} (h:VWx W0 V tv W) (hg:W.grownBy W' row) (hr:∀g,row=some g→V+1≤g) (hV:W0.heap.size≤V):VWx W0 V tv W':=by
 have e:=hg.block V h.2.1 (fun q=>by have:=hr V q.symm;omega)
 exact ⟨h.1.grown hg h.1.size (fun k q=>by have:=hr k q;omega),Nat.lt_of_lt_of_le h.2.1 hg.size,(World.cell?_of_block (a:=⟨V,6,none⟩) e).trans h.2.2.1,(World.frozen?_of_block (a:=⟨V,6,none⟩) e).trans h.2.2.2⟩
theorem BlkW.grown {b:Nat} {cs:List Value} {w w':World} {row:Option Nat} (h:BlkW b cs w) (hg:w.grownBy w' row) (hne:some b≠row):BlkW b cs w':=by
 have e:=hg.block b h.1.1 hne
 exact ⟨⟨Nat.lt_of_lt_of_le h.1.1 hg.size,fun i hi=>(World.cell?_of_block (a:=⟨b,i,none⟩) e).trans (h.1.2 i hi)⟩,fun i hi=>(World.frozen?_of_block (a:=⟨b,i,none⟩) e).trans (h.2 i hi)⟩
def UWx (w W0:World) (a m:ByteArray) (mo ev su mx:Int) (W:World):Prop:=Below W0.heap.size W0 W∧w.heap.size<W0.heap.size∧W.cell? ⟨w.heap.size,0,none⟩=some (.string a)∧W.cell? ⟨w.heap.size,1,none⟩=some (.string m)∧W.cell? ⟨w.heap.size,2,none⟩=some (.int .i64 mo)∧W.cell? ⟨w.heap.size,3,none⟩=some (.int .i64 ev)∧W.cell? ⟨w.heap.size,4,none⟩=some (.int .i64 su)∧W.cell? ⟨w.heap.size,5,none⟩=some (.int .i64 mx)
theorem UWx.below {w W0:World} {a m:ByteArray} {mo ev su mx:Int} {W W':World} (h:UWx w W0 a m mo ev su mx W) (hb:Below W.heap.size W W'):UWx w W0 a m mo ev su mx W':=by
 obtain ⟨h0,h1,c0,c1,c2,c3,c4,c5⟩:=h
 have c:=fun o=>hb.cell (p:=⟨w.heap.size,o,none⟩) (Nat.lt_of_lt_of_le h1 h0.size)
 exact ⟨h0.trans (hb.mono h0.size),h1,(c 0).trans c0,(c 1).trans c1,(c 2).trans c2,(c 3).trans c3,(c 4).trans c4,(c 5).trans c5⟩
theorem UWx.put {w W0:World} {a m:ByteArray} {mo ev su mx:Int} {W:World} (h:UWx w W0 a m mo ev su mx W) (V o:Nat) (v:Value) (hV:W0.heap.size≤V):UWx w W0 a m mo ev su mx (W.setCell ⟨V,o,none⟩ v):=by
 obtain ⟨h0,h1,c0,c1,c2,c3,c4,c5⟩:=h
 have e:=(RowG.grown_set W V o v).block w.heap.size (Nat.lt_of_lt_of_le h1 h0.size) (by simp;omega)
 have c:=fun k=>World.cell?_of_block (a:=⟨w.heap.size,k,none⟩) e
 exact ⟨h0.setCell hV _,h1,(c 0).trans c0,(c 1).trans c1,(c 2).trans c2,(c 3).trans c3,(c 4).trans c4,(c 5).trans c5⟩
theorem win_in (a m:ByteArray) (mo ev su mx:Int) (ts:List ByteArray) (ta:Option Addr) (tc:Nat) (hs:List H) (hb ho hc:Nat) (w:World) (la:a.size≤1048576) (lm:m.size≤1048576) (lt:ts.length≤1048576) (lts:∀t∈ts,t.size≤1048576) (lh:hs.length≤1048576) (hT:Tgs ta ts w) (hH:Hrs (some ⟨hb,ho,none⟩) hs w) :
 Calls Tryz.prog 137 #[.agg #[.string a,.string m,.int .i64 mo,.int .i64 ev,.int .i64 su,.int .i64 mx,.slice ta ts.length tc,.func (.func 212) #[] #[],.func (.func 213) #[] #[],.slice (some ⟨hb,ho,none⟩) hs.length hc,.func (.func 214) #[] #[],.func (.func 215) #[] #[]]] w fun e w'=>∃v,e=.returned v∧MadeWS w.heap.size ⟨a,m,mo,ev,su,mx,ts,hs⟩ v w'∧Below w.heap.size w w':=by
 obtain ⟨i0,hi,hz0,hz1,hz2⟩:=info_parts infoT
 have C1:=H_ (fun w=>CloneR.clone_any a w (by omega))
 have C2:=H_ (fun w=>CloneR.clone_any m w (by omega))
 have HT:=H_ hT
 have HLT:=H_ lts
 have HCH:=H_ (fun W (hW:Below w.heap.size w W)=>clone_hrs hb ho hc hs W lh (hH.below hW))
 have HF:Hid (∀W V tv ha cp,w.heap.size≤V→W.ownsRow (V+1) 9 1 tv ts.length (cellsAll tcells ts)→MadeG 2 H.cells H.zero w.heap.size ha hs W→(∀g,tv.ownBlock=some g→∀b o,ha=some ⟨b,o,none⟩→hs.length≠0→g≠b)→SlOk ha hs.length cp→∃ta' tc',tv=.slice ta' ts.length tc'∧MadeWS w.heap.size ⟨a,m,mo,ev,su,mx,ts,hs⟩ (.agg #[.string a,.string m,.int .i64 mo,.int .i64 ev,.int .i64 su,.int .i64 mx,tv,.slice ha hs.length cp]) W):=H_ (fun W V tv ha cp hV h1 h2 h3 h4=>by
  obtain ⟨ta',tc',rfl,hm⟩:=own_made (z:=tz) t_len h1
  refine ⟨ta',tc',rfl,⟨ta',tc',ha,cp,rfl,hm.low (by omega),h2,?_⟩,_,_,_,_,_,_,_,_,_,_,_,_,rfl,own_slok h1,h4⟩
  rcases hm.own with h0|⟨g,e1,_,_⟩
  ·exact .inl h0
  ·by_cases hh0:hs.length=0
   ·exact .inr (.inl hh0)
   ·refine .inr (.inr (fun b o b' o' q1 q2=>?_))
    have:=h3 g (by rw [e1];rfl) b' o' q2 hh0
    rw [e1] at q1
    simp at q1
    omega)
 generalize MadeWS w.heap.size ⟨a,m,mo,ev,su,mx,ts,hs⟩=M at *
 obtain ⟨tl,htl⟩:∃tl,tl=ts.length:=⟨_,rfl⟩
 obtain ⟨hl,hhl⟩:∃hl,hl=hs.length:=⟨_,rfl⟩
 have HTL:=H_ htl
 have HHL:=H_ hhl
 rw [←htl] at lt HF ⊢
 rw [←hhl] at lh HCH HF ⊢
 clear hT hH lts htl hhl
 obtain ⟨W0,hW0⟩:∃W0,W0=(w.alloc (.cells #[.string a,.string m,.int .i64 mo,.int .i64 ev,.int .i64 su,.int .i64 mx,.slice ta tl tc,.func (.func 212) #[] #[],.func (.func 213) #[] #[],.slice (some ⟨hb,ho,none⟩) hl hc,.func (.func 214) #[] #[],.func (.func 215) #[] #[]] 196)).alloc (.cells #[.string ⟨#[]⟩,.string ⟨#[]⟩,.int .i64 0,.int .i64 0,.int .i64 0,.int .i64 0,.slice none 0 0,.slice none 0 0] 106):=⟨_,rfl⟩
 have HW0:=H_ hW0
 have HB0:Hid (Below w.heap.size w W0):=H_ (by rw [hW0];exact (al_ _ _).alloc (by simp) _)
 have HX0:Hid (Blk w.heap.size [.string a,.string m,.int .i64 mo,.int .i64 ev,.int .i64 su,.int .i64 mx,.slice ta tl tc,.func (.func 212) #[] #[],.func (.func 213) #[] #[],.slice (some ⟨hb,ho,none⟩) hl hc,.func (.func 214) #[] #[],.func (.func 215) #[] #[]] W0):=H_ (by rw [hW0];exact (Blk.new w _ _).below (al_ _ _))
 have HY0:Hid (BlkW (w.heap.size+1) [.string ⟨#[]⟩,.string ⟨#[]⟩,.int .i64 0,.int .i64 0,.int .i64 0,.int .i64 0,.slice none 0 0,.slice none 0 0] W0):=H_ (by
  have h:=BlkW.new (w.alloc (.cells #[.string a,.string m,.int .i64 mo,.int .i64 ev,.int .i64 su,.int .i64 mx,.slice ta tl tc,.func (.func 212) #[] #[],.func (.func 213) #[] #[],.slice (some ⟨hb,ho,none⟩) hl hc,.func (.func 214) #[] #[],.func (.func 215) #[] #[]] 196)) [.string ⟨#[]⟩,.string ⟨#[]⟩,.int .i64 0,.int .i64 0,.int .i64 0,.int .i64 0,.slice none 0 0,.slice none 0 0] 106
  rw [show (w.alloc (.cells #[.string a,.string m,.int .i64 mo,.int .i64 ev,.int .i64 su,.int .i64 mx,.slice ta tl tc,.func (.func 212) #[] #[],.func (.func 213) #[] #[],.slice (some ⟨hb,ho,none⟩) hl hc,.func (.func 214) #[] #[],.func (.func 215) #[] #[]] 196)).heap.size=w.heap.size+1 by simp] at h
  rw [hW0]
  exact h)
 have HWS:Hid (W0.heap.size=w.heap.size+2):=H_ (by rw [hW0];simp)
 clear hW0
 have HS0:Hid (UWx w W0 a m mo ev su mx W0.drew):=H_ (UWx.below ⟨Below.refl _ _,HX0.out.1,HX0.out.2 0 (by simp),HX0.out.2 1 (by simp),HX0.out.2 2 (by simp),HX0.out.2 3 (by simp),HX0.out.2 4 (by simp),HX0.out.2 5 (by simp)⟩ (Below.refl _ _).drew)
 go_enter Tryz.func137,Tryz.ntmps137
 go_wp2_with fail
 rw [←HW0.out]
 go_cut [3] from 6 to 26 (fun v wx=>∃V,v=.pointer (some ⟨V,0,none⟩)∧Hid (Below W0.heap.size W0 wx)∧Hid (BlkW V [.string a,.string m,.int .i64 mo,.int .i64 ev,.int .i64 su,.int .i64 mx,.slice none 0 0,.slice none 0 0] wx)∧Hid (W0.heap.size≤V))
 case first =>
  clear HW0
  refine wp_region_held_drew (S:=(fun W=>Below W0.heap.size W0 W∧w.heap.size<W0.heap.size∧W.cell? ⟨w.heap.size,0,none⟩=some (.string a)∧W.cell? ⟨w.heap.size,1,none⟩=some (.string m)∧W.cell? ⟨w.heap.size,2,none⟩=some (.int .i64 mo)∧W.cell? ⟨w.heap.size,3,none⟩=some (.int .i64 ev)∧W.cell? ⟨w.heap.size,4,none⟩=some (.int .i64 su)∧W.cell? ⟨w.heap.size,5,none⟩=some (.int .i64 mx))) (by kernel_rfl) HS0.out (fun hHeld=>?_)
  obtain ⟨Wd,hWd⟩:∃Wd,Wd=W0.drew:=⟨_,rfl⟩
  rw [←hWd] at HS0 ⊢
  try rw [←hWd] at hHeld
  clear hWd
  refine tk 0 ?_
  refine tk 1 ?_
  refine tk 2 ?_
  refine tk 4 ?_
  refine tk 5 ?_
  refine tk 6 ?_
  refine tk 8 ?_
  refine tk 9 ?_
  refine tk 10 ?_
  refine tk 11 ?_
  refine tk 12 ?_
  refine tk 13 ?_
  refine tk 14 ?_
  refine tk 15 ?_
  refine tk 16 ?_
  refine tk 17 ?_
  refine tk 18 ?_
  refine tk 19 ?_
  refine rd2 3 21 (fun K hK=>?_) (fun K hK=>?_)
  ·go_simp
   go_at_call 133
   refine (C1.out _).mono ?_
   rintro e q1 ⟨rfl,hq1⟩
   try go_wp2_with fail
   have hkq1:=@UWx.below w W0 a m mo ev su mx _ _ HS0.out hq1
   refine hK.out _ _ hkq1 (fun _=>?_)
   clear hK K
   try simp only [Act.put,SL]
   refine rd2 7 21 (fun K hK=>?_) (fun K hK=>?_)
   ·go_simp
    go_at_call 133
    refine (C2.out _).mono ?_
    rintro e q2 ⟨rfl,hq2⟩
    try go_wp2_with fail
    have hkq2:=@UWx.below w W0 a m mo ev su mx _ _ hkq1 hq2
    refine hK.out _ _ hkq2 (fun _=>?_)
    clear hK K
    try simp only [Act.put,SL]
    refine tk 20 ?_
    refine rd 21 (fun K hK=>?_)
    go_simp
    try go_wp2_with fail
    have hka:=@UWx.below w W0 a m mo ev su mx _ _ hkq2 (al_ q2 (Obj.cells #[.string ⟨#[]⟩,.string ⟨#[]⟩,.int .i64 0,.int .i64 0,.int .i64 0,.int .i64 0,.slice none 0 0,.slice none 0 0] 106))
    have hva:=BlkW.new q2 [.string ⟨#[]⟩,.string ⟨#[]⟩,.int .i64 0,.int .i64 0,.int .i64 0,.int .i64 0,.slice none 0 0,.slice none 0 0] 106
    have hle:=hkq2.1.size
    refine hK.out _ _ hka (fun _=>?_)
    clear hK K
    try simp only [Act.put,SL]
    obtain ⟨VB,hVB⟩:∃VB,VB=q2.heap.size:=⟨_,rfl⟩
    obtain ⟨Wa,hWa⟩:∃Wa,Wa=q2.alloc (Obj.cells #[.string ⟨#[]⟩,.string ⟨#[]⟩,.int .i64 0,.int .i64 0,.int .i64 0,.int .i64 0,.slice none 0 0,.slice none 0 0] 106):=⟨_,rfl⟩
    have hvb:W0.heap.size≤VB:=by rw [hVB];exact hle
    rw [←hWa] at hka hva ⊢
    rw [←hVB] at hva ⊢
    clear hWa hVB hle
    refine rd 22 (fun K hK=>?_)
    obtain ⟨⟨vl,vcs⟩,vfs⟩:=hva
    have y0:=q_ vcs 0
    have f0:=vfs 0 (by simp)
    have y1:=q_ vcs 1
    have f1:=vfs 1 (by simp)
    have y2:=q_ vcs 2
    have f2:=vfs 2 (by simp)
    have y3:=q_ vcs 3
    have f3:=vfs 3 (by simp)
    have y4:=q_ vcs 4
    have f4:=vfs 4 (by simp)
    have y5:=q_ vcs 5
    have f5:=vfs 5 (by simp)
    have y6:=q_ vcs 6
    have f6:=vfs 6 (by simp)
    have y7:=q_ vcs 7
    have f7:=vfs 7 (by simp)
    go_simp
    try go_wp2_with fail
    have hks:=(@UWx.put w W0 a m mo ev su mx _ (@UWx.put w W0 a m mo ev su mx _ (@UWx.put w W0 a m mo ev su mx _ (@UWx.put w W0 a m mo ev su mx _ (@UWx.put w W0 a m mo ev su mx _ (@UWx.put w W0 a m mo ev su mx _ (@UWx.put w W0 a m mo ev su mx _ (@UWx.put w W0 a m mo ev su mx _ hka VB 0 (.string a) hvb) VB 1 (.string m) hvb) VB 2 (.int .i64 mo) hvb) VB 3 (.int .i64 ev) hvb) VB 4 (.int .i64 su) hvb) VB 5 (.int .i64 mx) hvb) VB 6 (.slice none 0 0) hvb) VB 7 (.slice none 0 0) hvb)
    have hvs:=(BlkW.set (BlkW.set (BlkW.set (BlkW.set (BlkW.set (BlkW.set (BlkW.set (BlkW.set (⟨⟨vl,vcs⟩,vfs⟩:BlkW VB [.string ⟨#[]⟩,.string ⟨#[]⟩,.int .i64 0,.int .i64 0,.int .i64 0,.int .i64 0,.slice none 0 0,.slice none 0 0] Wa) 0 (.string a) (by simp)) 1 (.string m) (by simp)) 2 (.int .i64 mo) (by simp)) 3 (.int .i64 ev) (by simp)) 4 (.int .i64 su) (by simp)) 5 (.int .i64 mx) (by simp)) 6 (.slice none 0 0) (by simp)) 7 (.slice none 0 0) (by simp))
    refine hK.out _ _ hks (fun _=>?_)
    clear hK K
    try simp only [Act.put,SL]
    refine wpAnyH_done (by kernel_rfl) ?_ _
    have HBF:=H_ hks.1
    have HVF:=H_ hvs
    clear hks hvs y0 y1 y2 y3 y4 y5 y6 y7 f0 f1 f2 f3 f4 f5 f6 f7 vcs vfs
    go_wp2_with fail
    go_meet
    case rel=>exact ⟨VB,rfl,HBF,HVF,H_ hvb⟩
   ·go_simp
    try go_wp2_with fail
    have hka:=@UWx.below w W0 a m mo ev su mx _ _ hkq1 (al_ q1 (Obj.cells #[.string ⟨#[]⟩,.string ⟨#[]⟩,.int .i64 0,.int .i64 0,.int .i64 0,.int .i64 0,.slice none 0 0,.slice none 0 0] 106))
    have hva:=BlkW.new q1 [.string ⟨#[]⟩,.string ⟨#[]⟩,.int .i64 0,.int .i64 0,.int .i64 0,.int .i64 0,.slice none 0 0,.slice none 0 0] 106
    have hle:=hkq1.1.size
    refine hK.out _ _ hka (fun _=>?_)
    clear hK K
    try simp only [Act.put,SL]
    obtain ⟨VB,hVB⟩:∃VB,VB=q1.heap.size:=⟨_,rfl⟩
    obtain ⟨Wa,hWa⟩:∃Wa,Wa=q1.alloc (Obj.cells #[.string ⟨#[]⟩,.string ⟨#[]⟩,.int .i64 0,.int .i64 0,.int .i64 0,.int .i64 0,.slice none 0 0,.slice none 0 0] 106):=⟨_,rfl⟩
    have hvb:W0.heap.size≤VB:=by rw [hVB];exact hle
    rw [←hWa] at hka hva ⊢
    rw [←hVB] at hva ⊢
    clear hWa hVB hle
    refine rd 7 (fun K hK=>?_)
    go_simp
    go_at_call 133
    refine (C2.out _).mono ?_
    rintro e q2 ⟨rfl,hq2⟩
    try go_wp2_with fail
    have hkq2:=@UWx.below w W0 a m mo ev su mx _ _ hka hq2
    have hvq2:=BlkW.below hva hq2
    refine hK.out _ _ hkq2 (fun _=>?_)
    clear hK K
    try simp only [Act.put,SL]
    refine tk 20 ?_
    refine rd 22 (fun K hK=>?_)
    obtain ⟨⟨vl,vcs⟩,vfs⟩:=hvq2
    have y0:=q_ vcs 0
    have f0:=vfs 0 (by simp)
    have y1:=q_ vcs 1
    have f1:=vfs 1 (by simp)
    have y2:=q_ vcs 2
    have f2:=vfs 2 (by simp)
    have y3:=q_ vcs 3
    have f3:=vfs 3 (by simp)
    have y4:=q_ vcs 4
    have f4:=vfs 4 (by simp)
    have y5:=q_ vcs 5
    have f5:=vfs 5 (by simp)
    have y6:=q_ vcs 6
    have f6:=vfs 6 (by simp)
    have y7:=q_ vcs 7
    have f7:=vfs 7 (by simp)
    go_simp
    try go_wp2_with fail
    have hks:=(@UWx.put w W0 a m mo ev su mx _ (@UWx.put w W0 a m mo ev su mx _ (@UWx.put w W0 a m mo ev su mx _ (@UWx.put w W0 a m mo ev su mx _ (@UWx.put w W0 a m mo ev su mx _ (@UWx.put w W0 a m mo ev su mx _ (@UWx.put w W0 a m mo ev su mx _ (@UWx.put w W0 a m mo ev su mx _ hkq2 VB 0 (.string a) hvb) VB 1 (.string m) hvb) VB 2 (.int .i64 mo) hvb) VB 3 (.int .i64 ev) hvb) VB 4 (.int .i64 su) hvb) VB 5 (.int .i64 mx) hvb) VB 6 (.slice none 0 0) hvb) VB 7 (.slice none 0 0) hvb)
    have hvs:=(BlkW.set (BlkW.set (BlkW.set (BlkW.set (BlkW.set (BlkW.set (BlkW.set (BlkW.set (⟨⟨vl,vcs⟩,vfs⟩:BlkW VB [.string ⟨#[]⟩,.string ⟨#[]⟩,.int .i64 0,.int .i64 0,.int .i64 0,.int .i64 0,.slice none 0 0,.slice none 0 0] q2) 0 (.string a) (by simp)) 1 (.string m) (by simp)) 2 (.int .i64 mo) (by simp)) 3 (.int .i64 ev) (by simp)) 4 (.int .i64 su) (by simp)) 5 (.int .i64 mx) (by simp)) 6 (.slice none 0 0) (by simp)) 7 (.slice none 0 0) (by simp))
    refine hK.out _ _ hks (fun _=>?_)
    clear hK K
    try simp only [Act.put,SL]
    refine wpAnyH_done (by kernel_rfl) ?_ _
    have HBF:=H_ hks.1
    have HVF:=H_ hvs
    clear hks hvs y0 y1 y2 y3 y4 y5 y6 y7 f0 f1 f2 f3 f4 f5 f6 f7 vcs vfs
    go_wp2_with fail
    go_meet
    case rel=>exact ⟨VB,rfl,HBF,HVF,H_ hvb⟩
  ·go_simp
   try go_wp2_with fail
   have hka:=@UWx.below w W0 a m mo ev su mx _ _ HS0.out (al_ Wd (Obj.cells #[.string ⟨#[]⟩,.string ⟨#[]⟩,.int .i64 0,.int .i64 0,.int .i64 0,.int .i64 0,.slice none 0 0,.slice none 0 0] 106))
   have hva:=BlkW.new Wd [.string ⟨#[]⟩,.string ⟨#[]⟩,.int .i64 0,.int .i64 0,.int .i64 0,.int .i64 0,.slice none 0 0,.slice none 0 0] 106
   have hle:=HS0.out.1.size
   refine hK.out _ _ hka (fun _=>?_)
   clear hK K
   try simp only [Act.put,SL]
   obtain ⟨VB,hVB⟩:∃VB,VB=Wd.heap.size:=⟨_,rfl⟩
   obtain ⟨Wa,hWa⟩:∃Wa,Wa=Wd.alloc (Obj.cells #[.string ⟨#[]⟩,.string ⟨#[]⟩,.int .i64 0,.int .i64 0,.int .i64 0,.int .i64 0,.slice none 0 0,.slice none 0 0] 106):=⟨_,rfl⟩
   have hvb:W0.heap.size≤VB:=by rw [hVB];exact hle
   rw [←hWa] at hka hva ⊢
   rw [←hVB] at hva ⊢
   clear hWa hVB hle
   refine rd 3 (fun K hK=>?_)
   go_simp
   go_at_call 133
   refine (C1.out _).mono ?_
   rintro e q1 ⟨rfl,hq1⟩
   try go_wp2_with fail
   have hkq1:=@UWx.below w W0 a m mo ev su mx _ _ hka hq1
   have hvq1:=BlkW.below hva hq1
   refine hK.out _ _ hkq1 (fun _=>?_)
   clear hK K
   try simp only [Act.put,SL]
   refine rd 7 (fun K hK=>?_)
   go_simp
   go_at_call 133
   refine (C2.out _).mono ?_
   rintro e q2 ⟨rfl,hq2⟩
   try go_wp2_with fail
   have hkq2:=@UWx.below w W0 a m mo ev su mx _ _ hkq1 hq2
   have hvq2:=BlkW.below hvq1 hq2
   refine hK.out _ _ hkq2 (fun _=>?_)
   clear hK K
   try simp only [Act.put,SL]
   refine tk 20 ?_
   refine rd 22 (fun K hK=>?_)
   obtain ⟨⟨vl,vcs⟩,vfs⟩:=hvq2
   have y0:=q_ vcs 0
   have f0:=vfs 0 (by simp)
   have y1:=q_ vcs 1
   have f1:=vfs 1 (by simp)
   have y2:=q_ vcs 2
   have f2:=vfs 2 (by simp)
   have y3:=q_ vcs 3
   have f3:=vfs 3 (by simp)
   have y4:=q_ vcs 4
   have f4:=vfs 4 (by simp)
   have y5:=q_ vcs 5
   have f5:=vfs 5 (by simp)
   have y6:=q_ vcs 6
   have f6:=vfs 6 (by simp)
   have y7:=q_ vcs 7
   have f7:=vfs 7 (by simp)
   go_simp
   try go_wp2_with fail
   have hks:=(@UWx.put w W0 a m mo ev su mx _ (@UWx.put w W0 a m mo ev su mx _ (@UWx.put w W0 a m mo ev su mx _ (@UWx.put w W0 a m mo ev su mx _ (@UWx.put w W0 a m mo ev su mx _ (@UWx.put w W0 a m mo ev su mx _ (@UWx.put w W0 a m mo ev su mx _ (@UWx.put w W0 a m mo ev su mx _ hkq2 VB 0 (.string a) hvb) VB 1 (.string m) hvb) VB 2 (.int .i64 mo) hvb) VB 3 (.int .i64 ev) hvb) VB 4 (.int .i64 su) hvb) VB 5 (.int .i64 mx) hvb) VB 6 (.slice none 0 0) hvb) VB 7 (.slice none 0 0) hvb)
   have hvs:=(BlkW.set (BlkW.set (BlkW.set (BlkW.set (BlkW.set (BlkW.set (BlkW.set (BlkW.set (⟨⟨vl,vcs⟩,vfs⟩:BlkW VB [.string ⟨#[]⟩,.string ⟨#[]⟩,.int .i64 0,.int .i64 0,.int .i64 0,.int .i64 0,.slice none 0 0,.slice none 0 0] q2) 0 (.string a) (by simp)) 1 (.string m) (by simp)) 2 (.int .i64 mo) (by simp)) 3 (.int .i64 ev) (by simp)) 4 (.int .i64 su) (by simp)) 5 (.int .i64 mx) (by simp)) 6 (.slice none 0 0) (by simp)) 7 (.slice none 0 0) (by simp))
   refine hK.out _ _ hks (fun _=>?_)
   clear hK K
   try simp only [Act.put,SL]
   refine wpAnyH_done (by kernel_rfl) ?_ _
   have HBF:=H_ hks.1
   have HVF:=H_ hvs
   clear hks hvs y0 y1 y2 y3 y4 y5 y6 y7 f0 f1 f2 f3 f4 f5 f6 f7 vcs vfs
   go_wp2_with fail
   go_meet
   case rel=>exact ⟨VB,rfl,HBF,HVF,H_ hvb⟩
 case rest =>
  obtain ⟨V,rfl,HB1,HV1,hV0⟩:=hcut
  clear HS0 HW0
  have HVs:=H_ hV0.out
  have HX1:=H_ (HX0.out.below HB1.out)
  have HY1:=H_ (HY0.out.below HB1.out)
  obtain ⟨xl,xc⟩:=HX1.out
  have x6:=q_ xc 6
  clear xc
  go_wp2_with fail
  go_loopw [31] (fun z wr=>∃(k:Nat) (tv:Value),k≤tl∧z=.int .i64 k∧Hid (Below W0.heap.size W0 wr)∧Hid (BlkW V [.string a,.string m,.int .i64 mo,.int .i64 ev,.int .i64 su,.int .i64 mx,tv,.slice none 0 0] wr)∧Hid (wr.ownsRow (V+1) 9 1 tv k (cellsAll tcells (ts.take k)))) (fun z _=>tl-(intOf z).toNat)
  case atStart=>exact ⟨0,.slice none 0 0,by omega,rfl,HB1,HV1,H_ (World.ownsRow_nil _ _ _ _)⟩
  case round =>
   clear HB1 HV1 x6 xl HX1 HY1
   obtain ⟨k,tv,hk,rfl,HB,HV,HO⟩:=hrel
   by_cases hlt:k<tl
   ·have hlt2:(k:Int)<(tl:Int):=by omega
    have hkl:k<ts.length:=by have:=HTL.out;omega
    obtain ⟨b,off,rfl,hbl,c0⟩:=(HT.out.below (HB0.out.trans (HB.out.mono HB0.out.size))).at k hkl
    have hsz:=HLT.out _ (getD_mem (z:=tz) ts k hkl)
    have HCA:Hid (cellsAll tcells (ts.take (k+1))=cellsAll tcells (ts.take k) ++ [.string (ts.getD k tz)]):=H_ (by rw [take_more (z:=tz) ts k hkl,RowG.cellsAll_app];rfl)
    have HC:=H_ (fun w=>CloneR.clone_any (ts.getD k tz) w (by omega))
    generalize ts.getD k tz=Y at *
    have HS1:Hid (VWx W0 V tv wr.drew):=H_ ⟨HB.out.drew,HV.out.1.1,HV.out.1.2 6 (by simp),HV.out.2 6 (by simp)⟩
    have HVd:Hid (BlkW V [.string a,.string m,.int .i64 mo,.int .i64 ev,.int .i64 su,.int .i64 mx,tv,.slice none 0 0] wr.drew):=H_ (HV.out.below (Below.refl _ _).drew)
    have HOd:Hid (wr.drew.ownsRow (V+1) 9 1 tv k (cellsAll tcells (ts.take k))):=H_ HO.out
    have hVW:=HV.out.1.1
    have sz1:k+1≤maxLen:=by unfold maxLen;omega
    have sz2:(k+1)*16≤140737488355328:=by omega
    have sz3:0<1:=by omega
    go_wp2_with fail
    refine wp_region_held_drew (S:=(fun W=>Below W0.heap.size W0 W∧V<W.heap.size)) (by kernel_rfl) ⟨HS1.out.1,HS1.out.2.1⟩ (fun hHeld=>?_)
    refine tk 0 ?_
    refine tk 2 ?_
    refine rd2 1 3 (fun K hK=>?_) (fun K hK=>?_)
    ·have y6:=HS1.out.2.2.1
     have yl:=HS1.out.2.1
     go_simp
     try go_wp2_with fail
     clear y6 yl
     refine hK.out _ _ ⟨HS1.out.1,HS1.out.2.1⟩ (fun _=>?_)
     clear hK K
     try simp only [Act.put,SL]
     refine rd 3 (fun K hK=>?_)
     go_simp
     go_at_call 133
     refine (HC.out _).mono ?_
     rintro e q1 ⟨rfl,hq1⟩
     try go_wp2_with fail
     have hk1:=@VWx.below W0 V tv _ _ HS1.out hq1
     have hv1:=HVd.out.below hq1
     have ho1:=RowG.own_below HOd.out hq1
     refine hK.out _ _ ⟨hk1.1,hk1.2.1⟩ (fun _=>?_)
     clear hK K
     try simp only [Act.put,SL]
     refine rd 4 (fun K hK=>?_)
     go_simp
     try go_wp2_with fail
     have hk2:=@VWx.below W0 V tv _ _ hk1 (al_ q1 (Obj.cells #[.string Y] 9))
     have hv2:=hv1.below (al_ q1 (Obj.cells #[.string Y] 9))
     have ho2:=ho1.alloc (Obj.cells #[.string Y] 9)
     refine hK.out _ _ ⟨hk2.1,hk2.2.1⟩ (fun _=>?_)
     clear hK K
     try simp only [Act.put,SL]
     refine rd 5 (fun K hK=>?_)
     refine step_append_own rfl _ _ 92 rfl (V+1) 9 i0 (.string ⟨#[]⟩) 1 16 Tryz.underlying92 hi hz0 hz1 hz2 rfl sz3 _ _ _ rfl ho2 ⟨q1.heap.size,0,none⟩ 1 1 [.string Y] rfl rfl (one_cell _ _ _) (one_one _) sz1 sz2 (by have:=hk1.2.1;simp;omega) ?_
     intro v' w4 hown hgrow hne
     obtain ⟨sa,sn,sc,rfl⟩:=own_slice hown
     have hk3:=@VWx.grown W0 V tv _ _ _ hk2 hgrow (fun g hg=>(ho2.lt g hg).1) HVs.out
     have hv3:=BlkW.grown hv2 hgrow (fun e=>by have:=(ho2.lt _ e.symm).1;omega)
     refine hK.out _ _ ⟨hk3.1,hk3.2.1⟩ (fun _=>?_)
     clear hK K
     try simp only [Act.put,SL]
     refine tk 6 ?_
     refine rd 7 (fun K hK=>?_)
     have y6:=hk3.2.2.1
     have f6:=hk3.2.2.2
     have yl:=hk3.2.1
     go_simp
     try go_wp2_with fail
     have hb4:=hk3.1.setCell (p:=⟨V,6,none⟩) HVs.out (.slice sa sn sc)
     have hv4:=hv3.set 6 (.slice sa sn sc) (by simp)
     have ho4:=own_set hown V 6 (.slice sa sn sc) (fun g hg=>by have:=(hown.lt g hg).1;omega)
     refine hK.out _ _ ⟨hb4,by simpa using yl⟩ (fun _=>?_)
     clear hK K y6 f6 yl
     try simp only [Act.put,SL]
     refine wpAnyH_done (by kernel_rfl) ?_ _
     have HB5:=H_ hb4
     have HV5:=H_ hv4
     have HO5:Hid ((w4.setCell ⟨V,6,none⟩ (.slice sa sn sc)).ownsRow (V+1) 9 1 (.slice sa sn sc) (k+1) (cellsAll tcells (ts.take (k+1)))):=H_ (by rw [HCA.out];exact ho4)
     clear hb4 hv4 ho4 hown hgrow hne hk1 hk2 hk3 hv1 hv2 hv3 ho1 ho2 hq1 HS1 HVd HOd c0
     go_wp2_with fail
     go_roundw
     case rel=>exact ⟨k+1,(.slice sa sn sc),by omega,by go_num,HB5,HV5,HO5⟩
     case measure=>simp [intOf];omega
    ·go_simp
     go_at_call 133
     refine (HC.out _).mono ?_
     rintro e q1 ⟨rfl,hq1⟩
     try go_wp2_with fail
     have hk1:=@VWx.below W0 V tv _ _ HS1.out hq1
     have hv1:=HVd.out.below hq1
     have ho1:=RowG.own_below HOd.out hq1
     refine hK.out _ _ ⟨hk1.1,hk1.2.1⟩ (fun _=>?_)
     clear hK K
     try simp only [Act.put,SL]
     refine rd2 1 4 (fun K hK=>?_) (fun K hK=>?_)
     ·have y6:=hk1.2.2.1
      have yl:=hk1.2.1
      go_simp
      try go_wp2_with fail
      clear y6 yl
      refine hK.out _ _ ⟨hk1.1,hk1.2.1⟩ (fun _=>?_)
      clear hK K
      try simp only [Act.put,SL]
      refine rd 4 (fun K hK=>?_)
      go_simp
      try go_wp2_with fail
      have hk2:=@VWx.below W0 V tv _ _ hk1 (al_ q1 (Obj.cells #[.string Y] 9))
      have hv2:=hv1.below (al_ q1 (Obj.cells #[.string Y] 9))
      have ho2:=ho1.alloc (Obj.cells #[.string Y] 9)
      refine hK.out _ _ ⟨hk2.1,hk2.2.1⟩ (fun _=>?_)
      clear hK K
      try simp only [Act.put,SL]
      refine rd 5 (fun K hK=>?_)
      refine step_append_own rfl _ _ 92 rfl (V+1) 9 i0 (.string ⟨#[]⟩) 1 16 Tryz.underlying92 hi hz0 hz1 hz2 rfl sz3 _ _ _ rfl ho2 ⟨q1.heap.size,0,none⟩ 1 1 [.string Y] rfl rfl (one_cell _ _ _) (one_one _) sz1 sz2 (by have:=hk1.2.1;simp;omega) ?_
      intro v' w4 hown hgrow hne
      obtain ⟨sa,sn,sc,rfl⟩:=own_slice hown
      have hk3:=@VWx.grown W0 V tv _ _ _ hk2 hgrow (fun g hg=>(ho2.lt g hg).1) HVs.out
      have hv3:=BlkW.grown hv2 hgrow (fun e=>by have:=(ho2.lt _ e.symm).1;omega)
      refine hK.out _ _ ⟨hk3.1,hk3.2.1⟩ (fun _=>?_)
      clear hK K
      try simp only [Act.put,SL]
      refine tk 6 ?_
      refine rd 7 (fun K hK=>?_)
      have y6:=hk3.2.2.1
      have f6:=hk3.2.2.2
      have yl:=hk3.2.1
      go_simp
      try go_wp2_with fail
      have hb4:=hk3.1.setCell (p:=⟨V,6,none⟩) HVs.out (.slice sa sn sc)
      have hv4:=hv3.set 6 (.slice sa sn sc) (by simp)
      have ho4:=own_set hown V 6 (.slice sa sn sc) (fun g hg=>by have:=(hown.lt g hg).1;omega)
      refine hK.out _ _ ⟨hb4,by simpa using yl⟩ (fun _=>?_)
      clear hK K y6 f6 yl
      try simp only [Act.put,SL]
      refine wpAnyH_done (by kernel_rfl) ?_ _
      have HB5:=H_ hb4
      have HV5:=H_ hv4
      have HO5:Hid ((w4.setCell ⟨V,6,none⟩ (.slice sa sn sc)).ownsRow (V+1) 9 1 (.slice sa sn sc) (k+1) (cellsAll tcells (ts.take (k+1)))):=H_ (by rw [HCA.out];exact ho4)
      clear hb4 hv4 ho4 hown hgrow hne hk1 hk2 hk3 hv1 hv2 hv3 ho1 ho2 hq1 HS1 HVd HOd c0
      go_wp2_with fail
      go_roundw
      case rel=>exact ⟨k+1,(.slice sa sn sc),by omega,by go_num,HB5,HV5,HO5⟩
      case measure=>simp [intOf];omega
     ·go_simp
      try go_wp2_with fail
      have hk2:=@VWx.below W0 V tv _ _ hk1 (al_ q1 (Obj.cells #[.string Y] 9))
      have hv2:=hv1.below (al_ q1 (Obj.cells #[.string Y] 9))
      have ho2:=ho1.alloc (Obj.cells #[.string Y] 9)
      refine hK.out _ _ ⟨hk2.1,hk2.2.1⟩ (fun _=>?_)
      clear hK K
      try simp only [Act.put,SL]
      refine rd 1 (fun K hK=>?_)
      have y6:=hk2.2.2.1
      have yl:=hk2.2.1
      go_simp
      try go_wp2_with fail
      clear y6 yl
      refine hK.out _ _ ⟨hk2.1,hk2.2.1⟩ (fun _=>?_)
      clear hK K
      try simp only [Act.put,SL]
      refine rd 5 (fun K hK=>?_)
      refine step_append_own rfl _ _ 92 rfl (V+1) 9 i0 (.string ⟨#[]⟩) 1 16 Tryz.underlying92 hi hz0 hz1 hz2 rfl sz3 _ _ _ rfl ho2 ⟨q1.heap.size,0,none⟩ 1 1 [.string Y] rfl rfl (one_cell _ _ _) (one_one _) sz1 sz2 (by have:=hk1.2.1;simp;omega) ?_
      intro v' w4 hown hgrow hne
      obtain ⟨sa,sn,sc,rfl⟩:=own_slice hown
      have hk3:=@VWx.grown W0 V tv _ _ _ hk2 hgrow (fun g hg=>(ho2.lt g hg).1) HVs.out
      have hv3:=BlkW.grown hv2 hgrow (fun e=>by have:=(ho2.lt _ e.symm).1;omega)
      refine hK.out _ _ ⟨hk3.1,hk3.2.1⟩ (fun _=>?_)
      clear hK K
      try simp only [Act.put,SL]
      refine tk 6 ?_
      refine rd 7 (fun K hK=>?_)
      have y6:=hk3.2.2.1
      have f6:=hk3.2.2.2
      have yl:=hk3.2.1
      go_simp
      try go_wp2_with fail
      have hb4:=hk3.1.setCell (p:=⟨V,6,none⟩) HVs.out (.slice sa sn sc)
      have hv4:=hv3.set 6 (.slice sa sn sc) (by simp)
      have ho4:=own_set hown V 6 (.slice sa sn sc) (fun g hg=>by have:=(hown.lt g hg).1;omega)
      refine hK.out _ _ ⟨hb4,by simpa using yl⟩ (fun _=>?_)
      clear hK K y6 f6 yl
      try simp only [Act.put,SL]
      refine wpAnyH_done (by kernel_rfl) ?_ _
      have HB5:=H_ hb4
      have HV5:=H_ hv4
      have HO5:Hid ((w4.setCell ⟨V,6,none⟩ (.slice sa sn sc)).ownsRow (V+1) 9 1 (.slice sa sn sc) (k+1) (cellsAll tcells (ts.take (k+1)))):=H_ (by rw [HCA.out];exact ho4)
      clear hb4 hv4 ho4 hown hgrow hne hk1 hk2 hk3 hv1 hv2 hv3 ho1 ho2 hq1 HS1 HVd HOd c0
      go_wp2_with fail
      go_roundw
      case rel=>exact ⟨k+1,(.slice sa sn sc),by omega,by go_num,HB5,HV5,HO5⟩
      case measure=>simp [intOf];omega
   ·have hlt2:¬(k:Int)<(tl:Int):=by omega
    obtain rfl:k=tl:=by omega
    have HTK:Hid (ts.take k=ts):=H_ (List.take_of_length_le (by have:=HTL.out;omega))
    rw [HTK.out] at HO
    obtain ⟨sa,sn,sc,rfl⟩:=own_slice HO.out
    have HX1:=H_ (HX0.out.below HB.out)
    have HY1:=H_ (HY0.out.below HB.out)
    have HBw:=H_ (HB0.out.trans (HB.out.mono HB0.out.size))
    obtain ⟨xl,xc⟩:=HX1.out
    have x9:=q_ xc 9
    clear xc
    go_wp2_with fail
    refine (HCH.out _ HBw.out).mono ?_
    rintro e w5 ⟨ha,hcp,rfl,⟨hm5,hsl5⟩,hb5⟩
    have HM5:=H_ hm5
    have HSL5:=H_ hsl5
    clear hsl5
    have HY5:=H_ (HY1.out.below hb5)
    have HV5:=H_ (HV.out.below hb5)
    have HO5:=H_ (RowG.own_below HO.out hb5)
    have HB5:=HT_ HBw hb5
    have HSZ:Hid (∀g,(Value.slice sa sn sc).ownBlock=some g→g<wr.heap.size):=H_ (fun g hg=>(HO.out.lt g hg).2)
    have HVl:Hid (V<wr.heap.size):=H_ HV.out.1.1
    clear hm5 hb5 x9 xl
    obtain ⟨⟨vl,vk⟩,vf⟩:=HV5.out
    have v0:=q_ vk 0
    have v1:=q_ vk 1
    have v2:=q_ vk 2
    have v3:=q_ vk 3
    have v4:=q_ vk 4
    have v5:=q_ vk 5
    have v6:=q_ vk 6
    have v7:=q_ vk 7
    have f7:=vf 7 (by simp)
    obtain ⟨⟨yl,yk⟩,yf⟩:=HY5.out
    have y0:=q_ yk 0
    have q0:=yf 0 (by simp)
    have y1:=q_ yk 1
    have q1:=yf 1 (by simp)
    have y2:=q_ yk 2
    have q2:=yf 2 (by simp)
    have y3:=q_ yk 3
    have q3:=yf 3 (by simp)
    have y4:=q_ yk 4
    have q4:=yf 4 (by simp)
    have y5:=q_ yk 5
    have q5:=yf 5 (by simp)
    have y6:=q_ yk 6
    have q6:=yf 6 (by simp)
    have y7:=q_ yk 7
    have q7:=yf 7 (by simp)
    have hVne:V≠w.heap.size+1:=by have:=HVs.out;have:=HWS.out;omega
    clear vk vf yk yf HY5 HV5
    have hVl:=HVl.out
    have hRl:w.heap.size+1<wr.heap.size:=by have:=HWS.out;have:=HB.out.size;omega
    have hwV:w.heap.size≤V:=by have:=HVs.out;have:=HWS.out;omega
    have HNE:Hid (∀G,G<wr.heap.size→hs.length=0∨∀b off,ha=some ⟨b,off,none⟩→b≠G):=H_ (fun G hG=>by
     rcases HM5.out.own with h0|⟨g,e1,e2,_⟩
     ·exact .inl h0
     ·exact .inr (fun b off q=>by rw [e1] at q;simp at q;omega))
    have HNO:Hid (∀g,(Value.slice sa sn sc).ownBlock=some g→∀G,G≤V→g≠G):=H_ (fun g hg G hG=>by have:=(HO5.out.lt g hg).1;omega)
    have HND:Hid (∀g,(Value.slice sa sn sc).ownBlock=some g→∀b o,ha=some ⟨b,o,none⟩→hl≠0→g≠b):=H_ (fun g hg b o q hn=>by
     have h1:=HSZ.out g hg
     rcases HM5.out.own with h0|⟨g',e1,e2,_⟩
     ·have:=HHL.out;omega
     ·rw [e1] at q;simp at q;omega)
    have HRV:Hid (w.heap.size+1≤V):=H_ (by have:=HVs.out;have:=HWS.out;omega)
    have hRV:=HRV.out
    have HFW:Hid (∀W,W.ownsRow (V+1) 9 1 (.slice sa sn sc) k (cellsAll tcells ts)→MadeG 2 H.cells H.zero wr.heap.size ha hs W→M (.agg #[.string a,.string m,.int .i64 mo,.int .i64 ev,.int .i64 su,.int .i64 mx,.slice sa sn sc,.slice ha hl hcp]) W):=H_ (fun W h1 h2=>by
     obtain ⟨_,_,_,h⟩:=HF.out W V (.slice sa sn sc) ha hcp hwV h1 (h2.low (by omega)) HND.out HSL5.out
     exact h)
    have HG1:=H_ (HNE.out V hVl)
    have HG2:=H_ (HNE.out (w.heap.size+1) hRl)
    have HG3:Hid (∀g,(Value.slice sa sn sc).ownBlock=some g→g≠V):=H_ (fun g hg=>HNO.out g hg V (Nat.le_refl _))
    have HG4:Hid (∀g,(Value.slice sa sn sc).ownBlock=some g→g≠w.heap.size+1):=H_ (fun g hg=>HNO.out g hg _ hRV)
    go_wp2_with fail
    refine bodyPost_ret (v:=.agg #[.string a,.string m,.int .i64 mo,.int .i64 ev,.int .i64 su,.int .i64 mx,.slice sa sn sc,.slice ha hl hcp]) (by simp [results,Tryz.results137,go_sem,y0,y1,y2,y3,y4,y5,y6,y7]) rfl ⟨_,rfl,HFW.out _ ?_ ?_,?_⟩
    ·have ho1:=HG3.out
     have ho2:=HG4.out
     exact (own_set (own_set (own_set (own_set (own_set (own_set (own_set (own_set (own_set HO5.out V 7 (.slice ha hl hcp) ho1) (w.heap.size+1) 0 (.string a) ho2) (w.heap.size+1) 1 (.string m) ho2) (w.heap.size+1) 2 (.int .i64 mo) ho2) (w.heap.size+1) 3 (.int .i64 ev) ho2) (w.heap.size+1) 4 (.int .i64 su) ho2) (w.heap.size+1) 5 (.int .i64 mx) ho2) (w.heap.size+1) 6 (.slice sa sn sc) ho2) (w.heap.size+1) 7 (.slice ha hl hcp) ho2)
    ·have hn1:=HG1.out
     have hn2:=HG2.out
     exact (MadeG.put (MadeG.put (MadeG.put (MadeG.put (MadeG.put (MadeG.put (MadeG.put (MadeG.put (MadeG.put HM5.out V 7 (.slice ha hl hcp) (hn1)) (w.heap.size+1) 0 (.string a) (hn2)) (w.heap.size+1) 1 (.string m) (hn2)) (w.heap.size+1) 2 (.int .i64 mo) (hn2)) (w.heap.size+1) 3 (.int .i64 ev) (hn2)) (w.heap.size+1) 4 (.int .i64 su) (hn2)) (w.heap.size+1) 5 (.int .i64 mx) (hn2)) (w.heap.size+1) 6 (.slice sa sn sc) (hn2)) (w.heap.size+1) 7 (.slice ha hl hcp) (hn2))
    ·have hb1:w.heap.size≤V:=hwV
     have hb2:w.heap.size≤w.heap.size+1:=Nat.le_succ _
     exact (((((((((HB5.out.setCell (hb1) _).setCell (hb2) _).setCell (hb2) _).setCell (hb2) _).setCell (hb2) _).setCell (hb2) _).setCell (hb2) _).setCell (hb2) _).setCell (hb2) _)
theorem impl_win_s (x:Wd) (ta:Option Addr) (tc:Nat) (ha:Option Addr) (hc:Nat) (w:World) (la:x.a.size≤1048576) (lm:x.m.size≤1048576) (lt:x.ts.length≤1048576) (lts:∀t∈x.ts,t.size≤1048576) (lh:x.hs.length≤1048576) (l1:1≤x.hs.length) (hT:Tgs ta x.ts w) (hH:Hrs ha x.hs w) :
 Calls Tryz.prog 137 #[.agg #[.string x.a,.string x.m,.int .i64 x.mo,.int .i64 x.ev,.int .i64 x.su,.int .i64 x.mx,.slice ta x.ts.length tc,.func (.func 212) #[] #[],.func (.func 213) #[] #[],.slice ha x.hs.length hc,.func (.func 214) #[] #[],.func (.func 215) #[] #[]]] w fun e w'=>∃v,e=.returned v∧MadeWS w.heap.size x v w'∧Below w.heap.size w w':=by
 obtain ⟨b,off,rfl,_,_⟩:=hH.at 0 (by omega)
 exact win_in x.a x.m x.mo x.ev x.su x.mx x.ts ta tc x.hs b off hc w la lm lt lts lh hT hH
theorem impl_win (x:Wd) (ta:Option Addr) (tc:Nat) (ha:Option Addr) (hc:Nat) (w:World) (la:x.a.size≤1048576) (lm:x.m.size≤1048576) (lt:x.ts.length≤1048576) (lts:∀t∈x.ts,t.size≤1048576) (lh:x.hs.length≤1048576) (l1:1≤x.hs.length) (hT:Tgs ta x.ts w) (hH:Hrs ha x.hs w) :
 Calls Tryz.prog 137 #[.agg #[.string x.a,.string x.m,.int .i64 x.mo,.int .i64 x.ev,.int .i64 x.su,.int .i64 x.mx,.slice ta x.ts.length tc,.func (.func 212) #[] #[],.func (.func 213) #[] #[],.slice ha x.hs.length hc,.func (.func 214) #[] #[],.func (.func 215) #[] #[]]] w fun e w'=>∃v,e=.returned v∧MadeW w.heap.size x v w'∧Below w.heap.size w w':=by
 refine (impl_win_s x ta tc ha hc w la lm lt lts lh l1 hT hH).mono ?_
 rintro e w' ⟨v,rfl,hm,hb⟩
 exact ⟨v,rfl,hm.1,hb⟩
end WinR
end Go.Proofs.YtnceeaccbcfopaaGreatDoor
