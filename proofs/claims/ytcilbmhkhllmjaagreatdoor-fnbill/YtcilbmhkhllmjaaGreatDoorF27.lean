/-
  The draws of the law on bills: spec.DrawBillOf, spec.DrawDrawn, spec.DrawTotalOf. The condition: at most 1048576 bytes to draw from.
  The program's looks at windows that are to be billed: all right; two of one meter. The conditions: sizes of at most 1048576; the program's table holds what its text lays.
  What an account is billed, in numbers: its windows in the order of their meters, each rated. No condition.
-/
import Derived.Test.YtcilbmhkhllmjaaGreatDoorF26
namespace Go.Proofs.YtcilbmhkhllmjaaGreatDoor
open Go.ChangeShapes Go.WideShapes Go.ChangeAt Go.RowKit
set_option linter.unusedVariables false
namespace DrawR
open LinR (N Lis)
open BilR (WP)
open CatR (Ca Mes Crs IsCa)
open WinR (Wd Sm Wns)
theorem below_at {w w1 w2:World} (hb:Below w.heap.size w w1) {x:Nat} (hg:w1.grownBy w2 (some x)) (hx:w.heap.size≤x):Below w.heap.size w w2 :=
 hb.grown hg hb.size (fun k e=>by cases e;exact hx)
theorem lis_far2 {b off:Nat} {L:List N} {W W':World} {x:Nat} (h:Lis (some ⟨b,off,none⟩) L W) (hg:W.grownBy W' (some x)) (hne:b≠x):Lis (some ⟨b,off,none⟩) L W':=by
 rcases h with h0|⟨b',o',e,hl,hc⟩
 ·exact .inl h0
 ·cases e
  have eb:=hg.block b hl (by simp only [ne_eq,Option.some.injEq];exact hne)
  exact .inr ⟨b,off,rfl,by have:=hg.size;omega,fun j hj i hi=>(World.cell?_of_block (a:=⟨b,off+j*2+i,none⟩) eb).trans (hc j hj i hi)⟩
def BofOut (w:World) (e:Ending) (w':World):Prop:=(∃(c:Ca) (ma:Option Addr) (mc:Nat) (ca:Option Addr) (cc:Nat) (a:ByteArray) (wo:Option Addr) (wc:Nat) (ps:List WP),e=.returned (.tuple #[.agg #[.slice ma c.ms.length mc,.slice ca c.cs.length cc],.string a,.slice wo ps.length wc])∧Mes ma c.ms.length c.ms w'∧Crs ca c.cs.length c.cs w'∧c.Small∧a.size≤100∧ps.length≤4∧Wns wo (ps.map WP.d) w'∧∀p∈ps,Sm 13 p.d)∧Below w.heap.size w w'
set_option maxRecDepth 100000 in
set_option maxHeartbeats 8000000 in
theorem bof_any (ao:Option Addr) (len cap:Nat) (w:World) (hlen:len≤1048576) (hB:Bytes ao len w) :
 Calls Tryz.prog 18 #[.slice ao len cap] w fun e w'=>BofOut w e w':=by
 obtain ⟨W0,hW0⟩:∃z,z=w.alloc (.cells #[.slice none 0 0,.slice none 0 0] 36):=⟨_,rfl⟩
 have hB0:Below w.heap.size w W0:=by rw [hW0];exact (Below.refl _ _).alloc (Nat.le_refl _) _
 have HB:=H_ hB0
 have HR:Hid (BW w.heap.size [.slice none 0 0,.slice none 0 0] W0):=H_ (by rw [hW0];exact bw_new w _ _)
 have hs0:W0.heap.size=w.heap.size+1:=by rw [hW0];simp
 have h1:=H_ (source_any ao len cap W0 hlen (hB.below hB0))
 have HW:=H_ hW0
 clear hB hB0 hW0
 go_enter Tryz.func18,Tryz.ntmps18
 go_wp2_with fail
 rw [←HW.out]
 clear HW
 refine h1.out.mono ?_
 rintro e w1 ⟨rfl,hS1,hb1⟩
 have HS:=H_ hS1
 have hgl:=hS1.lt
 obtain ⟨g,hge⟩:∃g,g=W0.heap.size:=⟨_,rfl⟩
 rw [←hge] at HS hgl hb1 ⊢
 have hwg:w.heap.size<g:=by omega
 have hb1':Below W0.heap.size W0 w1:=by rw [←hge];exact hb1
 replace HR:=H_ (HR.out.below hb1')
 replace HB:=H_ (HB.out.trans (hb1'.mono HB.out.size))
 clear hS1 hb1 hb1' h1 hge hs0
 go_wp2_with fail
 refine (catalog_any ao len cap g _ HS.out).mono ?_
 rintro e w2 ⟨⟨c,ma,mc,ca,cc,rfl,hM,hC,hSm,hfar⟩,hS2,hg2⟩
 have HFAR:Hid (∀W':World,w2.heap.size≤W'.heap.size→(∀k,g<k→k<w2.heap.size→W'.heap[k]? = w2.heap[k]?)→Mes ma c.ms.length c.ms W'∧Crs ca c.cs.length c.cs W'):=H_ (fun W' h1 h2=>hfar W' h1 (fun k h3 h4=>h2 k (by omega) h4))
 have HSM:=H_ hSm
 replace HS:=H_ hS2
 replace HR:=H_ (bw_gr HR.out hg2 (by simp;omega))
 replace HB:=H_ (below_at HB.out hg2 (by omega))
 have HGR:Hid (w2.grownBy w2 (some g)):=H_ (OwG.rgrownO (Below.refl _ _) (some g))
 clear hM hC hfar hSm hS2 hg2
 obtain ⟨ml,hml⟩:∃z,z=c.ms.length:=⟨_,rfl⟩
 obtain ⟨cl,hcl⟩:∃z,z=c.cs.length:=⟨_,rfl⟩
 rw [←hml,←hcl] at HFAR ⊢
 have HML:=H_ hml
 have HCL:=H_ hcl
 clear hml hcl
 go_wp2_with fail
 obtain ⟨V,hV⟩:∃z,z=w2.heap.size:=⟨_,rfl⟩
 obtain ⟨w3,hw3⟩:∃z,z=w2.alloc (.cells #[.slice ma ml mc,.slice ca cl cc] 36):=⟨_,rfl⟩
 have hal:Below w2.heap.size w2 w3:=by rw [hw3];exact (Below.refl _ _).alloc (Nat.le_refl _) _
 have HV:Hid (BW V [.slice ma ml mc,.slice ca cl cc] w3):=H_ (by rw [hw3,hV];exact bw_new w2 [.slice ma ml mc,.slice ca cl cc] _)
 have HGV:Hid (g<V):=H_ (by rw [hV];exact HS.out.lt)
 replace HS:=H_ (HS.out.kept (rgrown hal none) (fun k e=>by cases e))
 replace HR:=H_ (HR.out.below hal)
 replace HB:=H_ (HB.out.trans (hal.mono HB.out.size))
 replace HGR:=H_ (Lib.grownBy_trans HGR.out (rgrown hal (some g)))
 have HS3:Hid (w3.heap.size=V+1):=H_ (by rw [hw3,hV];simp)
 rw [←hV,←hw3]
 clear hal hw3 hV
 have HS1:=H_ (HS.out.alloc (.cells (List.map Value.string [⟨#[97,110,110]⟩,⟨#[97,110,110]⟩,⟨#[98,111,98]⟩,⟨#[65]⟩]).toArray 9))
 have HT1:Hid (Strs (V+1) 4 100 (w3.alloc (.cells (List.map Value.string [⟨#[97,110,110]⟩,⟨#[97,110,110]⟩,⟨#[98,111,98]⟩,⟨#[65]⟩]).toArray 9))):=H_ (by rw [←HS3.out];exact strs_new w3 [⟨#[97,110,110]⟩,⟨#[97,110,110]⟩,⟨#[98,111,98]⟩,⟨#[65]⟩] 100 9 (by decide))
 go_wp2_with fail
 refine (pick_any ao len cap g (V+1) 4 100 _ (by omega) (by omega) (by have:=HGV.out;omega) HS1.out HT1.out).mono ?_
 rintro e w4 ⟨⟨a,rfl,ha⟩,hS,hg⟩
 have hal2:=(Below.refl w3.heap.size w3).alloc (Nat.le_refl _) (.cells (List.map Value.string [⟨#[97,110,110]⟩,⟨#[97,110,110]⟩,⟨#[98,111,98]⟩,⟨#[65]⟩]).toArray 9)
 replace HS:=H_ hS
 replace HR:=H_ (bw_gr (HR.out.below hal2) hg (by simp;omega))
 replace HV:=H_ (bw_gr (HV.out.below hal2) hg (by have:=HGV.out;simp;omega))
 replace HB:=H_ (below_at (HB.out.trans (hal2.mono HB.out.size)) hg (by omega))
 replace HGR:=H_ (Lib.grownBy_trans HGR.out (Lib.grownBy_trans (rgrown hal2 (some g)) hg))
 have HA:=H_ ha
 clear hS hg ha HS1 HT1 hal2
 go_wp2_with fail
 have HSD:=H_ (HS.out.kept (rgrown (Below.refl w4.heap.size w4).drew none) (fun k e=>by cases e))
 have HRD:=H_ (HR.out.below (Below.refl w4.heap.size w4).drew)
 have HVD:=H_ (HV.out.below (Below.refl w4.heap.size w4).drew)
 have HBD:=H_ (HB.out.trans ((Below.refl w4.heap.size w4).drew.mono HB.out.size))
 have HGRD:=H_ (Lib.grownBy_trans HGR.out (rgrown (Below.refl w4.heap.size w4).drew (some g)))
 refine wp_region_held_drew (S:=(fun W=>V<W.heap.size∧W.cell? ⟨V,0,none⟩=some (.slice ma ml mc)∧W.cell? ⟨V,1,none⟩=some (.slice ca cl cc))) (by kernel_rfl) ⟨HVD.out.1.1,HVD.out.1.2 0 (by simp),HVD.out.1.2 1 (by simp)⟩ (fun hHeld=>?_)
 generalize w4.drew=kd at *
 refine tk 0 (⟨some 15,.load 36 (.tmp 6),36,"l08_rate.go:216",#[],none⟩) ?_
 refine tk 1 (⟨some 16,.move (.tmp 7),9,"l08_rate.go:216",#[{on:=4,ground:=Ground.gcOnly Departure.lateStores}],none⟩) ?_
 refine tk 2 (⟨some 17,.move (.tmp 5),94,"l08_rate.go:216",#[],none⟩) ?_
 refine rd 3 (⟨some 18,.call {callee:=Callee.value (.func 62),args:=#[.tmp 17],argTypes:=#[94]},38,"l08_rate.go:216",#[⟨2,.data⟩],none⟩) (fun K hK=>?_)
 go_simp
 go_at_call 62
 refine (windows_any ao len cap g _ HSD.out).mono ?_
 rintro e q1 ⟨wo,wc,ps,rfl,hp4,hwn,hwf,hps,hS,hg⟩
 try go_wp2_with fail
 have hv1:=bw_gr HVD.out hg (by have:=HGV.out;simp;omega)
 refine hK.out _ _ ⟨(hv1).1.1,(hv1).1.2 0 (by simp),(hv1).1.2 1 (by simp)⟩ (fun _=>?_)
 clear hK K
 try simp only [Act.put,SL]
 refine rd 4 (⟨none,.store 36 (.tmp 2) (.tmp 15),0,"l08_rate.go:216",#[⟨0,.data⟩,⟨3,.chain⟩,⟨0,.phase⟩,{on:=1,ground:=Ground.textOnly Departure.lateStores},{on:=2,ground:=Ground.textOnly Departure.lateStores},{on:=3,ground:=Ground.textOnly Departure.lateStoresUnsure}],none⟩) (fun K hK=>?_)
 have hr1:=bw_gr HRD.out hg (by simp;omega)
 obtain ⟨⟨zl,zk⟩,zf⟩:=id hr1
 have z0:q1.cell? ⟨w.heap.size,0,none⟩=some (.slice none 0 0):=zk 0 (by simp)
 have z1:q1.cell? ⟨w.heap.size,1,none⟩=some (.slice none 0 0):=zk 1 (by simp)
 have y0:=zf 0 (by simp)
 have y1:=zf 1 (by simp)
 clear zk zf
 go_simp
 try go_wp2_with fail
 have hgf:=StR.stL_grown w.heap.size [.slice ma ml mc,.slice ca cl cc] 0 q1
 have hvf:=bw_gr hv1 hgf (by have:=HGV.out;simp;omega)
 have hkl:w.heap.size<kd.heap.size:=HRD.out.1.1
 have HWF:=H_ (hwf _ _ hkl hgf)
 have HMC:=H_ (HFAR.out _ (Nat.le_trans (Nat.le_trans HGRD.out.size hg.size) hgf.size) (fun k h1 h2=>(hgf.block k (by have:=HGRD.out.size;have:=hg.size;omega) (by simp;omega)).trans ((hg.block k (by have:=HGRD.out.size;omega) (by simp;omega)).trans (HGRD.out.block k h2 (by simp;omega)))))
 have HPS:=H_ hps
 have HP4:=H_ hp4
 have HBF:=H_ (below_at (below_at HBD.out hg (by omega)) hgf (Nat.le_refl _))
 simp only [StR.stL,Nat.zero_add] at hvf HBF HWF HMC
 refine hK.out _ _ ⟨(hvf).1.1,(hvf).1.2 0 (by simp),(hvf).1.2 1 (by simp)⟩ (fun _=>?_)
 clear hK K
 try simp only [Act.put,SL]
 refine tk 5 (⟨some 3,.assign (.tmp 16),9,"l08_rate.go:216",#[⟨1,.data⟩,⟨4,.chain⟩,⟨0,.phase⟩,⟨1,.phase⟩,{on:=2,ground:=Ground.textOnly Departure.lateStores},{on:=3,ground:=Ground.textOnly Departure.lateStoresUnsure},⟨4,.phase⟩],none⟩) ?_
 refine tk 6 (⟨some 4,.assign (.tmp 18),38,"l08_rate.go:216",#[⟨3,.data⟩,⟨5,.chain⟩,⟨0,.phase⟩,⟨1,.phase⟩,⟨2,.phase⟩,⟨3,.phase⟩,⟨4,.phase⟩,⟨5,.phase⟩],none⟩) ?_
 refine wpAnyH_done (by kernel_rfl) ?_ _
 have HQ:Hid (BofOut w (.returned (.tuple #[.agg #[.slice ma ml mc,.slice ca cl cc],.string a,.slice wo ps.length wc])) ((q1.setCell ⟨w.heap.size,0,none⟩ (.slice ma ml mc)).setCell ⟨w.heap.size,1,none⟩ (.slice ca cl cc))):=H_ (by
  have e1:=HML.out
  have e2:=HCL.out
  subst e1 e2
  exact ⟨⟨c,ma,mc,ca,cc,a,wo,wc,ps,rfl,HMC.out.1,HMC.out.2,HSM.out,HA.out,HP4.out,HWF.out,HPS.out⟩,HBF.out⟩)
 clear HFAR
 generalize ps.length=pn at *
 go_wp2_with fail
 refine bodyPost_ret (v:=.tuple #[.agg #[.slice ma ml mc,.slice ca cl cc],.string a,.slice wo pn wc]) (by simp [results,Tryz.results18,go_sem,z0,z1]) rfl HQ.out
def DdrOut (w:World) (e:Ending) (w':World):Prop:=(∃(gb cp:Nat) (L:List N) (cr:Int),e=.returned (.tuple #[.slice (some ⟨gb,0,none⟩) L.length cp,.int .i64 cr])∧L.length≤4∧(∀e∈L,Kn e.i)∧Lis (some ⟨gb,0,none⟩) L w'∧-2≤cr∧cr≤1000000000000001)∧Below w.heap.size w w'
set_option maxRecDepth 100000 in
set_option maxHeartbeats 8000000 in
theorem ddr_any (ao:Option Addr) (len cap:Nat) (w:World) (hlen:len≤1048576) (hB:Bytes ao len w) :
 Calls Tryz.prog 19 #[.slice ao len cap] w fun e w'=>DdrOut w e w':=by
 have h1:=H_ (source_any ao len cap w hlen hB)
 clear hB
 go_enter Tryz.func19,Tryz.ntmps19
 go_wp2_with fail
 refine h1.out.mono ?_
 rintro e w1 ⟨rfl,hS1,hb1⟩
 have HS1:=H_ hS1
 have HB1:=H_ hb1
 clear hS1 hb1
 go_wp2_with fail
 refine (some_any ao len cap w.heap.size _ HS1.out).mono ?_
 rintro e w2 ⟨v,L,rfl,hL,hl4⟩
 have HD:=H_ hL
 have HB2:=H_ (below_at HB1.out hL.grew (Nat.le_refl _))
 obtain ⟨gb,cp,rfl,-,-,-,-,hLi⟩:=hL.own.open
 have hgb:w.heap.size<gb:=by
  have h2:=(hL.own.1.lt gb rfl).1
  have h3:=HS1.out.lt
  omega
 have HNM:=H_ hL.nm
 have HLI:=H_ hLi
 have HS2:=H_ hL.src
 clear hL hLi HD HS1 HB1
 obtain ⟨ln,hln⟩:∃z,z=L.length:=⟨_,rfl⟩
 rw [←hln] at hl4 ⊢
 have HLN:=H_ hln
 clear hln
 go_wp2_with fail
 refine (one_any ao len cap w.heap.size 8 _ (by omega) HS2.out).mono ?_
 rintro e w3 ⟨⟨q,rfl⟩,hS,hg⟩
 have HS3:=H_ hS
 have HB3:=H_ (below_at HB2.out hg (Nat.le_refl _))
 have HLI3:=H_ (lis_far2 HLI.out hg (by omega))
 clear hS hg HLI HB2 HS2
 cases q
 ·go_wp2_with fail
  refine (n_any ao len cap w.heap.size 9000 _ (by omega) HS3.out).mono ?_
  rintro e w4 ⟨v4,rfl,lo4,_,hi4,hS,hg⟩
  have ht4:v4<9000:=hi4 (by omega)
  have HF:Hid (DdrOut w (.returned (.tuple #[.slice (some ⟨gb,0,none⟩) ln cp,.int .i64 v4])) w4):=H_ (by
   have e1:=HLN.out
   subst e1
   exact ⟨⟨gb,cp,L,v4,rfl,hl4,HNM.out,lis_far2 HLI3.out hg (by omega),by omega,by omega⟩,below_at HB3.out hg (Nat.le_refl _)⟩)
  clear hS hg hi4
  go_wp2_with fail
  refine bodyPost_ret (v:=.tuple #[.slice (some ⟨gb,0,none⟩) ln cp,.int .i64 v4]) (by simp [results,Tryz.results19,go_sem]) rfl HF.out
 ·go_wp2_with fail
  have hs0:=HS3.out.kept (rgrown (Below.refl w3.heap.size w3).drew none) (fun k e=>by cases e)
  have hb0:=HB3.out.trans ((Below.refl w3.heap.size w3).drew.mono HB3.out.size)
  have hl0:=HLI3.out.below (Below.refl w3.heap.size w3).drew
  refine wp_region_held_drew (S:=(fun W=>w.heap.size<W.heap.size)) (by kernel_rfl) hs0.lt (fun hHeld=>?_)
  generalize w3.drew=kd at *
  refine tk 0 (⟨some 12,.move (.tmp 5),29,"l08_rate.go:223",#[],none⟩) ?_
  refine tk 2 (⟨some 14,.move (.tmp 4),94,"l08_rate.go:223",#[],none⟩) ?_
  refine wpAnyH_ready (rs:=[1,3]) (by kernel_rfl) (by simp) ?_
  refine AllReadyH.cons (o:=⟨some 13,.buildSlice 101 3 #[(0,.const (Value.int IntKind.i64 (-1))),(1,.const (Value.int IntKind.i64 1000000000000000)),(2,.const (Value.int IntKind.i64 1000000000000001))],101,"l08_rate.go:223",#[{on:=6,ground:=Ground.gcOnly Departure.lateStores}],none⟩) rfl (fun K hK=>?_) (AllReadyH.cons (o:=⟨some 15,.call {callee:=Callee.value (.func 65),args:=#[.tmp 14,.const (Value.int IntKind.i64 3)],argTypes:=#[94,2]},2,"l08_rate.go:223",#[⟨2,.data⟩],none⟩) rfl (fun K hK=>?_) AllReadyH.nil)
  ·go_simp
   try go_wp2_with fail
   obtain ⟨qa,hqa⟩:∃q,q=kd.alloc (Obj.cells (List.map (Value.int .i64) [-1,1000000000000000,1000000000000001]).toArray 2):=⟨_,rfl⟩
   have hal:Below kd.heap.size kd qa:=by rw [hqa];exact (Below.refl _ _).alloc (Nat.le_refl _) _
   have hsa:=hs0.kept (rgrown hal none) (fun k e=>by cases e)
   have hba:=hb0.trans (hal.mono hb0.size)
   have hla:=hl0.below hal
   have hcx:Hid (∀i X,([-1,1000000000000000,1000000000000001]:List Int)[i]? = some X→qa.cell? ⟨kd.heap.size,i,none⟩=some (.int .i64 X)):=H_ (fun i X hX=>by rw [hqa];exact ints_cell kd _ _ i X hX)
   have hU0l:kd.heap.size<qa.heap.size:=by rw [hqa];simp
   have hUg:w.heap.size<kd.heap.size:=hs0.lt
   show K _ (kd.alloc (Obj.cells (List.map (Value.int .i64) [-1,1000000000000000,1000000000000001]).toArray 2))
   rw [←hqa]
   clear hal hqa
   obtain ⟨U0,hU0⟩:∃q,q=kd.heap.size:=⟨_,rfl⟩
   rw [←hU0] at hcx hU0l hUg ⊢
   clear hU0
   refine hK.out _ _ hsa.lt (fun _=>?_)
   clear hK K
   try simp only [Act.put,SL]
   refine rd 3 (⟨some 15,.call {callee:=Callee.value (.func 65),args:=#[.tmp 14,.const (Value.int IntKind.i64 3)],argTypes:=#[94,2]},2,"l08_rate.go:223",#[⟨2,.data⟩],none⟩) (fun K hK=>?_)
   go_simp
   go_at_call 65
   refine (n_any ao len cap w.heap.size 3 _ (by omega) hsa).mono ?_
   rintro e q1 ⟨v4,rfl,lo4,_,hi4,hS,hg⟩
   try go_wp2_with fail
   have ht4:v4<3:=hi4 (by omega)
   have hbn:=below_at hba hg (Nat.le_refl _)
   have hln:=lis_far2 hla hg (by omega)
   have hcx1:Hid (∀i X,([-1,1000000000000000,1000000000000001]:List Int)[i]? = some X→q1.cell? ⟨U0,i,none⟩=some (.int .i64 X)):=H_ (fun i X hX=>(World.cell?_of_block (a:=⟨U0,i,none⟩) (hg.block U0 hU0l (by simp;omega))).trans (hcx.out i X hX))
   have hU1l:U0<q1.heap.size:=Nat.lt_of_lt_of_le hU0l hg.size
   clear hg hi4
   refine hK.out _ _ hS.lt (fun _=>?_)
   clear hK K
   try simp only [Act.put,SL]
   refine tk 4 (⟨some 16,.indexAddr 101 (.tmp 13) (.tmp 15),0,"l08_rate.go:223",#[⟨1,.data⟩,⟨3,.data⟩,{on:=6,ground:=Ground.gcOnly Departure.lateStores}],none⟩) ?_
   refine tk 6 (⟨some 2,.assign (.tmp 12),29,"l08_rate.go:223",#[⟨0,.data⟩,⟨3,.chain⟩,⟨0,.phase⟩,{on:=1,ground:=Ground.textOnly Departure.lateStores},{on:=2,ground:=Ground.textOnly Departure.lateStores},{on:=3,ground:=Ground.textOnly Departure.lateStoresUnsure},{on:=4,ground:=Ground.textOnly Departure.lateStores},{on:=5,ground:=Ground.textOnly Departure.lateStores}],none⟩) ?_
   refine rd 5 (⟨some 17,.load 2 (.tmp 16),2,"l08_rate.go:223",#[⟨4,.data⟩,{on:=6,ground:=Ground.gcOnly Departure.lateStores}],none⟩) (fun K hK=>?_)
   obtain ⟨i,rfl⟩:∃i:Nat,v4=i:=⟨v4.toNat,by omega⟩
   have hi:i<3:=by omega
   obtain ⟨X,hX⟩:∃X:Int,([-1,1000000000000000,1000000000000001]:List Int)[i]? = some X:=⟨_,List.getElem?_eq_getElem (by simpa using hi)⟩
   have hXb:-2≤X∧X≤1000000000000001:=by
    have hm:=List.mem_of_getElem? hX
    simp only [List.mem_cons,List.not_mem_nil,or_false] at hm
    rcases hm with rfl|rfl|rfl<;>omega
   have cX:=hcx1.out i X hX
   have hUl:=hU1l
   go_simp
   try go_wp2_with fail
   refine hK.out _ _ hS.lt (fun _=>?_)
   clear hK K
   try simp only [Act.put,SL]
   clear cX hX hUl
   refine tk 7 (⟨some 3,.assign (.tmp 17),2,"l08_rate.go:223",#[⟨5,.data⟩,⟨6,.chain⟩,⟨0,.phase⟩,⟨1,.phase⟩,⟨2,.phase⟩,⟨3,.phase⟩,⟨4,.phase⟩,⟨5,.phase⟩,⟨6,.phase⟩],none⟩) ?_
   refine wpAnyH_done (by kernel_rfl) ?_ _
   have HF:Hid (DdrOut w (.returned (.tuple #[.slice (some ⟨gb,0,none⟩) ln cp,.int .i64 X])) q1):=H_ (by
    have e1:=HLN.out
    subst e1
    exact ⟨⟨gb,cp,L,X,rfl,hl4,HNM.out,hln,hXb.1,hXb.2⟩,hbn⟩)
   go_wp2_with fail
   refine bodyPost_ret (v:=.tuple #[.slice (some ⟨gb,0,none⟩) ln cp,.int .i64 X]) (by simp [results,Tryz.results19,go_sem]) rfl HF.out
  ·go_simp
   go_at_call 65
   refine (n_any ao len cap w.heap.size 3 _ (by omega) hs0).mono ?_
   rintro e q1 ⟨v4,rfl,lo4,_,hi4,hS,hg⟩
   try go_wp2_with fail
   have ht4:v4<3:=hi4 (by omega)
   have hbn:=below_at hb0 hg (Nat.le_refl _)
   have hln:=lis_far2 hl0 hg (by omega)
   clear hg hi4
   refine hK.out _ _ hS.lt (fun _=>?_)
   clear hK K
   try simp only [Act.put,SL]
   refine tk 6 (⟨some 2,.assign (.tmp 12),29,"l08_rate.go:223",#[⟨0,.data⟩,⟨3,.chain⟩,⟨0,.phase⟩,{on:=1,ground:=Ground.textOnly Departure.lateStores},{on:=2,ground:=Ground.textOnly Departure.lateStores},{on:=3,ground:=Ground.textOnly Departure.lateStoresUnsure},{on:=4,ground:=Ground.textOnly Departure.lateStores},{on:=5,ground:=Ground.textOnly Departure.lateStores}],none⟩) ?_
   refine rd 1 (⟨some 13,.buildSlice 101 3 #[(0,.const (Value.int IntKind.i64 (-1))),(1,.const (Value.int IntKind.i64 1000000000000000)),(2,.const (Value.int IntKind.i64 1000000000000001))],101,"l08_rate.go:223",#[{on:=6,ground:=Ground.gcOnly Departure.lateStores}],none⟩) (fun K hK=>?_)
   go_simp
   try go_wp2_with fail
   obtain ⟨qa,hqa⟩:∃q,q=q1.alloc (Obj.cells (List.map (Value.int .i64) [-1,1000000000000000,1000000000000001]).toArray 2):=⟨_,rfl⟩
   have hal:Below q1.heap.size q1 qa:=by rw [hqa];exact (Below.refl _ _).alloc (Nat.le_refl _) _
   have hsa:=hS.kept (rgrown hal none) (fun k e=>by cases e)
   have hba:=hbn.trans (hal.mono hbn.size)
   have hla:=hln.below hal
   have hcx:Hid (∀i X,([-1,1000000000000000,1000000000000001]:List Int)[i]? = some X→qa.cell? ⟨q1.heap.size,i,none⟩=some (.int .i64 X)):=H_ (fun i X hX=>by rw [hqa];exact ints_cell q1 _ _ i X hX)
   have hU0l:q1.heap.size<qa.heap.size:=by rw [hqa];simp
   have hUg:w.heap.size<q1.heap.size:=hS.lt
   show K _ (q1.alloc (Obj.cells (List.map (Value.int .i64) [-1,1000000000000000,1000000000000001]).toArray 2))
   rw [←hqa]
   clear hal hqa
   obtain ⟨U0,hU0⟩:∃q,q=q1.heap.size:=⟨_,rfl⟩
   rw [←hU0] at hcx hU0l hUg ⊢
   clear hU0
   refine hK.out _ _ hsa.lt (fun _=>?_)
   clear hK K
   try simp only [Act.put,SL]
   refine tk 4 (⟨some 16,.indexAddr 101 (.tmp 13) (.tmp 15),0,"l08_rate.go:223",#[⟨1,.data⟩,⟨3,.data⟩,{on:=6,ground:=Ground.gcOnly Departure.lateStores}],none⟩) ?_
   refine rd 5 (⟨some 17,.load 2 (.tmp 16),2,"l08_rate.go:223",#[⟨4,.data⟩,{on:=6,ground:=Ground.gcOnly Departure.lateStores}],none⟩) (fun K hK=>?_)
   obtain ⟨i,rfl⟩:∃i:Nat,v4=i:=⟨v4.toNat,by omega⟩
   have hi:i<3:=by omega
   obtain ⟨X,hX⟩:∃X:Int,([-1,1000000000000000,1000000000000001]:List Int)[i]? = some X:=⟨_,List.getElem?_eq_getElem (by simpa using hi)⟩
   have hXb:-2≤X∧X≤1000000000000001:=by
    have hm:=List.mem_of_getElem? hX
    simp only [List.mem_cons,List.not_mem_nil,or_false] at hm
    rcases hm with rfl|rfl|rfl<;>omega
   have cX:=hcx.out i X hX
   have hUl:=hU0l
   go_simp
   try go_wp2_with fail
   refine hK.out _ _ hsa.lt (fun _=>?_)
   clear hK K
   try simp only [Act.put,SL]
   clear cX hX hUl
   refine tk 7 (⟨some 3,.assign (.tmp 17),2,"l08_rate.go:223",#[⟨5,.data⟩,⟨6,.chain⟩,⟨0,.phase⟩,⟨1,.phase⟩,⟨2,.phase⟩,⟨3,.phase⟩,⟨4,.phase⟩,⟨5,.phase⟩,⟨6,.phase⟩],none⟩) ?_
   refine wpAnyH_done (by kernel_rfl) ?_ _
   have HF:Hid (DdrOut w (.returned (.tuple #[.slice (some ⟨gb,0,none⟩) ln cp,.int .i64 X])) qa):=H_ (by
    have e1:=HLN.out
    subst e1
    exact ⟨⟨gb,cp,L,X,rfl,hl4,HNM.out,hla,hXb.1,hXb.2⟩,hba⟩)
   go_wp2_with fail
   refine bodyPost_ret (v:=.tuple #[.slice (some ⟨gb,0,none⟩) ln cp,.int .i64 X]) (by simp [results,Tryz.results19,go_sem]) rfl HF.out
def DtoOut (w:World) (e:Ending) (w':World):Prop:=(∃(gb cp:Nat) (L:List N),e=.returned (.slice (some ⟨gb,0,none⟩) L.length cp)∧L.length≤4∧(∀e∈L,Kn e.i)∧Lis (some ⟨gb,0,none⟩) L w')∧Below w.heap.size w w'
set_option maxRecDepth 100000 in
set_option maxHeartbeats 8000000 in
theorem dto_any (ao:Option Addr) (len cap:Nat) (w:World) (hlen:len≤1048576) (hB:Bytes ao len w) :
 Calls Tryz.prog 21 #[.slice ao len cap] w fun e w'=>DtoOut w e w':=by
 have h1:=H_ (source_any ao len cap w hlen hB)
 clear hB
 go_enter Tryz.func21,Tryz.ntmps21
 go_wp2_with fail
 refine h1.out.mono ?_
 rintro e w1 ⟨rfl,hS1,hb1⟩
 have HS1:=H_ hS1
 have HB1:=H_ hb1
 clear hS1 hb1
 go_wp2_with fail
 refine (some_any ao len cap w.heap.size _ HS1.out).mono ?_
 rintro e w2 ⟨v,L,rfl,hL,hl4⟩
 have HB2:=H_ (below_at HB1.out hL.grew (Nat.le_refl _))
 obtain ⟨gb,cp,rfl,-,-,-,-,hLi⟩:=hL.own.open
 have HNM:=H_ hL.nm
 have HLI:=H_ hLi
 clear hL hLi HS1 HB1
 have HF:Hid (DtoOut w (.returned (.slice (some ⟨gb,0,none⟩) L.length cp)) w2):=H_ ⟨⟨gb,cp,L,rfl,hl4,HNM.out,HLI.out⟩,HB2.out⟩
 generalize L.length=ln at *
 go_wp2_with fail
 go_ret
 exact HF.out
end DrawR
namespace BilR
open LtR WinR
open RowG (Rws getD_mem)
open CatR (Blk Blk.new)
def wsB (ws:List Wd):Bool:=decide (ws.length≤20)&&ws.all wB
theorem wsB_no {ws:List Wd} {k:Nat} (hk:k<ws.length) (h:wB (ws.getD k Wd.zero)=false):wsB ws=false:=by
 have hm:=getD_mem (z:=Wd.zero) ws k hk
 cases hw:wsB ws
 ·rfl
 ·unfold wsB at hw
  simp only [Bool.and_eq_true] at hw
  have:=List.all_eq_true.1 hw.2 _ hm
  rw [h] at this;cases this
theorem wsB_yes {ws:List Wd} (h1:ws.length≤20) (h:∀i,i<ws.length→wB (ws.getD i Wd.zero)=true):wsB ws=true:=by
 unfold wsB
 rw [decide_eq_true h1,Bool.true_and,List.all_eq_true]
 intro x hx
 obtain ⟨i,hi,rfl⟩:=List.getElem_of_mem hx
 have:=h i hi
 simpa [List.getD,hi] using this
set_option maxRecDepth 100000 in
set_option maxHeartbeats 4000000 in
theorem iwins_in (ao:Option Addr) (cap:Nat) (ws:List Wd) (w:World) (hlen:ws.length≤1048576) (hI:Wns ao ws w)
 (hw:∀k,k<ws.length→∀ta tc ha hc W,Below w.heap.size w W→Tgs ta (ws.getD k Wd.zero).ts W→Hrs ha (ws.getD k Wd.zero).hs W→Calls Tryz.prog 92 #[.agg (wcells (ws.getD k Wd.zero) ta tc ha hc)] W fun e w'=>e=.returned (.bool (wB (ws.getD k Wd.zero)))∧Below W.heap.size W w') :
 Calls Tryz.prog 43 #[.slice ao ws.length cap] w fun e w'=>e=.returned (.bool (wsB ws))∧Below w.heap.size w w':=by
 have HI:=H_ hI
 have HWR:=H_ hw
 have HF:Hid (∀k,k<ws.length→wB (ws.getD k Wd.zero)=false→wsB ws=false):=H_ (fun k hk h=>wsB_no hk h)
 have HG:Hid (20<ws.length→wsB ws=false):=H_ (fun h=>by unfold wsB;rw [decide_eq_false (by omega)];rfl)
 have HY:Hid (ws.length≤20→(∀i,i<ws.length→wB (ws.getD i Wd.zero)=true)→wsB ws=true):=H_ (fun h h2=>wsB_yes h h2)
 generalize wsB ws=R at *
 obtain ⟨len,hl⟩:∃len,len=ws.length:=⟨_,rfl⟩
 have HL:=H_ hl
 rw [←hl] at hlen HF HG HY ⊢
 clear hI hw hl
 by_cases h16:20<len
 ·have h2:(20:Int)<(len:Int):=by omega
  have HR:=H_ (HG.out h16)
  go_enter Tryz.func43,Tryz.ntmps43
  go_wp2_with fail
  go_ret
  exact ⟨ret_bool HR.out.symm,Below.refl _ _⟩
 have h2:¬(20:Int)<(len:Int):=by omega
 go_enter Tryz.func43,Tryz.ntmps43
 go_wp2_with fail
 go_loopw [10] (fun z wr=>∃k:Nat,k≤len∧z=.int .i64 k∧Hid (∀i,i<k→wB (ws.getD i Wd.zero)=true)∧Hid (Below w.heap.size w wr)) (fun z _=>len-(intOf z).toNat)
 case atStart=>exact ⟨0,by omega,rfl,H_ (fun i hi=>absurd hi (by omega)),H_ (Below.refl _ _)⟩
 case round =>
  obtain ⟨k,hk,rfl,HK,HB⟩:=hrel
  by_cases hlt:k<len
  ·have hlt2:(k:Int)<(len:Int):=by omega
   obtain ⟨b,off,ta,tc,ha,hc,rfl,hbl,c0,c1,c2,c3,c4,c5,c6,c7,hT,hH⟩:=(HI.out.below HB.out).at k (by have:=HL.out;omega)
   have hlk:k<ws.length:=by have:=HL.out;omega
   have HWK:=H_ (HWR.out k hlk ta tc ha hc)
   have HFK:=H_ (HF.out k hlt)
   have HMK:Hid (wB (ws.getD k Wd.zero)=true→∀i,i<k+1→wB (ws.getD i Wd.zero)=true):=H_ (fun h i hi=>by
    by_cases e:i=k
    ·subst e;exact h
    ·exact HK.out i (by omega))
   obtain ⟨X,hX⟩:∃z,z=ws.getD k Wd.zero:=⟨_,rfl⟩
   rw [←hX] at c0 c1 c2 c3 c4 c5 c6 c7 hT hH HWK HFK HMK
   generalize hqw:wB X=bw at *
   clear hqw hX
   obtain ⟨xa,xm,xo,xe,xs,xx,xt,xh⟩:=X
   dsimp only [wcells] at c0 c1 c2 c3 c4 c5 c6 c7 hT hH HWK
   obtain ⟨W1,hW1⟩:∃z,z=wr.alloc (.cells #[.string xa,.string xm,.int .i64 xo,.int .i64 xe,.int .i64 xs,.int .i64 xx,.slice ta xt.length tc,.slice ha xh.length hc] 74):=⟨_,rfl⟩
   have hal:Below wr.heap.size wr W1:=by rw [hW1];exact (Below.refl _ _).alloc (Nat.le_refl _) _
   have HB1:=H_ (HB.out.trans (hal.mono HB.out.size))
   have HW1:=H_ hW1
   have HWK1:=H_ (HWK.out W1 HB1.out (hT.below hal) (hH.below hal))
   clear hT hH hal hW1 HWK HWR
   generalize xt.length=tl at *
   generalize xh.length=hl at *
   go_wp2_with fail
   rw [←HW1.out]
   clear HW1 c0 c1 c2 c3 c4 c5 c6 c7
   refine HWK1.out.mono ?_
   rintro e w2 ⟨rfl,hb⟩
   have HB2:=H_ (HB1.out.trans (hb.mono HB1.out.size))
   clear hb HB1 HWK1
   cases bw
   ·have HR:=H_ (HFK.out rfl)
    go_wp2_with fail
    go_ret
    exact ⟨ret_bool HR.out.symm,HB2.out⟩
   have HK2:=H_ (HMK.out rfl)
   go_wp2_with fail
   go_roundw
   case rel=>exact ⟨k+1,by omega,by go_num,HK2,HB2⟩
   case measure=>simp [intOf];omega
  ·have hlt2:¬(k:Int)<(len:Int):=by omega
   obtain rfl:k=len:=by omega
   have HR:=H_ (HY.out (by omega) HK.out)
   go_wp2_with fail
   go_ret
   exact ⟨ret_bool HR.out.symm,HB.out⟩
theorem ris_of {rs:List WP} (hs:rs.Pairwise (fun x y=>lt y.d.m x.d.m=false)) (ha:∀i,1≤i→i<rs.length→(rs.getD i WP.zero).d.m≠(rs.getD (i-1) WP.zero).d.m):Ris (fun p:WP=>p.d.m) rs:=by
 have adj:∀i (h:i+1<rs.length),lt (rs[i]'(by omega)).d.m rs[i+1].d.m=true:=by
  intro i h
  have h1:=List.pairwise_iff_getElem.1 hs i (i+1) (by omega) h (by omega)
  have h2:=ha (i+1) (by omega) h
  simp only [Nat.add_sub_cancel] at h2
  rw [show rs.getD (i+1) WP.zero=rs[i+1] by simp [List.getD,h],show rs.getD i WP.zero=rs[i]'(by omega) by simp [List.getD,show i<rs.length by omega]] at h2
  cases h3:lt (rs[i]'(by omega)).d.m rs[i+1].d.m
  ·exact absurd (lt_total h1 h3) h2
  ·rfl
 refine List.pairwise_iff_getElem.2 (fun i j hi hj hij=>?_)
 obtain ⟨d,rfl⟩:∃d,j=i+1+d:=⟨j-i-1,by omega⟩
 clear hij
 induction d with
 | zero=>exact adj i hj
 | succ d ih=>exact lt_trans (ih (by omega)) (adj (i+1+d) hj)
theorem not_ris {rs:List WP} {i:Nat} (h1:1≤i) (hi:i<rs.length) (h:(rs.getD i WP.zero).d.m=(rs.getD (i-1) WP.zero).d.m):¬(rs.map (fun p:WP=>p.d.m)).Nodup:=by
 intro hn
 have h2:=List.pairwise_iff_getElem.1 hn (i-1) i (by simp;omega) (by simpa using hi) (by omega)
 rw [show rs.getD i WP.zero=rs[i] by simp [List.getD,hi],show rs.getD (i-1) WP.zero=rs[i-1]'(by omega) by simp [List.getD,show i-1<rs.length by omega]] at h
 exact h2 (by simp [h])
theorem bdrewN {B:Nat} {a w:World} (h:Below B a w) (n:Nat):Below B a (w.drewN n):=⟨h.os,h.tape,h.output,h.size,h.block⟩
def TwR (rs:List WP) (e:Ending):Prop:=∃r,e=.returned (.bool r)∧(r=true→¬(rs.map (fun p:WP=>p.d.m)).Nodup)∧(r=false→Ris (fun p:WP=>p.d.m) rs)
set_option maxRecDepth 100000 in
set_option maxHeartbeats 4000000 in
theorem twice_one (ao:Option Addr) (cap:Nat) (rs:List WP) (w:World) (hlen:rs.length≤1048576) (hs:rs.Pairwise (fun x y=>lt y.d.m x.d.m=false)) (hI:Rws 8 WP.cells WP.zero ao rs w) :
 Calls Tryz.prog 96 #[.slice ao rs.length cap] w fun e w'=>TwR rs e∧Below w.heap.size w w':=by
 have HI:=H_ hI
 have HN:Hid (∀i,1≤i→i<rs.length→(rs.getD i WP.zero).d.m=(rs.getD (i-1) WP.zero).d.m→¬(rs.map (fun p:WP=>p.d.m)).Nodup):=H_ (fun i h1 h2 h3=>not_ris h1 h2 h3)
 have HY:Hid ((∀i,1≤i→i<rs.length→(rs.getD i WP.zero).d.m≠(rs.getD (i-1) WP.zero).d.m)→Ris (fun p:WP=>p.d.m) rs):=H_ (fun h=>ris_of hs h)
 obtain ⟨len,hl⟩:∃len,len=rs.length:=⟨_,rfl⟩
 have HL:=H_ hl
 rw [←hl] at hlen HN HY ⊢
 clear hI hs hl
 go_enter Tryz.func96,Tryz.ntmps96
 go_wp2_with fail
 go_loopw [3] (fun z wr=>∃k:Nat,1≤k∧(k≤len∨k=1)∧z=.int .i64 k∧Hid (∀i,1≤i→i<k→(rs.getD i WP.zero).d.m≠(rs.getD (i-1) WP.zero).d.m)∧Hid (Below w.heap.size w wr)) (fun z _=>len-(intOf z).toNat)
 case atStart=>exact ⟨1,by omega,by omega,rfl,H_ (fun i h1 hi=>absurd hi (by omega)),H_ (Below.refl _ _)⟩
 case round =>
  obtain ⟨k,hk1,hk,rfl,HK,HB⟩:=hrel
  by_cases hlt:k<len
  ·have hlt2:(k:Int)<(len:Int):=by omega
   have HW:=H_ (HI.out.below HB.out)
   obtain ⟨b,off,e0,hbl,hc⟩:∃b off,ao=some ⟨b,off,none⟩∧b<wr.heap.size∧∀j,j<rs.length→∀i,i<8→wr.cell? ⟨b,off+j*8+i,none⟩=(rs.getD j WP.zero).cells[i]?:=by
    rcases HW.out with h0|⟨b,off,e,hl,hc⟩
    ·have:=HL.out;omega
    ·exact ⟨b,off,e,hl,hc⟩
   subst e0
   have c1:=hc k (by have:=HL.out;omega) 1 (by omega)
   have d1:=hc (k-1) (by have:=HL.out;omega) 1 (by omega)
   have HNK:=H_ (HN.out k hk1 hlt)
   have HMK:Hid ((rs.getD k WP.zero).d.m≠(rs.getD (k-1) WP.zero).d.m→∀i,1≤i→i<k+1→(rs.getD i WP.zero).d.m≠(rs.getD (i-1) WP.zero).d.m):=H_ (fun h i h1 hi=>by
    by_cases e:i=k
    ·subst e;exact h
    ·exact HK.out i h1 (by omega))
   generalize rs.getD k WP.zero=X at *
   generalize rs.getD (k-1) WP.zero=Y at *
   simp only [WP.cells,List.getElem?_cons_zero,List.getElem?_cons_succ] at c1 d1
   generalize X.d.m=xm at *
   generalize Y.d.m=ym at *
   obtain ⟨j,hj⟩:∃j,j=k-1:=⟨_,rfl⟩
   rw [←hj] at d1
   have hjl:(j:Int)<(len:Int):=by omega
   have hw1:IntKind.i64.wrap ((k:Int)-1)=(j:Int):=by rw [IntKind.wrap_i64];omega
   have HJ:=H_ hj
   clear hj
   clear hc HW
   cases hq:(xm.toList==ym.toList)
   ·have hne:xm≠ym:=fun e=>by subst e;simp at hq
    have HK2:=H_ (HMK.out hne)
    go_wp2_with fail
    go_quiet (fail)
    go_wp2_with fail
    go_roundw
    case rel=>exact ⟨k+1,by omega,by omega,by go_num,HK2,H_ (bdrewN HB.out _)⟩
    case measure=>simp [intOf];omega
   ·have he:xm=ym:=toList_inj (by simpa using hq)
    have HR:=H_ (HNK.out he)
    go_wp2_with fail
    go_quiet (fail)
    go_wp2_with fail
    go_ret
    exact ⟨⟨true,rfl,fun _=>HR.out,fun h=>by cases h⟩,bdrewN HB.out _⟩
  ·have hlt2:¬(k:Int)<(len:Int):=by omega
   have HR:=H_ (HY.out (fun i h1 hi=>HK.out i h1 (by omega)))
   go_wp2_with fail
   go_ret
   exact ⟨⟨false,rfl,fun h=>(by cases h),fun _=>HR.out⟩,HB.out⟩
end BilR
namespace BilR
open LtR WinR LinR
open RowG (getD_mem)
open CatR (Me Ca Cr mFd mN MsRight CsRight MRight rO rt rt_bd caB crF cA cM name_cases)
theorem pk_in {B:Int}:∀(hs:List H) (p:Int),(∀x∈hs,0≤x.s∧x.s≤B)→0≤p→p≤B→0≤hs.foldl (fun p x=>grt p x.s) p∧hs.foldl (fun p x=>grt p x.s) p≤B
 | [],p,_,h1,h2=>⟨h1,h2⟩
 | x::hs,p,h,h1,h2=>by
  have hx:=h x (List.mem_cons_self ..)
  rw [List.foldl_cons]
  refine pk_in hs _ (fun y hy=>h y (List.mem_cons_of_mem _ hy)) ?_ ?_<;>(unfold grt;split<;>omega)
theorem wB_name {x:Wd} (h:wB x=true):NameR.nameB x.m=true:=by
 unfold wB namedB at h
 simp only [Bool.and_eq_true] at h
 exact h.1.2.1
theorem valV_in {x:Wd} (h:wB x=true) (g:Int):0≤valV x g∧valV x g≤1000000000000:=by
 unfold wB at h
 simp only [Bool.and_eq_true] at h
 obtain ⟨_,hc,ht,hh⟩:=h
 obtain ⟨_,hs,hm⟩:=counted_su hc
 unfold tagsB at ht
 simp only [Bool.and_eq_true,decide_eq_true_eq] at ht
 have ht:=ht.1
 unfold timedB hoursB at hh
 simp only [Bool.and_eq_true] at hh
 have hk:0≤pk x.hs∧pk x.hs≤x.su:=pk_in x.hs 0 (fun y hy=>by
  have:=List.all_eq_true.1 hh.2.2.1 y hy
  unfold hOk at this
  simp only [Bool.and_eq_true,decide_eq_true_eq] at this
  exact this.2) (by omega) hs.1
 unfold valV
 split
 ·exact hs
 ·split
  ·omega
  ·split
   ·omega
   ·split<;>omega
def hasM (ms:List Me) (t:ByteArray):Bool:=ms.any (fun m=>m.n.toList==t.toList)
theorem hasM_iff {ms:List Me} {t:ByteArray}:hasM ms t=true↔∃k,k<ms.length∧CatR.mN ms k=t:=by
 unfold hasM
 rw [List.any_eq_true]
 constructor
 ·rintro ⟨m,hm,h⟩
  obtain ⟨k,hk,rfl⟩:=List.getElem_of_mem hm
  refine ⟨k,hk,?_⟩
  unfold CatR.mN
  rw [show ms.getD k CatR.Me.zero=ms[k] by simp [List.getD,hk]]
  exact toList_inj (by simpa using h)
 ·rintro ⟨k,hk,h⟩
  refine ⟨ms.getD k CatR.Me.zero,getD_mem (z:=CatR.Me.zero) ms k hk,?_⟩
  unfold CatR.mN at h
  rw [h];simp
theorem has_found {ms:List Me} {t:ByteArray} (hR:MsRight ms) (h:hasM ms t=true):MRight (mFd t ms)∧(mFd t ms).n=t:=by
 rcases name_cases ms hR t with ⟨k,hk,h1,h2⟩|⟨h1,_⟩
 ·rw [h2]
  exact ⟨(hR.2 k hk).1,h1⟩
 ·obtain ⟨k,hk,h2⟩:=hasM_iff.1 h
  exact absurd h2 (h1 k hk)
theorem has_none {ms:List Me} {t:ByteArray} (hR:MsRight ms) (h:hasM ms t=false):mFd t ms=CatR.Me.zero:=by
 rcases name_cases ms hR t with ⟨k,hk,h1,h2⟩|⟨_,h2⟩
 ·rw [hasM_iff.2 ⟨k,hk,h1⟩] at h;cases h
 ·exact h2
def useV (ms:List Me) (x:Wd):Int:=valV x (mFd x.m ms).g
def rC (ms:List Me) (x:Wd):Int:=(rO (mFd x.m ms) (useV ms x)).2
def rN (ms:List Me) (x:Wd):N:=⟨(mFd x.m ms).n,(rO (mFd x.m ms) (useV ms x)).1⟩
def ratC (ms:List Me):List Wd→Int
 | []=>0
 | x::l=>if rC ms x=0 then ratC ms l else rC ms x
theorem ratC_hit {ms:List Me}:∀{l:List Wd} {k:Nat},k<l.length→(∀i,i<k→rC ms (l.getD i Wd.zero)=0)→rC ms (l.getD k Wd.zero)≠0→ratC ms l=rC ms (l.getD k Wd.zero)
 | [],_,h,_,_=>absurd h (by simp)
 | x::l,0,_,_,h=>by
  have h':rC ms x≠0:=h
  unfold ratC
  rw [if_neg h'];rfl
 | x::l,k+1,hk,h0,h=>by
  have hx:rC ms x=0:=h0 0 (by omega)
  unfold ratC
  rw [if_pos hx]
  exact ratC_hit (k:=k) (by simpa using hk) (fun i hi=>h0 (i+1) (by omega)) h
theorem ratC_none {ms:List Me}:∀{l:List Wd},(∀i,i<l.length→rC ms (l.getD i Wd.zero)=0)→ratC ms l=0
 | [],_=>rfl
 | x::l,h=>by
  have hx:rC ms x=0:=h 0 (by simp)
  unfold ratC
  rw [if_pos hx]
  exact ratC_none (fun i hi=>h (i+1) (by simpa using hi))
theorem rO_cases {m:Me} {u:Int} (h:MRight m) (hu:0≤u∧u≤1000000000000):((rO m u).2=0∧0≤(rO m u).1∧(rO m u).1≤1000000000000000)∨rO m u=(0,12):=by
 have h1:=(rt_bd h hu).1
 unfold rO
 split
 ·rename_i q
  exact .inl ⟨rfl,h1,q⟩
 ·exact .inr rfl
def nodB:List ByteArray→Bool
 | []=>true
 | x::l=>!(l.any (fun y=>y.toList==x.toList))&&nodB l
theorem nodB_iff:∀{l:List ByteArray},nodB l=true↔l.Nodup
 | []=>by simp [nodB]
 | x::l=>by
  unfold nodB
  rw [Bool.and_eq_true,nodB_iff (l:=l),List.nodup_cons]
  refine and_congr_left (fun _=>?_)
  rw [Bool.not_eq_true',List.any_eq_false]
  constructor
  ·intro h hx
   exact h x hx (by simp)
  ·intro h y hy e
   exact h (by rw [←toList_inj (by simpa using e:y.toList=x.toList)];exact hy)
def ownW (a:ByteArray) (x:Wd):Bool:=x.a.toList==a.toList
def billR (c:Ca) (a:ByteArray) (ws:List Wd):List N × Int :=
 let own:=ws.filter (ownW a)
 if own.all (fun x=>hasM c.ms x.m)=false then ([],6)
 else if nodB (own.map Wd.m)=false then ([],10)
 else if ratC c.ms (srt Wd.m own)≠0 then ([],ratC c.ms (srt Wd.m own))
 else (drawL (crF a c.cs) (((srt Wd.m own).map (rN c.ms)).filter nz),0)
def billB (c:Ca) (a:ByteArray) (ws:List Wd):List N × Int :=
 if 8000<a.size∨400<ws.length then ([],2)
 else if (caB c&&NameR.nameB a&&wsB ws)=true then billR c a ws else ([],1)
theorem sub_len:∀{a b:List ByteArray},a.Nodup→(∀x∈a,x∈b)→a.length≤b.length
 | [],b,_,_=>Nat.zero_le _
 | x::a,b,h,hs=>by
  obtain ⟨h1,h2⟩:=List.nodup_cons.1 h
  obtain ⟨s,t,rfl⟩:=List.append_of_mem (hs x (List.mem_cons_self ..))
  have:=sub_len (a:=a) (b:=s++t) h2 (fun y hy=>by
   have hy':=hs y (List.mem_cons_of_mem _ hy)
   simp only [List.mem_append,List.mem_cons] at hy' ⊢
   rcases hy' with q|q|q
   ·exact .inl q
   ·subst q;exact absurd hy h1
   ·exact .inr q)
  simp only [List.length_append,List.length_cons] at this ⊢
  omega
theorem sok_of {es:List N} (hp:es.Pairwise (fun x y=>lt x.i y.i=true)) (ho:∀e∈es,lOk e=true):SOk es es.length:=by
 intro i hi
 have hm:=getD_mem (z:=N.zero) es i hi
 refine ⟨?_,ho _ hm⟩
 cases i with
 | zero =>
  have h1:=ho _ hm
  unfold lOk at h1
  simp only [Bool.and_eq_true] at h1
  exact lt_empty (CatR.name_le h1.1).1
 | succ i =>
  have h1:=List.pairwise_iff_getElem.1 hp i (i+1) (by omega) hi (by omega)
  show lt (es.getD i N.zero).i (es.getD (i+1) N.zero).i=true
  rw [show es.getD (i+1) N.zero=es[i+1] by simp [List.getD,hi],show es.getD i N.zero=es[i]'(by omega) by simp [List.getD,show i<es.length by omega]]
  exact h1
theorem cr_in {cs:List Cr} (h:CsRight cs) (t:ByteArray):0≤crF t cs∧crF t cs≤1000000000000:=by
 by_cases q:∃k,k<cs.length∧cA cs k=t∧∀i,i<k→cA cs i≠t
 ·obtain ⟨k,hk,he,hi⟩:=q
  rw [CatR.crF_hit t cs k hk hi he]
  exact (h.2 k hk).1.2
 ·have hn:∀n,n≤cs.length→∀i,i<n→cA cs i≠t:=by
   intro n
   induction n with
   | zero=>exact fun _ i hi=>absurd hi (by omega)
   | succ n ih =>
    intro hn i hi e
    have ih':=ih (by omega)
    by_cases e2:i=n
    ·subst e2;exact q ⟨i,hn,e,ih'⟩
    ·exact ih' i (by omega) e
  rw [CatR.crF_none t cs (hn cs.length (Nat.le_refl _))]
  omega
theorem lines_right {ms:List Me} {S:List Wd} (hR:MsRight ms) (hS:Ris Wd.m S) (hh:∀x∈S,hasM ms x.m=true) (hw:∀x∈S,wB x=true) (h0:∀x∈S,rC ms x=0):SRight ((S.map (rN ms)).filter nz):=by
 have hn:∀x∈S,(rN ms x).i=x.m:=fun x hx=>(has_found hR (hh x hx)).2
 have hp:((S.map (rN ms)).filter nz).Pairwise (fun x y=>lt x.i y.i=true):=by
  refine List.Pairwise.filter _ ?_
  rw [List.pairwise_map]
  exact hS.imp_of_mem (fun {x y} hx hy h=>by rw [hn x hx,hn y hy];exact h)
 refine ⟨?_,sok_of hp (fun e he=>?_)⟩
 ·have h1:=List.length_filter_le nz (S.map (rN ms))
  rw [List.length_map] at h1
  have h2:=sub_len (ris_nodup hS) (b:=ms.map (fun m=>m.n)) (fun t ht=>by
   obtain ⟨x,hx,rfl⟩:=List.mem_map.1 ht
   obtain ⟨k,hk,e⟩:=hasM_iff.1 (hh x hx)
   rw [←e]
   exact List.mem_map.2 ⟨ms.getD k CatR.Me.zero,getD_mem (z:=CatR.Me.zero) ms k hk,rfl⟩)
  simp only [List.length_map] at h2
  have:=hR.1
  omega
 ·obtain ⟨h1,h2⟩:=List.mem_filter.1 he
  obtain ⟨x,hx,rfl⟩:=List.mem_map.1 h1
  obtain ⟨f1,f2⟩:=has_found hR (hh x hx)
  have hz:rC ms x=0:=h0 x hx
  have hb:0≤(rN ms x).n∧(rN ms x).n≤1000000000000000:=by
   rcases rO_cases f1 (valV_in (hw x hx) (mFd x.m ms).g) with ⟨_,q⟩|q
   ·exact q
   ·unfold rC useV at hz
    rw [q] at hz;cases hz
  unfold nz at h2
  simp only [decide_eq_true_eq] at h2
  unfold lOk nOk
  rw [hn x hx,wB_name (hw x hx),decide_eq_true (by omega),decide_eq_true h2];rfl
end BilR
end Go.Proofs.YtcilbmhkhllmjaaGreatDoor
