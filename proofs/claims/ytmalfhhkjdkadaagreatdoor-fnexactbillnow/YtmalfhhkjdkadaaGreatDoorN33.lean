/-
  BillNow on both sides: what an engine's windows of an account and month come to, where the engine is right. The conditions: sizes of at most 1048576; the program's variables hold what its text lays.
  The answers of BillOf and BillNow: read, of one's own, held against one another, marked. The conditions: sizes of at most 1048576.
-/
import Derived.Test.YtmalfhhkjdkadaaGreatDoorN32
namespace Go.Proofs.YtmalfhhkjdkadaaGreatDoor
open Go.ChangeShapes Go.WideShapes Go.ChangeAt Go.RowKit
set_option linter.unusedVariables false
namespace EngR
open CatR
open WinR (Wd Wns wB)
open BilR (BlO billB billR wsB inW alB Z2 below2 made_two)
open LinR (N)
open RowG (MadeG made_nil)
def bnB (x:Eng) (v:Int) (a:ByteArray) (m:Int):List N × Int:=if 8000<a.size then ([],2) else bif engB x v then billB x.c a (x.ws.filter (inW a m)) else ([],1)
theorem engB_ca {x:Eng} {v:Int} (h:engB x v=true):caB x.c=true:=by
 unfold engB at h
 simp only [Bool.and_eq_true] at h
 exact h.1.1.1.1.1
theorem engB_ws {x:Eng} {v:Int} (h:engB x v=true) (p:Wd→Bool):(x.ws.filter p).length≤16∧wsB (x.ws.filter p)=true:=by
 unfold engB winB at h
 simp only [Bool.and_eq_true] at h
 have h1:=of_decide_eq_true h.2.1
 have h2:=List.all_eq_true.1 h.2.2
 have h3:=List.length_filter_le p x.ws
 refine ⟨by omega,?_⟩
 unfold wsB
 rw [decide_eq_true (by omega),Bool.true_and,List.all_eq_true]
 intro y hy
 obtain ⟨k,hk,rfl⟩:=List.getElem_of_mem (List.mem_filter.1 hy).1
 have h4:=h2 k (List.mem_range.2 hk)
 unfold wok at h4
 simp only [Bool.and_eq_true] at h4
 have h5:=h4.1.1.1
 rwa [show x.ws.getD k Wd.zero=x.ws[k] by simp [List.getD,hk]] at h5
theorem bn_long {x:Eng} {v:Int} {a:ByteArray} {m:Int} (h:8000<a.size):bnB x v a m=([],2):=by unfold bnB;rw [if_pos h]
theorem bn_ill {x:Eng} {v:Int} {a:ByteArray} {m:Int} (h:¬8000<a.size) (he:engB x v=false):bnB x v a m=([],1):=by unfold bnB;rw [if_neg h,he];rfl
theorem bn_one {x:Eng} {v:Int} {a:ByteArray} {m:Int} (h:¬8000<a.size) (he:engB x v=true):bnB x v a m=billB x.c a (x.ws.filter (inW a m)):=by unfold bnB;rw [if_neg h,he];rfl
theorem bn_name {x:Eng} {v:Int} {a:ByteArray} {m:Int} (h:¬8000<a.size) (he:engB x v=true) (hn:NameR.nameB a=false):bnB x v a m=([],1):=by
 rw [bn_one h he]
 unfold billB
 have:=(engB_ws he (inW a m)).1
 rw [if_neg (by omega),hn,Bool.and_false,Bool.false_and,if_neg Bool.false_ne_true]
theorem bn_right {x:Eng} {v:Int} {a:ByteArray} {m:Int} (h:¬8000<a.size) (he:engB x v=true) (hn:NameR.nameB a=true):bnB x v a m=billR x.c a (x.ws.filter (inW a m)):=by
 rw [bn_one h he]
 unfold billB
 have:=(engB_ws he (inW a m)).1
 rw [if_neg (by omega),hn,engB_ca he,(engB_ws he (inW a m)).2]
 rfl
theorem blo_low {w w1 w2:World} {D:List N × Int} {e:Ending} (h:BlO w1 D e w2) (hb:Below w.heap.size w w1):BlO w D e w2:=by
 obtain ⟨ao,cap,rfl,hm,h2⟩:=h
 exact ⟨ao,cap,rfl,hm.low hb.size,hb.trans (h2.mono hb.size)⟩
theorem blo_nil {w w2:World} {D:List N × Int} {c:Int} (hD:D=([],c)) (hb:Below w.heap.size w w2):BlO w D (.returned (.agg #[.slice none 0 0,.int .i64 c])) w2:=by
 subst hD
 exact ⟨none,0,rfl,made_nil _ _ _,hb⟩
theorem small_in {x:Eng} (hS:x.Small) {q:Wd→Bool}:∀i,i<(x.ws.filter q).length→((x.ws.filter q).getD i Wd.zero).Small:=fun i hi=>by
 have h:=RowG.getD_mem (z:=Wd.zero) (x.ws.filter q) i hi
 obtain ⟨k,hk,e⟩:=List.getElem_of_mem (List.mem_filter.1 h).1
 rw [←e]
 have:=hS.ws k hk
 rwa [show x.ws.getD k Wd.zero=x.ws[k] by simp [List.getD,hk]] at this
def BnX (w:World) (b c:Nat) (v0 v1 v4 p0 p1:Value) (W:World):Prop:=Below w.heap.size w W∧b<W.heap.size∧c<W.heap.size∧W.cell? ⟨b,0,none⟩=some v0∧W.cell? ⟨b,1,none⟩=some v1∧W.cell? ⟨b,4,none⟩=some v4∧W.cell? ⟨c,0,none⟩=some p0∧W.cell? ⟨c,1,none⟩=some p1
theorem BnX.below {w:World} {b c:Nat} {v0 v1 v4 p0 p1:Value} {W W':World} (h:BnX w b c v0 v1 v4 p0 p1 W) (hb:Below W.heap.size W W'):BnX w b c v0 v1 v4 p0 p1 W':=by
 obtain ⟨h0,l1,l2,c0,c1,c4,d0,d1⟩:=h
 have f:=fun o=>hb.cell (p:=⟨b,o,none⟩) l1
 have g:=fun o=>hb.cell (p:=⟨c,o,none⟩) l2
 have:=hb.size
 exact ⟨h0.trans (hb.mono h0.size),by omega,by omega,(f _).trans c0,(f _).trans c1,(f _).trans c4,(g _).trans d0,(g _).trans d1⟩
theorem BnX.put {w:World} {b c:Nat} {v0 v1 v4 p0 p1:Value} {W:World} (h:BnX w b c v0 v1 v4 p0 p1 W) {p:Nat} (hp:w.heap.size≤p) (hb:b≠p) (hc:c≠p) (x y:Value):BnX w b c v0 v1 v4 p0 p1 ((W.setCell ⟨p,0,none⟩ x).setCell ⟨p,1,none⟩ y):=by
 obtain ⟨h0,l1,l2,c0,c1,c4,d0,d1⟩:=h
 have hg:=RowG.grown_set W p 0 x
 have hg2:=RowG.grown_set (W.setCell ⟨p,0,none⟩ x) p 1 y
 have f:=fun o=>(World.cell?_of_block (a:=⟨b,o,none⟩) (hg2.block b (by simpa using l1) (by simpa using hb))).trans (World.cell?_of_block (a:=⟨b,o,none⟩) (hg.block b l1 (by simpa using hb)))
 have g:=fun o=>(World.cell?_of_block (a:=⟨c,o,none⟩) (hg2.block c (by simpa using l2) (by simpa using hc))).trans (World.cell?_of_block (a:=⟨c,o,none⟩) (hg.block c l2 (by simpa using hc)))
 exact ⟨below2 h0 hp x y,by simpa using l1,by simpa using l2,(f _).trans c0,(f _).trans c1,(f _).trans c4,(g _).trans d0,(g _).trans d1⟩
set_option maxRecDepth 100000 in
set_option maxHeartbeats 4000000 in
theorem bin_in (ma:Option Addr) (ml mc:Nat) (ca:Option Addr) (cl cc:Nat) (sa:Option Addr) (sl sc:Nat) (ea:Option Addr) (el ec:Nat) (ua:Option Addr) (ul uc:Nat) (da:Option Addr) (dl dc:Nat) (fr:Int) (a:ByteArray) (m:Int) (ws:List Wd) (D:List N × Int) (w:World)
 (h1:∀W,Below w.heap.size w W→Calls Tryz.prog 76 #[.slice ua ul uc,.agg #[.string a,.int .i64 m]] W fun e w'=>(∃bo cap,e=.returned (.slice bo ws.length cap)∧Wns bo ws w')∧Below W.heap.size W w')
 (h2:∀bo cap W,Below w.heap.size w W→Wns bo ws W→Calls Tryz.prog 75 #[.agg #[.slice ma ml mc,.slice ca cl cc],.string a,.slice bo ws.length cap] W fun e w'=>BlO W D e w') :
 Calls Tryz.prog 29 #[.agg #[.slice ma ml mc,.slice ca cl cc,.slice sa sl sc,.slice ea el ec,.slice ua ul uc,.slice da dl dc,.int .i64 fr],.agg #[.string a,.int .i64 m]] w fun e w'=>BlO w D e w':=by
 have H1:=hid_intro h1
 have H2:=hid_intro h2
 clear h1 h2
 generalize ws.length=n at *
 obtain ⟨W0,hW0⟩:∃z,z=((w.alloc (.cells #[.slice ma ml mc,.slice ca cl cc,.slice sa sl sc,.slice ea el ec,.slice ua ul uc,.slice da dl dc,.int .i64 fr] 46)).alloc (.cells #[.string a,.int .i64 m] 70)).alloc (.cells #[.slice none 0 0,.int .i64 0] 35):=⟨_,rfl⟩
 have HB:Hid (Below w.heap.size w W0):=hid_intro (by rw [hW0];exact (((Below.refl _ _).alloc (Nat.le_refl _) _).alloc (by simp) _).alloc (by simp;omega) _)
 have HA:Hid (Blk w.heap.size [.slice ma ml mc,.slice ca cl cc,.slice sa sl sc,.slice ea el ec,.slice ua ul uc,.slice da dl dc,.int .i64 fr] W0):=hid_intro (by rw [hW0];exact ((Blk.new w _ _).below ((Below.refl _ _).alloc (Nat.le_refl _) _)).below ((Below.refl _ _).alloc (Nat.le_refl _) _))
 have HP:Hid (Blk (w.heap.size+1) [.string a,.int .i64 m] W0):=hid_intro (by rw [hW0];have:=(Blk.new (w.alloc (.cells #[.slice ma ml mc,.slice ca cl cc,.slice sa sl sc,.slice ea el ec,.slice ua ul uc,.slice da dl dc,.int .i64 fr] 46)) [.string a,.int .i64 m] 70).below ((Below.refl _ _).alloc (Nat.le_refl _) (.cells #[.slice none 0 0,.int .i64 0] 35));simpa using this)
 have HZ:Hid (Z2 (w.heap.size+1+1) W0):=hid_intro (by rw [hW0];have:=Z2.new ((w.alloc (.cells #[.slice ma ml mc,.slice ca cl cc,.slice sa sl sc,.slice ea el ec,.slice ua ul uc,.slice da dl dc,.int .i64 fr] 46)).alloc (.cells #[.string a,.int .i64 m] 70)) 35;simpa using this)
 have HW:=hid_intro hW0
 clear hW0
 obtain ⟨B1,hB1⟩:∃z,z=w.heap.size+1+1:=⟨_,rfl⟩
 rw [←hB1] at HZ
 have HBE:=hid_intro hB1
 have hBl:w.heap.size≤B1:=by omega
 clear hB1
 have r0:W0.cell? ⟨w.heap.size,0,none⟩=some (.slice ma ml mc):=HA.out.2 0 (by simp)
 have r1:W0.cell? ⟨w.heap.size,1,none⟩=some (.slice ca cl cc):=HA.out.2 1 (by simp)
 have r4:W0.cell? ⟨w.heap.size,4,none⟩=some (.slice ua ul uc):=HA.out.2 4 (by simp)
 have rL:=HA.out.1
 have p0:W0.cell? ⟨w.heap.size+1,0,none⟩=some (.string a):=HP.out.2 0 (by simp)
 have p1:W0.cell? ⟨w.heap.size+1,1,none⟩=some (.int .i64 m):=HP.out.2 1 (by simp)
 have pL:=HP.out.1
 go_enter Tryz.func29,Tryz.ntmps29
 go_wp2_with fail
 rw [←HW.out,←HBE.out]
 clear HW
 go_wp2_with fail
 have HX2:Hid (BnX w w.heap.size (w.heap.size+1) (.slice ma ml mc) (.slice ca cl cc) (.slice ua ul uc) (.string a) (.int .i64 m) W0.drew):=hid_intro (BnX.below (show BnX w w.heap.size (w.heap.size+1) (.slice ma ml mc) (.slice ca cl cc) (.slice ua ul uc) (.string a) (.int .i64 m) W0 from ⟨HB.out,rL,pL,r0,r1,r4,p0,p1⟩) (Below.refl _ _).drew)
 have HZ2:Hid (Z2 B1 W0.drew):=hid_intro (HZ.out.below (Below.refl _ _).drew)
 have HB3:Hid (w.heap.size<B1∧w.heap.size+1<B1):=hid_intro (by have:=HBE.out;omega)
 clear r0 r1 r4 rL p0 p1 pL HZ
 refine wp_region_held_drew (S:=(fun W=>Below w.heap.size w W∧w.heap.size<W.heap.size∧w.heap.size+1<W.heap.size∧W.cell? ⟨w.heap.size,0,none⟩=some (.slice ma ml mc)∧W.cell? ⟨w.heap.size,1,none⟩=some (.slice ca cl cc)∧W.cell? ⟨w.heap.size,4,none⟩=some (.slice ua ul uc)∧W.cell? ⟨w.heap.size+1,0,none⟩=some (.string a)∧W.cell? ⟨w.heap.size+1,1,none⟩=some (.int .i64 m))) (by kernel_rfl) HX2.out (fun hHeld=>?_)
 generalize W0.drew=kd at *
 refine tk (i:=0) (oi:=⟨some 5,.fieldAddr 46 (.tmp 2) 0,0,"l10_engine.go:293",#[],none⟩) (v:=?_) ?_ ?_
 rotate_left
 ·(intro w hSw;(try dsimp only at hSw);go_simp)<;>with_reducible rfl
 try simp only [Act.put,SL]
 refine tk (i:=1) (oi:=⟨some 6,.load 40 (.tmp 5),40,"l10_engine.go:293",#[⟨0,.data⟩],none⟩) (v:=?_) ?_ ?_
 rotate_left
 ·(intro w hSw;(try dsimp only at hSw);go_simp)<;>with_reducible rfl
 try simp only [Act.put,SL]
 refine tk (i:=2) (oi:=⟨some 7,.fieldAddr 70 (.tmp 3) 0,0,"l10_engine.go:293",#[],none⟩) (v:=?_) ?_ ?_
 rotate_left
 ·(intro w hSw;(try dsimp only at hSw);go_simp)<;>with_reducible rfl
 try simp only [Act.put,SL]
 refine tk (i:=3) (oi:=⟨some 8,.load 9 (.tmp 7),9,"l10_engine.go:293",#[⟨2,.data⟩],none⟩) (v:=?_) ?_ ?_
 rotate_left
 ·(intro w hSw;(try dsimp only at hSw);go_simp)<;>with_reducible rfl
 try simp only [Act.put,SL]
 refine tk (i:=4) (oi:=⟨some 9,.fieldAddr 46 (.tmp 2) 3,0,"l10_engine.go:293",#[],none⟩) (v:=?_) ?_ ?_
 rotate_left
 ·(intro w hSw;(try dsimp only at hSw);go_simp)<;>with_reducible rfl
 try simp only [Act.put,SL]
 refine tk (i:=5) (oi:=⟨some 10,.load 43 (.tmp 9),43,"l10_engine.go:293",#[⟨4,.data⟩],none⟩) (v:=?_) ?_ ?_
 rotate_left
 ·(intro w hSw;(try dsimp only at hSw);go_simp)<;>with_reducible rfl
 try simp only [Act.put,SL]
 refine tk (i:=6) (oi:=⟨some 11,.load 70 (.tmp 3),70,"l10_engine.go:293",#[],none⟩) (v:=?_) ?_ ?_
 rotate_left
 ·(intro w hSw;(try dsimp only at hSw);go_simp)<;>with_reducible rfl
 try simp only [Act.put,SL]
 refine wpAnyH_ready (rs:=[7]) (by kernel_rfl) (by simp) ?_
 refine AllReadyH.cons (o:=⟨some 12,.call {callee:=Callee.value (.func 76),args:=#[.tmp 10,.tmp 11],argTypes:=#[43,70]},43,"l10_engine.go:293",#[⟨5,.data⟩,⟨6,.data⟩],none⟩) rfl (fun K hK=>?_) AllReadyH.nil
 go_simp
 go_at_call 76
 refine (H1.out _ HX2.out.1).mono ?_
 rintro e q1 ⟨⟨bo,cap,rfl,hN⟩,hq1⟩
 try go_wp2_with fail
 have hx1:=HX2.out.below hq1
 have hz1:=HZ2.out.below hq1
 refine hK.out _ _ hx1 (fun _=>?_)
 clear hK K
 try simp only [Act.put,SL]
 refine wpAnyH_ready (rs:=[8]) (by kernel_rfl) (by simp) ?_
 refine AllReadyH.cons (o:=⟨some 13,.call {callee:=Callee.value (.func 75),args:=#[.tmp 6,.tmp 8,.tmp 12],argTypes:=#[40,9,43]},35,"l10_engine.go:293",#[⟨1,.data⟩,⟨3,.data⟩,⟨7,.data⟩,⟨7,.chain⟩],none⟩) rfl (fun K hK=>?_) AllReadyH.nil
 go_simp
 go_at_call 75
 refine (H2.out _ _ _ hx1.1 hN).mono ?_
 rintro e q2 ⟨ao2,cap2,rfl,hm,hq2⟩
 try go_wp2_with fail
 have hx2:=hx1.below hq2
 have hz2:=hz1.below hq2
 have hl2:B1<q1.heap.size:=hz1.1
 refine hK.out _ _ hx2 (fun _=>?_)
 clear hK K
 try simp only [Act.put,SL]
 refine wpAnyH_ready (rs:=[9]) (by kernel_rfl) (by simp) ?_
 refine AllReadyH.cons (o:=⟨none,.store 35 (.tmp 4) (.tmp 13),0,"l10_engine.go:293",#[⟨8,.data⟩,⟨8,.chain⟩,⟨0,.phase⟩,⟨1,.phase⟩,⟨2,.phase⟩,⟨3,.phase⟩,⟨4,.phase⟩,⟨5,.phase⟩,⟨6,.phase⟩,⟨7,.phase⟩,⟨8,.phase⟩],none⟩) rfl (fun K hK=>?_) AllReadyH.nil
 have HMM:=hid_intro (hm.low hx1.1.size)
 have HM7:=hid_intro hm
 have HL2:=hid_intro hl2
 have HB8:=hid_intro hx2.1
 obtain ⟨zl,z0,z1,y0,y1⟩:=hz2
 clear hm hz1
 generalize hn:D.1.length=n1 at *
 generalize hc2:D.2=c2 at *
 go_simp
 try go_wp2_with fail
 have hx3:=hx2.put (p:=B1) (by have:=HB3.out;omega) (by have:=HB3.out;omega) (by have:=HB3.out;omega) (.slice ao2 n1 cap2) (.int .i64 c2)
 refine hK.out _ _ hx3 (fun _=>?_)
 clear hK K
 try simp only [Act.put,SL]
 refine wpAnyH_done (by kernel_rfl) ?_ _
 have HBF:=hid_intro hx3.1
 clear hx1 hx2 hx3 hq1 hq2 hN HX2
 go_wp2_with fail
 refine bodyPost_ret (v:=.agg #[.slice ao2 n1 cap2,.int .i64 c2]) (by simp [results,Tryz.results29,go_sem,z0,z1]) rfl ⟨ao2,cap2,by rw [hc2,hn],?_,HBF.out⟩
 exact made_two HM7.out HMM.out HL2.out
set_option maxRecDepth 100000 in
set_option maxHeartbeats 4000000 in
theorem ibn_in (ma:Option Addr) (ml mc:Nat) (ca:Option Addr) (cl cc:Nat) (sa:Option Addr) (sl sc:Nat) (ea:Option Addr) (el ec:Nat) (ua:Option Addr) (ul uc:Nat) (da:Option Addr) (dl dc:Nat) (fr:Int) (a:ByteArray) (m:Int) (b:Bool) (D T:List N × Int) (w:World)
 (h1:∀W,Below w.heap.size w W→Calls Tryz.prog 28 #[.agg #[.slice ma ml mc,.slice ca cl cc,.slice sa sl sc,.slice ea el ec,.slice ua ul uc,.slice da dl dc,.int .i64 fr]] W fun e w'=>e=.returned (.bool b)∧Below W.heap.size W w')
 (h2:∀W,Below w.heap.size w W→Calls Tryz.prog 29 #[.agg #[.slice ma ml mc,.slice ca cl cc,.slice sa sl sc,.slice ea el ec,.slice ua ul uc,.slice da dl dc,.int .i64 fr],.agg #[.string a,.int .i64 m]] W fun e w'=>BlO W D e w')
 (e0:8000<a.size→T=([],2)) (e1:¬8000<a.size→b=false→T=([],1)) (e2:¬8000<a.size→b=true→T=D) :
 Calls Tryz.prog 7 #[.agg #[.slice ma ml mc,.slice ca cl cc,.slice sa sl sc,.slice ea el ec,.slice ua ul uc,.slice da dl dc,.int .i64 fr],.string a,.int .i64 m] w fun e w'=>BlO w T e w':=by
 have H1:=hid_intro h1
 have H2:=hid_intro h2
 have E0:=hid_intro e0
 have E1:=hid_intro e1
 have E2:=hid_intro e2
 clear h1 h2 e0 e1 e2
 generalize hsz:a.size=sz at *
 obtain ⟨W0,hW0⟩:∃z,z=(w.alloc (.cells #[.slice ma ml mc,.slice ca cl cc,.slice sa sl sc,.slice ea el ec,.slice ua ul uc,.slice da dl dc,.int .i64 fr] 46)).alloc (.cells #[.slice none 0 0,.int .i64 0] 35):=⟨_,rfl⟩
 have HB:Hid (Below w.heap.size w W0):=hid_intro (by rw [hW0];exact ((Below.refl _ _).alloc (Nat.le_refl _) _).alloc (by simp) _)
 have HA:Hid (Blk w.heap.size [.slice ma ml mc,.slice ca cl cc,.slice sa sl sc,.slice ea el ec,.slice ua ul uc,.slice da dl dc,.int .i64 fr] W0):=hid_intro (by rw [hW0];exact (Blk.new w _ _).below ((Below.refl _ _).alloc (Nat.le_refl _) _))
 have HZ:Hid (Z2 (w.heap.size+1) W0):=hid_intro (by rw [hW0];have:=Z2.new (w.alloc (.cells #[.slice ma ml mc,.slice ca cl cc,.slice sa sl sc,.slice ea el ec,.slice ua ul uc,.slice da dl dc,.int .i64 fr] 46)) 35;simpa using this)
 have HW:=hid_intro hW0
 clear hW0
 obtain ⟨B1,hB1⟩:∃z,z=w.heap.size+1:=⟨_,rfl⟩
 rw [←hB1] at HZ
 have HBE:=hid_intro hB1
 have hBl:w.heap.size≤B1:=by omega
 clear hB1
 by_cases qb:8000<sz
 ·have qb2:(8000:Int)<(sz:Int):=by omega
  have HE:=hid_intro (E0.out qb)
  go_enter Tryz.func7,Tryz.ntmps7
  go_wp2_with fail
  refine bodyPost_ret (v:=.agg #[.slice none 0 0,.int .i64 2]) (by simp [results,Tryz.results7,go_sem]) rfl (blo_nil HE.out (((Below.refl _ _).alloc (Nat.le_refl _) _).alloc (by simp) _))
 have qb2:¬(8000:Int)<(sz:Int):=by omega
 go_enter Tryz.func7,Tryz.ntmps7
 go_wp2_with fail
 rw [←HW.out,←HBE.out]
 clear HW
 refine (H1.out _ HB.out).mono ?_
 rintro e w1 ⟨rfl,hb⟩
 replace HB:=hid_intro (HB.out.trans (hb.mono HB.out.size))
 replace HA:=hid_intro (HA.out.below hb)
 replace HZ:=hid_intro (HZ.out.below hb)
 clear hb
 cases b
 ·have HE:=hid_intro (E1.out qb rfl)
  obtain ⟨zl,z0,z1,y0,y1⟩:=HZ.out
  go_wp2_with fail
  refine bodyPost_ret (v:=.agg #[.slice none 0 0,.int .i64 1]) (by simp [results,Tryz.results7,go_sem,z0,z1]) rfl (blo_nil HE.out (below2 HB.out hBl _ _))
 obtain rfl:=E2.out qb rfl
 have r0:w1.cell? ⟨w.heap.size,0,none⟩=some (.slice ma ml mc):=HA.out.2 0 (by simp)
 have r1:w1.cell? ⟨w.heap.size,1,none⟩=some (.slice ca cl cc):=HA.out.2 1 (by simp)
 have r2:w1.cell? ⟨w.heap.size,2,none⟩=some (.slice sa sl sc):=HA.out.2 2 (by simp)
 have r3:w1.cell? ⟨w.heap.size,3,none⟩=some (.slice ea el ec):=HA.out.2 3 (by simp)
 have r4:w1.cell? ⟨w.heap.size,4,none⟩=some (.slice ua ul uc):=HA.out.2 4 (by simp)
 have r5:w1.cell? ⟨w.heap.size,5,none⟩=some (.slice da dl dc):=HA.out.2 5 (by simp)
 have r6:w1.cell? ⟨w.heap.size,6,none⟩=some (.int .i64 fr):=HA.out.2 6 (by simp)
 have rL:=HA.out.1
 go_wp2_with fail
 refine (H2.out _ HB.out).mono ?_
 rintro e w2 ⟨ao2,cap2,rfl,hm,hb⟩
 have HMM:=hid_intro (hm.low HB.out.size)
 have HBL:Hid (B1<w1.heap.size):=hid_intro HZ.out.1
 have HM7:=hid_intro hm
 have HB8:=hid_intro (HB.out.trans (hb.mono HB.out.size))
 obtain ⟨zl,z0,z1,y0,y1⟩:=HZ.out.below hb
 clear hm hb r0 r1 r2 r3 r4 r5 r6 rL
 generalize hn:T.1.length=n1 at *
 generalize hc2:T.2=c2 at *
 go_wp2_with fail
 refine bodyPost_ret (v:=.agg #[.slice ao2 n1 cap2,.int .i64 c2]) (by simp [results,Tryz.results7,go_sem,z0,z1]) rfl ⟨ao2,cap2,by rw [hc2,hn],?_,below2 HB8.out hBl _ _⟩
 exact made_two HM7.out HMM.out HBL.out
theorem impl_bn (val:Value) (x:Eng) (v:Int) (a:ByteArray) (m:Int) (w:World) (hS:x.Small) (hE:IsEng val x w) (hwf:∀d∈x.ds,(Lit.int .i64 d.mo).wf=true) (ha:a.size≤1048576) (hL:CatR.Laid w) (hL2:DateR.Laid w) (hL3:FixR.Laid w)
 (hv:0≤x.fr→x.fr≤2760→∀W,Below w.heap.size w W→Calls Tryz.prog 119 #[.int .i64 x.fr] W fun e w'=>e=.returned (.int .i64 v)∧Below W.heap.size W w') :
 Calls Tryz.prog 7 #[val,.string a,.int .i64 m] w fun e w'=>BlO w (bnB x v a m) e w':=by
 have hE':=hE
 obtain ⟨ma,mc,ca,cc,sa,sc,ea,ec,ua,uc,da,dc,rfl,q1,q2,q3,q4,q5,q6⟩:=hE'
 obtain ⟨ps,p1,p2,p3,p4⟩:=BilR.pick_wns (a:=a) (m:=m) q5
 have hfl:(x.ws.filter (inW a m)).length≤x.ws.length:=List.length_filter_le ..
 refine ibn_in ma _ mc ca _ cc sa _ sc ea _ ec ua _ uc da _ dc x.fr a m (engB x v) (billB x.c a (x.ws.filter (inW a m))) (bnB x v a m) w
  (fun W hW=>impl_eng _ x v W hS (hE.below hW) hwf (fun W2 h2=>hL.below (hW.trans (h2.mono hW.size))) (fun W2 h2=>hL2.below (hW.trans (h2.mono hW.size))) (fun a b W2 h2=>hv a b W2 (hW.trans (h2.mono hW.size))))
  (fun W hW=>?_) bn_long bn_ill bn_one
 refine bin_in ma _ mc ca _ cc sa _ sc ea _ ec ua _ uc da _ dc x.fr a m (x.ws.filter (inW a m)) _ W (fun W1 h1=>?_) (fun bo cap W1 h1 hN=>?_)
 ·have hW1:=hW.trans (h1.mono hW.size)
  have h:=BilR.windows_in ua uc ps a m W1 (by rw [p1];exact hS.wl) (p2.below hW1)
  rw [p1,p3] at h
  refine h.mono ?_
  rintro e w' ⟨bo,cap',rfl,hr,hb⟩
  exact ⟨⟨bo,cap',rfl,p4 bo w' (hW1.trans (hb.mono hW1.size)) hr⟩,hb⟩
 ·have hW1:=hW.trans (h1.mono hW.size)
  exact BilR.impl_bill _ x.c a bo cap _ W1 (Nat.le_trans hfl hS.wl) ha hS.c (small_in hS) ⟨ma,mc,ca,cc,rfl,q1.below hW1,q2.below hW1⟩ (hL.below hW1) (hL2.below hW1) (hL3.below hW1) hN
set_option maxRecDepth 100000 in
set_option maxHeartbeats 4000000 in
theorem sbn_in (ma:Option Addr) (ml mc:Nat) (ca:Option Addr) (cl cc:Nat) (sa:Option Addr) (sl sc:Nat) (ea:Option Addr) (el ec:Nat) (ua:Option Addr) (ul uc:Nat) (da:Option Addr) (dl dc:Nat) (fr:Int) (a:ByteArray) (m:Int) (b r:Bool) (ws:List Wd) (D T:List N × Int) (w:World)
 (h1:∀W,Below w.heap.size w W→Calls Tryz.prog 19 #[.agg #[.slice ma ml mc,.slice ca cl cc,.slice sa sl sc,.slice ea el ec,.slice ua ul uc,.slice da dl dc,.int .i64 fr]] W fun e w'=>e=.returned (.bool b)∧Below W.heap.size W w')
 (hN:∀W,Calls Tryz.prog 20 #[.string a] W fun e w'=>e=.returned (.bool r)∧Below W.heap.size W w')
 (hO:∀W,Below w.heap.size w W→Calls Tryz.prog 22 #[.slice ua ul uc,.string a,.int .i64 m] W fun e w'=>(∃bo cap,e=.returned (.slice bo ws.length cap)∧Wns bo ws w')∧Below W.heap.size W w')
 (h2:¬8000<a.size→b=true→r=true→∀bo cap W,Below w.heap.size w W→Wns bo ws W→Calls Tryz.prog 21 #[.agg #[.slice ma ml mc,.slice ca cl cc],.string a,.slice bo ws.length cap] W fun e w'=>BlO W D e w')
 (e0:8000<a.size→T=([],2)) (e1:¬8000<a.size→(b&&r)=false→T=([],1)) (e2:¬8000<a.size→(b&&r)=true→T=D) :
 Calls Tryz.prog 5 #[.agg #[.slice ma ml mc,.slice ca cl cc,.slice sa sl sc,.slice ea el ec,.slice ua ul uc,.slice da dl dc,.int .i64 fr],.string a,.int .i64 m] w fun e w'=>BlO w T e w':=by
 have H1:=hid_intro h1
 have HN:=hid_intro hN
 have HO:=hid_intro hO
 have H2:=hid_intro h2
 have E0:=hid_intro e0
 have E1:=hid_intro e1
 have E2:=hid_intro e2
 clear h1 hN hO h2 e0 e1 e2
 generalize hsz:a.size=sz at *
 generalize ws.length=nw at *
 obtain ⟨W0,hW0⟩:∃z,z=(w.alloc (.cells #[.slice ma ml mc,.slice ca cl cc,.slice sa sl sc,.slice ea el ec,.slice ua ul uc,.slice da dl dc,.int .i64 fr] 46)).alloc (.cells #[.slice none 0 0,.int .i64 0] 35):=⟨_,rfl⟩
 have HB:Hid (Below w.heap.size w W0):=hid_intro (by rw [hW0];exact ((Below.refl _ _).alloc (Nat.le_refl _) _).alloc (by simp) _)
 have HA:Hid (Blk w.heap.size [.slice ma ml mc,.slice ca cl cc,.slice sa sl sc,.slice ea el ec,.slice ua ul uc,.slice da dl dc,.int .i64 fr] W0):=hid_intro (by rw [hW0];exact (Blk.new w _ _).below ((Below.refl _ _).alloc (Nat.le_refl _) _))
 have HZ:Hid (Z2 (w.heap.size+1) W0):=hid_intro (by rw [hW0];have:=Z2.new (w.alloc (.cells #[.slice ma ml mc,.slice ca cl cc,.slice sa sl sc,.slice ea el ec,.slice ua ul uc,.slice da dl dc,.int .i64 fr] 46)) 35;simpa using this)
 have HW:=hid_intro hW0
 clear hW0
 obtain ⟨B1,hB1⟩:∃z,z=w.heap.size+1:=⟨_,rfl⟩
 rw [←hB1] at HZ
 have HBE:=hid_intro hB1
 have hBl:w.heap.size≤B1:=by omega
 clear hB1
 by_cases qb:8000<sz
 ·have qb2:(8000:Int)<(sz:Int):=by omega
  have HE:=hid_intro (E0.out qb)
  go_enter Tryz.func5,Tryz.ntmps5
  go_wp2_with fail
  rw [←HW.out,←HBE.out]
  refine (BilR.sill8 2 _).mono ?_
  rintro e wE ⟨rfl,hbE⟩
  have HBE2:=hid_intro (HB.out.trans (hbE.mono HB.out.size))
  obtain ⟨zl,z0,z1,y0,y1⟩:=HZ.out.below hbE
  clear hbE
  go_wp2_with fail
  refine bodyPost_ret (v:=.agg #[.slice none 0 0,.int .i64 2]) (by simp [results,Tryz.results5,go_sem,z0,z1]) rfl (blo_nil HE.out (below2 HBE2.out hBl _ _))
 have qb2:¬(8000:Int)<(sz:Int):=by omega
 go_enter Tryz.func5,Tryz.ntmps5
 go_wp2_with fail
 rw [←HW.out,←HBE.out]
 clear HW
 refine (H1.out _ HB.out).mono ?_
 rintro e w1 ⟨rfl,hb⟩
 replace HB:=hid_intro (HB.out.trans (hb.mono HB.out.size))
 replace HA:=hid_intro (HA.out.below hb)
 replace HZ:=hid_intro (HZ.out.below hb)
 clear hb
 cases b
 ·have HE:=hid_intro (E1.out qb rfl)
  go_wp2_with fail
  refine (BilR.sill8 1 _).mono ?_
  rintro e wE ⟨rfl,hbE⟩
  have HBE2:=hid_intro (HB.out.trans (hbE.mono HB.out.size))
  obtain ⟨zl,z0,z1,y0,y1⟩:=HZ.out.below hbE
  clear hbE
  go_wp2_with fail
  refine bodyPost_ret (v:=.agg #[.slice none 0 0,.int .i64 1]) (by simp [results,Tryz.results5,go_sem,z0,z1]) rfl (blo_nil HE.out (below2 HBE2.out hBl _ _))
 go_wp2_with fail
 refine (HN.out _).mono ?_
 rintro e w2 ⟨rfl,hb⟩
 replace HB:=hid_intro (HB.out.trans (hb.mono HB.out.size))
 replace HA:=hid_intro (HA.out.below hb)
 replace HZ:=hid_intro (HZ.out.below hb)
 clear hb
 cases r
 ·have HE:=hid_intro (E1.out qb rfl)
  go_wp2_with fail
  refine (BilR.sill8 1 _).mono ?_
  rintro e wE ⟨rfl,hbE⟩
  have HBE2:=hid_intro (HB.out.trans (hbE.mono HB.out.size))
  obtain ⟨zl,z0,z1,y0,y1⟩:=HZ.out.below hbE
  clear hbE
  go_wp2_with fail
  refine bodyPost_ret (v:=.agg #[.slice none 0 0,.int .i64 1]) (by simp [results,Tryz.results5,go_sem,z0,z1]) rfl (blo_nil HE.out (below2 HBE2.out hBl _ _))
 obtain rfl:=E2.out qb rfl
 have r0:w2.cell? ⟨w.heap.size,0,none⟩=some (.slice ma ml mc):=HA.out.2 0 (by simp)
 have r1:w2.cell? ⟨w.heap.size,1,none⟩=some (.slice ca cl cc):=HA.out.2 1 (by simp)
 have r2:w2.cell? ⟨w.heap.size,2,none⟩=some (.slice sa sl sc):=HA.out.2 2 (by simp)
 have r3:w2.cell? ⟨w.heap.size,3,none⟩=some (.slice ea el ec):=HA.out.2 3 (by simp)
 have r4:w2.cell? ⟨w.heap.size,4,none⟩=some (.slice ua ul uc):=HA.out.2 4 (by simp)
 have r5:w2.cell? ⟨w.heap.size,5,none⟩=some (.slice da dl dc):=HA.out.2 5 (by simp)
 have r6:w2.cell? ⟨w.heap.size,6,none⟩=some (.int .i64 fr):=HA.out.2 6 (by simp)
 have rL:=HA.out.1
 go_wp2_with fail
 have HX2:Hid (BnX w w.heap.size (w.heap.size) (.slice ma ml mc) (.slice ca cl cc) (.slice ua ul uc) (.slice ma ml mc) (.slice ca cl cc) w2.drew):=hid_intro (BnX.below (show BnX w w.heap.size (w.heap.size) (.slice ma ml mc) (.slice ca cl cc) (.slice ua ul uc) (.slice ma ml mc) (.slice ca cl cc) w2 from ⟨HB.out,rL,rL,r0,r1,r4,r0,r1⟩) (Below.refl _ _).drew)
 have HZ2:Hid (Z2 B1 w2.drew):=hid_intro (HZ.out.below (Below.refl _ _).drew)
 have HB3:Hid (w.heap.size<B1):=hid_intro (by have:=HBE.out;omega)
 clear r0 r1 r2 r3 r4 r5 r6 rL HZ
 refine wp_region_held_drew (S:=(fun W=>Below w.heap.size w W∧w.heap.size<W.heap.size∧w.heap.size<W.heap.size∧W.cell? ⟨w.heap.size,0,none⟩=some (.slice ma ml mc)∧W.cell? ⟨w.heap.size,1,none⟩=some (.slice ca cl cc)∧W.cell? ⟨w.heap.size,4,none⟩=some (.slice ua ul uc)∧W.cell? ⟨w.heap.size,0,none⟩=some (.slice ma ml mc)∧W.cell? ⟨w.heap.size,1,none⟩=some (.slice ca cl cc))) (by kernel_rfl) HX2.out (fun hHeld=>?_)
 generalize w2.drew=kd at *
 refine tk (i:=0) (oi:=⟨some 20,.fieldAddr 46 (.tmp 3) 0,0,"l10_engine.go:297",#[],none⟩) (v:=?_) ?_ ?_
 rotate_left
 ·(intro w hSw;(try dsimp only at hSw);go_simp)<;>with_reducible rfl
 try simp only [Act.put,SL]
 refine tk (i:=1) (oi:=⟨some 21,.load 40 (.tmp 20),40,"l10_engine.go:297",#[⟨0,.data⟩],none⟩) (v:=?_) ?_ ?_
 rotate_left
 ·(intro w hSw;(try dsimp only at hSw);go_simp)<;>with_reducible rfl
 try simp only [Act.put,SL]
 refine tk (i:=2) (oi:=⟨some 22,.move (.tmp 1),9,"l10_engine.go:297",#[],none⟩) (v:=?_) ?_ ?_
 rotate_left
 ·(intro w hSw;(try dsimp only at hSw);go_simp)<;>with_reducible rfl
 try simp only [Act.put,SL]
 refine tk (i:=3) (oi:=⟨some 23,.fieldAddr 46 (.tmp 3) 3,0,"l10_engine.go:297",#[],none⟩) (v:=?_) ?_ ?_
 rotate_left
 ·(intro w hSw;(try dsimp only at hSw);go_simp)<;>with_reducible rfl
 try simp only [Act.put,SL]
 refine tk (i:=4) (oi:=⟨some 24,.load 43 (.tmp 23),43,"l10_engine.go:297",#[⟨3,.data⟩],none⟩) (v:=?_) ?_ ?_
 rotate_left
 ·(intro w hSw;(try dsimp only at hSw);go_simp)<;>with_reducible rfl
 try simp only [Act.put,SL]
 refine tk (i:=5) (oi:=⟨some 25,.move (.tmp 1),9,"l10_engine.go:297",#[],none⟩) (v:=?_) ?_ ?_
 rotate_left
 ·(intro w hSw;(try dsimp only at hSw);go_simp)<;>with_reducible rfl
 try simp only [Act.put,SL]
 refine tk (i:=6) (oi:=⟨some 26,.move (.tmp 2),2,"l10_engine.go:297",#[],none⟩) (v:=?_) ?_ ?_
 rotate_left
 ·(intro w hSw;(try dsimp only at hSw);go_simp)<;>with_reducible rfl
 try simp only [Act.put,SL]
 refine wpAnyH_ready (rs:=[7]) (by kernel_rfl) (by simp) ?_
 refine AllReadyH.cons (o:=⟨some 27,.call {callee:=Callee.value (.func 22),args:=#[.tmp 24,.tmp 25,.tmp 26],argTypes:=#[43,9,2]},43,"l10_engine.go:297",#[⟨4,.data⟩,⟨5,.data⟩,⟨6,.data⟩],none⟩) rfl (fun K hK=>?_) AllReadyH.nil
 go_simp
 go_at_call 22
 refine (HO.out _ HX2.out.1).mono ?_
 rintro e q1 ⟨⟨bo,cap,rfl,hN⟩,hq1⟩
 try go_wp2_with fail
 have hx1:=HX2.out.below hq1
 have hz1:=HZ2.out.below hq1
 refine hK.out _ _ hx1 (fun _=>?_)
 clear hK K
 try simp only [Act.put,SL]
 refine wpAnyH_ready (rs:=[8]) (by kernel_rfl) (by simp) ?_
 refine AllReadyH.cons (o:=⟨some 28,.call {callee:=Callee.value (.func 21),args:=#[.tmp 21,.tmp 22,.tmp 27],argTypes:=#[40,9,43]},35,"l10_engine.go:297",#[⟨1,.data⟩,⟨2,.data⟩,⟨7,.data⟩,⟨7,.chain⟩],none⟩) rfl (fun K hK=>?_) AllReadyH.nil
 go_simp
 go_at_call 21
 refine (H2.out qb (by trivial) (by trivial) _ _ _ hx1.1 hN).mono ?_
 rintro e q2 ⟨ao2,cap2,rfl,hm,hq2⟩
 try go_wp2_with fail
 have hx2:=hx1.below hq2
 have hz2:=hz1.below hq2
 have hl2:B1<q1.heap.size:=hz1.1
 refine hK.out _ _ hx2 (fun _=>?_)
 clear hK K
 try simp only [Act.put,SL]
 refine wpAnyH_ready (rs:=[9]) (by kernel_rfl) (by simp) ?_
 refine AllReadyH.cons (o:=⟨none,.store 35 (.tmp 6) (.tmp 28),0,"l10_engine.go:297",#[⟨8,.data⟩,⟨8,.chain⟩,⟨0,.phase⟩,⟨1,.phase⟩,⟨2,.phase⟩,⟨3,.phase⟩,⟨4,.phase⟩,⟨5,.phase⟩,⟨6,.phase⟩,⟨7,.phase⟩,⟨8,.phase⟩],none⟩) rfl (fun K hK=>?_) AllReadyH.nil
 have HMM:=hid_intro (hm.low hx1.1.size)
 have HM7:=hid_intro hm
 have HL2:=hid_intro hl2
 have HB8:=hid_intro hx2.1
 obtain ⟨zl,z0,z1,y0,y1⟩:=hz2
 clear hm hz1
 generalize hn:T.1.length=n1 at *
 generalize hc2:T.2=c2 at *
 go_simp
 try go_wp2_with fail
 have hx3:=hx2.put (p:=B1) (by have:=HB3.out;omega) (by have:=HB3.out;omega) (by have:=HB3.out;omega) (.slice ao2 n1 cap2) (.int .i64 c2)
 refine hK.out _ _ hx3 (fun _=>?_)
 clear hK K
 try simp only [Act.put,SL]
 refine wpAnyH_done (by kernel_rfl) ?_ _
 have HBF:=hid_intro hx3.1
 clear hx1 hx2 hx3 hq1 hq2 hN HX2
 go_wp2_with fail
 refine bodyPost_ret (v:=.agg #[.slice ao2 n1 cap2,.int .i64 c2]) (by simp [results,Tryz.results5,go_sem,z0,z1]) rfl ⟨ao2,cap2,by rw [hc2,hn],?_,HBF.out⟩
 exact made_two HM7.out HMM.out HL2.out
theorem spec_bn (val:Value) (x:Eng) (v:Int) (a:ByteArray) (m:Int) (w:World) (hS:x.Small) (hE:IsEng val x w) (ha:a.size≤1048576)
 (hv:0≤x.fr→x.fr≤2760→∀W,Below w.heap.size w W→Calls Tryz.prog 57 #[.int .i64 x.fr] W fun e w'=>e=.returned (.int .i64 v)∧Below W.heap.size W w') :
 Calls Tryz.prog 5 #[val,.string a,.int .i64 m] w fun e w'=>BlO w (bnB x v a m) e w':=by
 have hE':=hE
 obtain ⟨ma,mc,ca,cc,sa,sc,ea,ec,ua,uc,da,dc,rfl,q1,q2,q3,q4,q5,q6⟩:=hE'
 obtain ⟨ps,p1,p2,p3,p4⟩:=BilR.pick_wns (a:=a) (m:=m) q5
 refine sbn_in ma _ mc ca _ cc sa _ sc ea _ ec ua _ uc da _ dc x.fr a m (engB x v) (NameR.nameB a) (x.ws.filter (inW a m)) (billR x.c a (x.ws.filter (inW a m))) (bnB x v a m) w
  (fun W hW=>spec_eng _ x v W hS (hE.below hW) (fun a b W2 h2=>hv a b W2 (hW.trans (h2.mono hW.size))))
  (fun W=>(NameR.spec_any a W ha).mono (by rintro e w' ⟨h,rfl⟩;exact ⟨h,Below.refl _ _⟩))
  (fun W hW=>?_) (fun h8 he hn bo cap W hW hN=>?_) bn_long (fun h8 h=>?_) (fun h8 h=>?_)
 ·have h:=BilR.l10_of ua uc ps a m W (by rw [p1];exact hS.wl) (p2.below hW)
  rw [p1,p3] at h
  refine h.mono ?_
  rintro e w' ⟨bo,cap',rfl,hr,hb⟩
  exact ⟨⟨bo,cap',rfl,p4 bo w' (hW.trans (hb.mono hW.size)) hr⟩,hb⟩
 ·obtain ⟨h16,hw⟩:=engB_ws he (inW a m)
  exact BilR.spec_lbill ma mc ca cc x.c a bo cap _ W (by omega) hS.c (small_in hS) (q1.below hW) ⟨ma,mc,ca,cc,rfl,q1.below hW,q2.below hW⟩ (engB_ca he) hw hN
 ·cases he:engB x v
  ·exact bn_ill h8 he
  ·rw [he,Bool.true_and] at h
   exact bn_name h8 he h
 ·rw [Bool.and_eq_true] at h
  exact bn_right h8 h.1 h.2
end EngR
namespace BilA
open CatR EngR ChG
open WinR (Wd)
open LinR (N drawL dl_len Lis)
open BilR (billB billR BlO alB)
def BR (D:List N × Int) (v:Value) (W:World):Prop:=∃u,v=.agg #[u,.int .i64 D.2]∧LnR D.1 u W
def BW (D:List N × Int) (b:Nat) (v:Value) (W:World):Prop:=∃u,v=.agg #[u,.int .i64 D.2]∧LnW D.1 b u W
theorem bill_len {c:Ca} {a:ByteArray} {ws:List Wd} (h:ws.length≤1048576):(billB c a ws).1.length≤1048576:=by
 unfold billB
 split
 ·simp
 ·split
  ·unfold billR
   dsimp only
   split
   ·simp
   ·split
    ·simp
    ·split
     ·simp
     ·unfold drawL
      have h1:=List.length_filter_le LinR.nz (LinR.dl (crF a c.cs) (List.filter LinR.nz (List.map (BilR.rN c.ms) (BilR.srt Wd.m (List.filter (BilR.ownW a) ws)))) (List.filter LinR.nz (List.map (BilR.rN c.ms) (BilR.srt Wd.m (List.filter (BilR.ownW a) ws)))).length)
      rw [dl_len] at h1
      have h2:=List.length_filter_le LinR.nz (List.map (BilR.rN c.ms) (BilR.srt Wd.m (List.filter (BilR.ownW a) ws)))
      rw [List.length_map,(BilR.srt_perm (f:=Wd.m) (List.filter (BilR.ownW a) ws)).length_eq] at h2
      have h3:(List.filter (BilR.ownW a) ws).length≤ws.length:=List.length_filter_le ..
      dsimp only at h1 ⊢
      omega
  ·simp
theorem blo_bw {w:World} {D:List N × Int} {e:Ending} {w':World} (h:BlO w D e w'):∃v,e=.returned v∧BW D w.heap.size v w'∧Below w.heap.size w w':=by
 obtain ⟨ao,cap,rfl,hm,hb⟩:=h
 exact ⟨_,rfl,⟨_,rfl,ao,cap,rfl,hm⟩,hb⟩
set_option maxHeartbeats 4000000 in
theorem eqB {D:List N × Int} (hn:D.1.length≤1048576) {v v':Value} {W:World} (h:BR D v W) (h':BR D v' W):Calls Tryz.prog 8 #[v,v'] W fun e w'=>e=.returned (.bool true)∧Below W.heap.size W w':=by
 obtain ⟨u,rfl,h⟩:=h
 obtain ⟨u',rfl,h'⟩:=h'
 have HE:Hid (∀W2,Below W.heap.size W W2→Calls Tryz.prog 30 #[u,u'] W2 fun e w'=>e=.returned (.bool true)∧Below W2.heap.size W2 w'):=hid_intro (fun W2 hW=>eqLn hn (h.below hW) (h'.below hW))
 obtain ⟨a1,c1,rfl,_⟩:=h
 obtain ⟨a2,c2,rfl,_⟩:=h'
 generalize D.2=d at *
 generalize D.1.length=n at *
 obtain ⟨W1,hW1⟩:∃z,z=(W.alloc (.cells #[.slice a1 n c1,.int .i64 d] 35)).alloc (.cells #[.slice a2 n c2,.int .i64 d] 35):=⟨_,rfl⟩
 have HB:Hid (Below W.heap.size W W1):=hid_intro (by rw [hW1];exact ((Below.refl _ _).alloc (Nat.le_refl _) _).alloc (by simp) _)
 have HX:Hid (Blk W.heap.size [.slice a1 n c1,.int .i64 d] W1):=hid_intro (by rw [hW1];exact (Blk.new W _ _).below ((Below.refl _ _).alloc (Nat.le_refl _) _))
 have HY:Hid (Blk (W.heap.size+1) [.slice a2 n c2,.int .i64 d] W1):=hid_intro (by rw [hW1];simpa using Blk.new (W.alloc (.cells #[.slice a1 n c1,.int .i64 d] 35)) [.slice a2 n c2,.int .i64 d] 35)
 have HW:=hid_intro hW1
 clear hW1
 go_enter Tryz.func8,Tryz.ntmps8
 go_wp2_with fail
 rw [←HW.out]
 refine (HE.out _ HB.out).mono ?_
 rintro e w2 ⟨rfl,hb⟩
 have HB2:=hid_intro (HB.out.trans (hb.mono HB.out.size))
 have x1:=(HX.out.below hb).2 1 (by simp)
 have xl:=(HX.out.below hb).1
 have y1:=(HY.out.below hb).2 1 (by simp)
 have yl:=(HY.out.below hb).1
 simp only [List.getElem?_cons_zero,List.getElem?_cons_succ] at x1 y1
 clear hb
 go_wp2_with fail
 go_ret
 exact ⟨rfl,HB2.out⟩
set_option maxHeartbeats 4000000 in
theorem heldB {u:Value} {d:Int} {KK:Nat} {w2:World} (hu:∃a n c,u=.slice a n c) (h:∀W,Below w2.heap.size w2 W→Calls Tryz.prog 42 #[u,.int .i64 1] W fun e w3=>e=.returned (.int .i64 KK)∧Below W.heap.size W w3) :
 Calls Tryz.prog 12 #[.agg #[u,.int .i64 d],.int .i64 1] w2 fun e w3=>e=.returned (.int .i64 KK)∧Below w2.heap.size w2 w3:=by
 obtain ⟨a,n,c,rfl⟩:=hu
 have HH:=hid_intro (h _ (alB w2 (.cells #[.slice a n c,.int .i64 d] 35)))
 have HB:=hid_intro (alB w2 (.cells #[.slice a n c,.int .i64 d] 35))
 clear h
 have hk:¬((KK:Nat):Int)<0:=by omega
 go_enter Tryz.func12,Tryz.ntmps12
 go_wp2_with fail
 refine HH.out.mono ?_
 rintro e w3 ⟨rfl,hb⟩
 have HB2:=hid_intro (HB.out.trans (hb.mono HB.out.size))
 clear hb
 go_wp2_with fail
 go_ret
 exact ⟨rfl,HB2.out⟩
set_option maxHeartbeats 4000000 in
theorem markB {D:List N × Int} (hn:D.1.length≤1048576) {b:Nat} {v:Value} {Wt W:World} (h:BW D b v Wt) (hk:Kq b Wt W) :
 Calls Tryz.prog 11 #[v,.int .i64 1] W fun e w'=>∃KK:Nat,e=.returned (.int .i64 KK)∧Chg (fun x=>b≤x∧x<Wt.heap.size) W w' ∧
  ∀w2,Below w'.heap.size w' w2→Calls Tryz.prog 12 #[v,.int .i64 1] w2 fun e w3=>e=.returned (.int .i64 KK)∧Below w2.heap.size w2 w3:=by
 obtain ⟨u,rfl,h⟩:=h
 have hs:=h.shape
 obtain ⟨W1,hW1⟩:∃z,z=W.alloc (.cells #[u,.int .i64 D.2] 35):=⟨_,rfl⟩
 have hal:Below W.heap.size W W1:=by rw [hW1];exact alB _ _
 have HM:=hid_intro (markLn hn h (Kq.below hk hal))
 have HAL:=hid_intro hal
 have HW:=hid_intro hW1
 have HH:Hid (∀(KK:Nat) (w2:World),(∀W,Below w2.heap.size w2 W→Calls Tryz.prog 42 #[u,.int .i64 1] W fun e w3=>e=.returned (.int .i64 KK)∧Below W.heap.size W w3)→Calls Tryz.prog 12 #[.agg #[u,.int .i64 D.2],.int .i64 1] w2 fun e w3=>e=.returned (.int .i64 KK)∧Below w2.heap.size w2 w3):=hid_intro (fun KK w2 h=>heldB hs h)
 generalize D.2=d at *
 clear hal hW1 h
 obtain ⟨a,n,c,rfl⟩:=hs
 go_enter Tryz.func11,Tryz.ntmps11
 go_wp2_with fail
 rw [←HW.out]
 refine HM.out.mono ?_
 rintro e w2 ⟨KK,rfl,hc,hh⟩
 have HC:=hid_intro hc
 have HF:=hid_intro hh
 clear hc hh
 go_wp2_with fail
 go_ret
 refine ⟨KK,rfl,?_,fun w2 hb=>HH.out KK w2 (fun W hW=>HF.out W (hb.trans (hW.mono hb.size)))⟩
 exact ⟨HC.out.os.trans HAL.out.os,HC.out.tape.trans HAL.out.tape,HC.out.output.trans HAL.out.output,Nat.le_trans HAL.out.size HC.out.size,fun b h1 h2=>(HC.out.block b (by have:=HAL.out.size;omega) h2).trans (HAL.out.block b h1)⟩
end BilA
end Go.Proofs.YtmalfhhkjdkadaaGreatDoor
