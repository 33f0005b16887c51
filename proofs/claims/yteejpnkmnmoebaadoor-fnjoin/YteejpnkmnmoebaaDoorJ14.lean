/-
  A window drawn: some small window of one's own. No condition.
-/
import Derived.Test.YteejpnkmnmoebaaDoorJ13
namespace Go.Proofs.YteejpnkmnmoebaaDoor
open Go.ChangeShapes Go.WideShapes Go.ChangeAt Go.RowKit
set_option linter.unusedVariables false
namespace DrawR
open EvtR (ev Pt)
open WinR (Wd Sm WdO wcells H Hrs Tgs TgO add_any of_any AddP)
set_option maxRecDepth 100000 in
set_option maxHeartbeats 16000000 in
theorem window_any (ao:Option Addr) (len cap g:Nat) (w:World) (hS:Src ao len cap g w) :
 Calls Tryd.prog 14 #[.pointer (some ⟨g,0,none⟩)] w fun e w'=>WdOut ao len cap g w e w':=by
 have hgl:=hS.lt
 obtain ⟨W0,hW0⟩:∃W0,W0=w.alloc (.cells #[.string ⟨#[]⟩,.string ⟨#[]⟩,.int .i64 0,.int .i64 0,.int .i64 0,.int .i64 0,.slice none 0 0,.slice none 0 0] 26):=⟨_,rfl⟩
 have HR:Hid (BW w.heap.size [.string ⟨#[]⟩,.string ⟨#[]⟩,.int .i64 0,.int .i64 0,.int .i64 0,.int .i64 0,.slice none 0 0,.slice none 0 0] W0):=H_ (by rw [hW0];exact bw_new w _ _)
 have HG:Hid (w.grownBy W0 (some g)):=H_ (by rw [hW0];exact World.grownBy_alloc _ _ _)
 have HS:Hid (Src ao len cap g W0):=H_ (by rw [hW0];exact hS.alloc _)
 have HW0:=H_ hW0
 clear hW0 hS
 go_enter Tryd.func14,Tryd.ntmps14
 go_wp2_with fail
 rw [←HW0.out]
 clear HW0
 refine (some7_any ao len cap g _ HS.out).mono ?_
 rintro e w1 ⟨⟨t1,t2,t3,nn,v7,t8,rfl,h1,h2,h3,h8⟩,hS,hg⟩
 replace HR:=H_ (bw_gr HR.out hg (by simp;omega))
 replace HG:=H_ (Lib.grownBy_trans HG.out hg)
 replace HS:=H_ hS
 have HO:=H_ (of_any t1 t2 t3 t8 nn v7 w1 h1 h2 h3 h8)
 clear h1 h2 h3 h8 hS hg
 unfold ev at *
 go_wp2_with fail
 refine HO.out.mono ?_
 rintro e w2 ⟨⟨y,ta,tc,ha,hc,rfl,hsm,hwo⟩,hb⟩
 have HL:Hid (w.heap.size<w1.heap.size):=H_ HR.out.1.1
 replace HR:=H_ (HR.out.below hb)
 replace HG:=H_ (Lib.grownBy_trans HG.out (rgrown hb (some g)))
 replace HS:=H_ (HS.out.kept (rgrown hb none) (fun k e=>by cases e))
 have HM:=H_ hsm
 have HWO:=H_ (hwo.low (B':=w.heap.size+1) (by have:=HL.out;omega))
 have HLT:Hid (∀b off,ta=some ⟨b,off,none⟩→b≠w2.heap.size):=H_ (fun b off e=>by subst e;have:=(hwo.tg.2.lt _ rfl).2;exact fun q=>by subst q;exact absurd this (Nat.lt_irrefl _))
 have HLH:Hid (y.hs.length=0∨∀b off,ha=some ⟨b,off,none⟩→b≠w2.heap.size):=H_ (hr_lt hwo.hr)
 clear hb hsm hwo HO
 simp only [wcells]
 go_wp2_with fail
 obtain ⟨V,hV⟩:∃V,V=w2.heap.size:=⟨_,rfl⟩
 obtain ⟨w3,hw3⟩:∃z,z=w2.alloc (.cells #[.string y.a,.string y.m,.int .i64 y.mo,.int .i64 y.ev,.int .i64 y.su,.int .i64 y.mx,.slice ta y.ts.length tc,.slice ha y.hs.length hc] 26):=⟨_,rfl⟩
 have HD:Hid (WdD ao len cap g w V y ta tc ha hc w3):=H_ (by
  have hal:Below w2.heap.size w2 w3:=by rw [hw3];exact (Below.refl _ _).alloc (Nat.le_refl _) _
  rw [hV]
  exact ⟨HS.out.kept (rgrown hal none) (fun k e=>by cases e),Lib.grownBy_trans HG.out (rgrown hal (some g)),HR.out.below hal,by rw [hw3];exact bw_new w2 [.string y.a,.string y.m,.int .i64 y.mo,.int .i64 y.ev,.int .i64 y.su,.int .i64 y.mx,.slice ta y.ts.length tc,.slice ha y.hs.length hc] _,HWO.out.below hal,hgl,HR.out.1.1,HLT.out,HLH.out,⟨_,by rw [hw3];exact heap_alloc_new w2 _⟩⟩)
 rw [←hV,←hw3]
 clear hV hw3 HS HG HR HWO HLT HLH HL
 refine (n_any ao len cap g 7 _ (by omega) HD.out.src).mono ?_
 rintro e w4 ⟨v4,rfl,lo4,_,hi4,hS,hg⟩
 have ht4:v4<7:=hi4 (by omega)
 replace HD:=H_ (HD.out.step hS hg)
 clear hS hg hi4
 go_wp2_with fail
 go_loopw [4] (fun z wr=>∃(k:Nat) (y:Wd) (ta:Option Addr) (tc:Nat) (ha:Option Addr) (hc:Nat),k≤6∧z=.int .i64 k∧Hid (Sm 12 y)∧Hid (WdD ao len cap g w V y ta tc ha hc wr)) (fun z _=>(intOf z).toNat)
 case atStart=>exact ⟨v4.toNat,y,ta,tc,ha,hc,by omega,by congr 1;omega,HM,HD⟩
 case round =>
  obtain ⟨k,y,ta,tc,ha,hc,hk,rfl,HM,HD⟩:=hrel
  by_cases hlt:0<k
  ·have hlt2:(0:Int)<(k:Int):=by omega
   go_wp2_with fail
   have HDD:=H_ (HD.out.below (Below.refl _ _).drew)
   refine wp_region_held_drew (S:=(fun W=>V<W.heap.size∧W.cell? ⟨V,0,none⟩=some (.string y.a)∧W.cell? ⟨V,1,none⟩=some (.string y.m)∧W.cell? ⟨V,2,none⟩=some (.int .i64 y.mo)∧W.cell? ⟨V,3,none⟩=some (.int .i64 y.ev)∧W.cell? ⟨V,4,none⟩=some (.int .i64 y.su)∧W.cell? ⟨V,5,none⟩=some (.int .i64 y.mx)∧W.cell? ⟨V,6,none⟩=some (.slice ta y.ts.length tc)∧W.cell? ⟨V,7,none⟩=some (.slice ha y.hs.length hc))) (by kernel_rfl) HDD.out.held (fun hHeld=>?_)
   generalize wr.drew=kd at *
   have hdd:=HDD.out
   refine tk 0 (⟨some 15,.load 26 (.tmp 3),26,"l07_window.go:198",#[],none⟩) ?_
   refine tk 1 (⟨some 16,.move (.tmp 0),38,"l07_window.go:198",#[],none⟩) ?_
   refine wpAnyH_ready (rs:=[2,4]) (by kernel_rfl) (by simp) ?_
   refine AllReadyH.cons (o:=⟨some 17,.call {callee:=Callee.value (.func 31),args:=#[.tmp 16],argTypes:=#[38]},76,"l07_window.go:198",#[⟨1,.data⟩],none⟩) rfl (fun K hK=>?_) (AllReadyH.cons (o:=⟨some 5,.alloc 30,0,"l07_window.go:198",#[],none⟩) rfl (fun K hK=>?_) AllReadyH.nil)
   ·go_simp
    go_at_call 31
    refine (some7_any ao len cap g _ hdd.src).mono ?_
    rintro e q1 ⟨⟨t1,t2,t3,nn,v7,t8,rfl,k1,k2,k3,k8⟩,hS,hg⟩
    try go_wp2_with fail
    have hd1:=hdd.step hS hg
    clear hS hg
    refine hK.out _ _ hd1.held (fun _=>?_)
    clear hK K
    try simp only [Act.put,SL]
    refine wpAnyH_ready (rs:=[3,4]) (by kernel_rfl) (by simp) ?_
    refine AllReadyH.cons (o:=⟨some 18,.call {callee:=Callee.value (.func 32),args:=#[.tmp 15,.tmp 17],argTypes:=#[26,76]},30,"l07_window.go:198",#[⟨0,.data⟩,⟨2,.data⟩,⟨2,.chain⟩],none⟩) rfl (fun K hK=>?_) (AllReadyH.cons (o:=⟨some 5,.alloc 30,0,"l07_window.go:198",#[],none⟩) rfl (fun K hK=>?_) AllReadyH.nil)
    ·go_simp
     go_at_call 32
     have HO:=H_ (add_any y ta tc ha hc t1 t2 t3 t8 nn v7 _ (HM.out.le (by omega)) hd1.own.tg.1 hd1.own.hr k1 k2 k3 k8)
     simp only [wcells,ev] at HO
     refine HO.out.mono ?_
     rintro e q2 ⟨_,rfl,⟨z,ta',tc',ha',hc',cd,rfl,hz⟩,hb⟩
     try go_wp2_with fail
     clear HO
     have hd2:=hd1.below hb
     have hz2:cd=0→Zok w V V z ta' tc' ha' hc' q2:=fun h=>by
      obtain ⟨p1,p2⟩:=hz h
      have e1:=hd1.box.1.1
      have e2:=hd1.res.1.1
      exact ⟨p1,p2.low (by omega),fun b off e=>by have:=p2.tg.ge b off e;omega,p2.hb.imp id (fun q b off e=>by have:=q b off e;omega)⟩
     clear hz hb
     refine hK.out _ _ hd2.held (fun _=>?_)
     clear hK K
     try simp only [Act.put,SL]
     refine rd 4 (⟨some 5,.alloc 30,0,"l07_window.go:198",#[],none⟩) (fun K hK=>?_)
     go_simp
     try go_wp2_with fail
     obtain ⟨qa,hqa⟩:∃q,q=q2.alloc (Obj.cells #[.string ⟨#[]⟩,.string ⟨#[]⟩,.int .i64 0,.int .i64 0,.int .i64 0,.int .i64 0,.slice none 0 0,.slice none 0 0,.int .i64 0] 30):=⟨_,rfl⟩
     have hal:Below q2.heap.size q2 qa:=by rw [hqa];exact (Below.refl _ _).alloc (Nat.le_refl _) _
     have hu0:BW q2.heap.size [.string ⟨#[]⟩,.string ⟨#[]⟩,.int .i64 0,.int .i64 0,.int .i64 0,.int .i64 0,.slice none 0 0,.slice none 0 0,.int .i64 0] qa:=by rw [hqa];exact bw_new q2 [.string ⟨#[]⟩,.string ⟨#[]⟩,.int .i64 0,.int .i64 0,.int .i64 0,.int .i64 0,.slice none 0 0,.slice none 0 0,.int .i64 0] _
     have hda:=hd2.below hal
     have hyT:∀b off,ta=some ⟨b,off,none⟩→b≠q2.heap.size:=fun b off e q=>by subst e;have:=(hd2.own.tg.2.lt _ rfl).2;exact absurd (show b<q2.heap.size from this) (by omega)
     have hyH:=hr_lt hd2.own.hr
     have hza:cd=0→Zok w V q2.heap.size z ta' tc' ha' hc' qa:=fun h=>(hz2 h).up hal
     rw [←hqa]
     clear hal hqa
     obtain ⟨U0,hU0⟩:∃q,q=q2.heap.size:=⟨_,rfl⟩
     rw [←hU0] at hu0 hyT hyH hza ⊢
     have hUV:U0≠V:=by have:=hd2.box.1.1;omega
     have hUw:w.heap.size<U0:=by have:=hd2.res.1.1;omega
     clear hU0
     refine hK.out _ _ hda.held (fun _=>?_)
     clear hK K
     try simp only [Act.put,SL]
     refine rd 5 (⟨none,.store 30 (.tmp 5) (.tmp 18),0,"l07_window.go:198",#[⟨4,.data⟩,⟨3,.data⟩,⟨3,.chain⟩,⟨0,.phase⟩,⟨1,.phase⟩,⟨2,.phase⟩,⟨3,.phase⟩,⟨4,.phase⟩],none⟩) (fun K hK=>?_)
     have hu9:=hu0
     obtain ⟨⟨ul,uk⟩,uf⟩:=hu9
     have e0:qa.cell? ⟨U0,0,none⟩=some (.string ⟨#[]⟩):=uk 0 (by simp)
     have y0:=uf 0 (by simp)
     have e1:qa.cell? ⟨U0,1,none⟩=some (.string ⟨#[]⟩):=uk 1 (by simp)
     have y1:=uf 1 (by simp)
     have e2:qa.cell? ⟨U0,2,none⟩=some (.int .i64 0):=uk 2 (by simp)
     have y2:=uf 2 (by simp)
     have e3:qa.cell? ⟨U0,3,none⟩=some (.int .i64 0):=uk 3 (by simp)
     have y3:=uf 3 (by simp)
     have e4:qa.cell? ⟨U0,4,none⟩=some (.int .i64 0):=uk 4 (by simp)
     have y4:=uf 4 (by simp)
     have e5:qa.cell? ⟨U0,5,none⟩=some (.int .i64 0):=uk 5 (by simp)
     have y5:=uf 5 (by simp)
     have e6:qa.cell? ⟨U0,6,none⟩=some (.slice none 0 0):=uk 6 (by simp)
     have y6:=uf 6 (by simp)
     have e7:qa.cell? ⟨U0,7,none⟩=some (.slice none 0 0):=uk 7 (by simp)
     have y7:=uf 7 (by simp)
     have e8:qa.cell? ⟨U0,8,none⟩=some (.int .i64 0):=uk 8 (by simp)
     have y8:=uf 8 (by simp)
     clear uk uf
     go_simp
     try go_wp2_with fail
     have hgf:=StR.stL_grown U0 [.string z.a,.string z.m,.int .i64 z.mo,.int .i64 z.ev,.int .i64 z.su,.int .i64 z.mx,.slice ta' z.ts.length tc',.slice ha' z.hs.length hc',.int .i64 cd] 0 qa
     have hdf:=hda.row hgf (by omega) hUV hyT hyH
     have hzf:cd=0→Zok w V U0 z ta' tc' ha' hc' _:=fun h=>(hza h).row hgf
     have huf:=(((((((((hu0.set 0 (.string z.a) (by simp)).set 1 (.string z.m) (by simp)).set 2 (.int .i64 z.mo) (by simp)).set 3 (.int .i64 z.ev) (by simp)).set 4 (.int .i64 z.su) (by simp)).set 5 (.int .i64 z.mx) (by simp)).set 6 (.slice ta' z.ts.length tc') (by simp)).set 7 (.slice ha' z.hs.length hc') (by simp)).set 8 (.int .i64 cd) (by simp))
     simp only [StR.stL,Nat.zero_add,Nat.reduceAdd] at hgf hdf hzf
     simp only [List.set_cons_zero,List.set_cons_succ] at huf
     refine hK.out _ _ hdf.held (fun _=>?_)
     clear hK K
     try simp only [Act.put,SL]
     generalize (((((((((qa.setCell ⟨U0,0,none⟩ (.string z.a)).setCell ⟨U0,1,none⟩ (.string z.m)).setCell ⟨U0,2,none⟩ (.int .i64 z.mo)).setCell ⟨U0,3,none⟩ (.int .i64 z.ev)).setCell ⟨U0,4,none⟩ (.int .i64 z.su)).setCell ⟨U0,5,none⟩ (.int .i64 z.mx)).setCell ⟨U0,6,none⟩ (.slice ta' z.ts.length tc')).setCell ⟨U0,7,none⟩ (.slice ha' z.hs.length hc')).setCell ⟨U0,8,none⟩ (.int .i64 cd))=qf at *
     refine wpAnyH_done (by kernel_rfl) ?_ _
     have HDF:=H_ hdf
     have HZF:=H_ hzf
     obtain ⟨⟨ul,uk⟩,uf⟩:=huf
     have u0:qf.cell? ⟨U0,0,none⟩=some (.string z.a):=uk 0 (by simp)
     have u1:qf.cell? ⟨U0,1,none⟩=some (.string z.m):=uk 1 (by simp)
     have u2:qf.cell? ⟨U0,2,none⟩=some (.int .i64 z.mo):=uk 2 (by simp)
     have u3:qf.cell? ⟨U0,3,none⟩=some (.int .i64 z.ev):=uk 3 (by simp)
     have u4:qf.cell? ⟨U0,4,none⟩=some (.int .i64 z.su):=uk 4 (by simp)
     have u5:qf.cell? ⟨U0,5,none⟩=some (.int .i64 z.mx):=uk 5 (by simp)
     have u6:qf.cell? ⟨U0,6,none⟩=some (.slice ta' z.ts.length tc'):=uk 6 (by simp)
     have u7:qf.cell? ⟨U0,7,none⟩=some (.slice ha' z.hs.length hc'):=uk 7 (by simp)
     have u8:qf.cell? ⟨U0,8,none⟩=some (.int .i64 cd):=uk 8 (by simp)
     obtain ⟨⟨vl,vk⟩,vf⟩:=HDF.out.box
     have x0:qf.cell? ⟨V,0,none⟩=some (.string y.a):=vk 0 (by simp)
     have x1:qf.cell? ⟨V,1,none⟩=some (.string y.m):=vk 1 (by simp)
     have x2:qf.cell? ⟨V,2,none⟩=some (.int .i64 y.mo):=vk 2 (by simp)
     have x3:qf.cell? ⟨V,3,none⟩=some (.int .i64 y.ev):=vk 3 (by simp)
     have x4:qf.cell? ⟨V,4,none⟩=some (.int .i64 y.su):=vk 4 (by simp)
     have x5:qf.cell? ⟨V,5,none⟩=some (.int .i64 y.mx):=vk 5 (by simp)
     have x6:qf.cell? ⟨V,6,none⟩=some (.slice ta y.ts.length tc):=vk 6 (by simp)
     have x7:qf.cell? ⟨V,7,none⟩=some (.slice ha y.hs.length hc):=vk 7 (by simp)
     have f0:=vf 0 (by simp)
     have f1:=vf 1 (by simp)
     have f2:=vf 2 (by simp)
     have f3:=vf 3 (by simp)
     have f4:=vf 4 (by simp)
     have f5:=vf 5 (by simp)
     have f6:=vf 6 (by simp)
     have f7:=vf 7 (by simp)
     clear uk uf vk vf hdf hzf hgf
     by_cases hcd:cd=0
     ·subst hcd
      obtain ⟨q1,q2,q3,q4⟩:=HZF.out rfl
      have HM2:=H_ q1
      have HD8:=H_ (HDF.out.put (hc':=hc') q2 (fun b off e=>(q3 b off e).1) (q4.imp id (fun q b off e=>(q b off e).1)))
      clear q1 q2 q3 q4 HZF
      go_wp2_with fail
      go_roundw
      case rel=>exact ⟨k-1,z,ta',tc',ha',hc',by omega,by go_num,HM2,HD8⟩
      case measure=>simp [intOf];omega
     go_wp2_with fail
     go_roundw
     case rel=>exact ⟨k-1,y,ta,tc,ha,hc,by omega,by go_num,HM,HDF⟩
     case measure=>simp [intOf];omega
    ·go_simp
     try go_wp2_with fail
     obtain ⟨qa,hqa⟩:∃q,q=q1.alloc (Obj.cells #[.string ⟨#[]⟩,.string ⟨#[]⟩,.int .i64 0,.int .i64 0,.int .i64 0,.int .i64 0,.slice none 0 0,.slice none 0 0,.int .i64 0] 30):=⟨_,rfl⟩
     have hal:Below q1.heap.size q1 qa:=by rw [hqa];exact (Below.refl _ _).alloc (Nat.le_refl _) _
     have hu0:BW q1.heap.size [.string ⟨#[]⟩,.string ⟨#[]⟩,.int .i64 0,.int .i64 0,.int .i64 0,.int .i64 0,.slice none 0 0,.slice none 0 0,.int .i64 0] qa:=by rw [hqa];exact bw_new q1 [.string ⟨#[]⟩,.string ⟨#[]⟩,.int .i64 0,.int .i64 0,.int .i64 0,.int .i64 0,.slice none 0 0,.slice none 0 0,.int .i64 0] _
     have hda:=hd1.below hal
     have hyT:∀b off,ta=some ⟨b,off,none⟩→b≠q1.heap.size:=fun b off e q=>by subst e;have:=(hd1.own.tg.2.lt _ rfl).2;exact absurd (show b<q1.heap.size from this) (by omega)
     have hyH:=hr_lt hd1.own.hr
     rw [←hqa]
     clear hal hqa
     obtain ⟨U0,hU0⟩:∃q,q=q1.heap.size:=⟨_,rfl⟩
     rw [←hU0] at hu0 hyT hyH ⊢
     have hUV:U0≠V:=by have:=hd1.box.1.1;omega
     have hUw:w.heap.size<U0:=by have:=hd1.res.1.1;omega
     clear hU0
     refine hK.out _ _ hda.held (fun _=>?_)
     clear hK K
     try simp only [Act.put,SL]
     refine rd 3 (⟨some 18,.call {callee:=Callee.value (.func 32),args:=#[.tmp 15,.tmp 17],argTypes:=#[26,76]},30,"l07_window.go:198",#[⟨0,.data⟩,⟨2,.data⟩,⟨2,.chain⟩],none⟩) (fun K hK=>?_)
     go_simp
     go_at_call 32
     have HO:=H_ (add_any y ta tc ha hc t1 t2 t3 t8 nn v7 _ (HM.out.le (by omega)) hda.own.tg.1 hda.own.hr k1 k2 k3 k8)
     simp only [wcells,ev] at HO
     refine HO.out.mono ?_
     rintro e q2 ⟨_,rfl,⟨z,ta',tc',ha',hc',cd,rfl,hz⟩,hb⟩
     try go_wp2_with fail
     clear HO
     have hd2:=hda.below hb
     have hu2:=hu0.below hb
     have hU2:U0<qa.heap.size:=hu0.1.1
     have hz2:cd=0→Zok w V U0 z ta' tc' ha' hc' q2:=fun h=>by
      obtain ⟨p1,p2⟩:=hz h
      have e1:=hda.box.1.1
      have e2:=hda.res.1.1
      exact ⟨p1,p2.low (by omega),fun b off e=>by have:=p2.tg.ge b off e;omega,p2.hb.imp id (fun q b off e=>by have:=q b off e;omega)⟩
     clear hz hb
     refine hK.out _ _ hd2.held (fun _=>?_)
     clear hK K
     try simp only [Act.put,SL]
     refine rd 5 (⟨none,.store 30 (.tmp 5) (.tmp 18),0,"l07_window.go:198",#[⟨4,.data⟩,⟨3,.data⟩,⟨3,.chain⟩,⟨0,.phase⟩,⟨1,.phase⟩,⟨2,.phase⟩,⟨3,.phase⟩,⟨4,.phase⟩],none⟩) (fun K hK=>?_)
     have hu9:=hu2
     obtain ⟨⟨ul,uk⟩,uf⟩:=hu9
     have e0:q2.cell? ⟨U0,0,none⟩=some (.string ⟨#[]⟩):=uk 0 (by simp)
     have y0:=uf 0 (by simp)
     have e1:q2.cell? ⟨U0,1,none⟩=some (.string ⟨#[]⟩):=uk 1 (by simp)
     have y1:=uf 1 (by simp)
     have e2:q2.cell? ⟨U0,2,none⟩=some (.int .i64 0):=uk 2 (by simp)
     have y2:=uf 2 (by simp)
     have e3:q2.cell? ⟨U0,3,none⟩=some (.int .i64 0):=uk 3 (by simp)
     have y3:=uf 3 (by simp)
     have e4:q2.cell? ⟨U0,4,none⟩=some (.int .i64 0):=uk 4 (by simp)
     have y4:=uf 4 (by simp)
     have e5:q2.cell? ⟨U0,5,none⟩=some (.int .i64 0):=uk 5 (by simp)
     have y5:=uf 5 (by simp)
     have e6:q2.cell? ⟨U0,6,none⟩=some (.slice none 0 0):=uk 6 (by simp)
     have y6:=uf 6 (by simp)
     have e7:q2.cell? ⟨U0,7,none⟩=some (.slice none 0 0):=uk 7 (by simp)
     have y7:=uf 7 (by simp)
     have e8:q2.cell? ⟨U0,8,none⟩=some (.int .i64 0):=uk 8 (by simp)
     have y8:=uf 8 (by simp)
     clear uk uf
     go_simp
     try go_wp2_with fail
     have hgf:=StR.stL_grown U0 [.string z.a,.string z.m,.int .i64 z.mo,.int .i64 z.ev,.int .i64 z.su,.int .i64 z.mx,.slice ta' z.ts.length tc',.slice ha' z.hs.length hc',.int .i64 cd] 0 q2
     have hdf:=hd2.row hgf (by omega) hUV hyT hyH
     have hzf:cd=0→Zok w V U0 z ta' tc' ha' hc' _:=fun h=>(hz2 h).row hgf
     have huf:=(((((((((hu2.set 0 (.string z.a) (by simp)).set 1 (.string z.m) (by simp)).set 2 (.int .i64 z.mo) (by simp)).set 3 (.int .i64 z.ev) (by simp)).set 4 (.int .i64 z.su) (by simp)).set 5 (.int .i64 z.mx) (by simp)).set 6 (.slice ta' z.ts.length tc') (by simp)).set 7 (.slice ha' z.hs.length hc') (by simp)).set 8 (.int .i64 cd) (by simp))
     simp only [StR.stL,Nat.zero_add,Nat.reduceAdd] at hgf hdf hzf
     simp only [List.set_cons_zero,List.set_cons_succ] at huf
     refine hK.out _ _ hdf.held (fun _=>?_)
     clear hK K
     try simp only [Act.put,SL]
     generalize (((((((((q2.setCell ⟨U0,0,none⟩ (.string z.a)).setCell ⟨U0,1,none⟩ (.string z.m)).setCell ⟨U0,2,none⟩ (.int .i64 z.mo)).setCell ⟨U0,3,none⟩ (.int .i64 z.ev)).setCell ⟨U0,4,none⟩ (.int .i64 z.su)).setCell ⟨U0,5,none⟩ (.int .i64 z.mx)).setCell ⟨U0,6,none⟩ (.slice ta' z.ts.length tc')).setCell ⟨U0,7,none⟩ (.slice ha' z.hs.length hc')).setCell ⟨U0,8,none⟩ (.int .i64 cd))=qf at *
     refine wpAnyH_done (by kernel_rfl) ?_ _
     have HDF:=H_ hdf
     have HZF:=H_ hzf
     obtain ⟨⟨ul,uk⟩,uf⟩:=huf
     have u0:qf.cell? ⟨U0,0,none⟩=some (.string z.a):=uk 0 (by simp)
     have u1:qf.cell? ⟨U0,1,none⟩=some (.string z.m):=uk 1 (by simp)
     have u2:qf.cell? ⟨U0,2,none⟩=some (.int .i64 z.mo):=uk 2 (by simp)
     have u3:qf.cell? ⟨U0,3,none⟩=some (.int .i64 z.ev):=uk 3 (by simp)
     have u4:qf.cell? ⟨U0,4,none⟩=some (.int .i64 z.su):=uk 4 (by simp)
     have u5:qf.cell? ⟨U0,5,none⟩=some (.int .i64 z.mx):=uk 5 (by simp)
     have u6:qf.cell? ⟨U0,6,none⟩=some (.slice ta' z.ts.length tc'):=uk 6 (by simp)
     have u7:qf.cell? ⟨U0,7,none⟩=some (.slice ha' z.hs.length hc'):=uk 7 (by simp)
     have u8:qf.cell? ⟨U0,8,none⟩=some (.int .i64 cd):=uk 8 (by simp)
     obtain ⟨⟨vl,vk⟩,vf⟩:=HDF.out.box
     have x0:qf.cell? ⟨V,0,none⟩=some (.string y.a):=vk 0 (by simp)
     have x1:qf.cell? ⟨V,1,none⟩=some (.string y.m):=vk 1 (by simp)
     have x2:qf.cell? ⟨V,2,none⟩=some (.int .i64 y.mo):=vk 2 (by simp)
     have x3:qf.cell? ⟨V,3,none⟩=some (.int .i64 y.ev):=vk 3 (by simp)
     have x4:qf.cell? ⟨V,4,none⟩=some (.int .i64 y.su):=vk 4 (by simp)
     have x5:qf.cell? ⟨V,5,none⟩=some (.int .i64 y.mx):=vk 5 (by simp)
     have x6:qf.cell? ⟨V,6,none⟩=some (.slice ta y.ts.length tc):=vk 6 (by simp)
     have x7:qf.cell? ⟨V,7,none⟩=some (.slice ha y.hs.length hc):=vk 7 (by simp)
     have f0:=vf 0 (by simp)
     have f1:=vf 1 (by simp)
     have f2:=vf 2 (by simp)
     have f3:=vf 3 (by simp)
     have f4:=vf 4 (by simp)
     have f5:=vf 5 (by simp)
     have f6:=vf 6 (by simp)
     have f7:=vf 7 (by simp)
     clear uk uf vk vf hdf hzf hgf
     by_cases hcd:cd=0
     ·subst hcd
      obtain ⟨q1,q2,q3,q4⟩:=HZF.out rfl
      have HM2:=H_ q1
      have HD8:=H_ (HDF.out.put (hc':=hc') q2 (fun b off e=>(q3 b off e).1) (q4.imp id (fun q b off e=>(q b off e).1)))
      clear q1 q2 q3 q4 HZF
      go_wp2_with fail
      go_roundw
      case rel=>exact ⟨k-1,z,ta',tc',ha',hc',by omega,by go_num,HM2,HD8⟩
      case measure=>simp [intOf];omega
     go_wp2_with fail
     go_roundw
     case rel=>exact ⟨k-1,y,ta,tc,ha,hc,by omega,by go_num,HM,HDF⟩
     case measure=>simp [intOf];omega
   ·go_simp
    try go_wp2_with fail
    obtain ⟨qa,hqa⟩:∃q,q=kd.alloc (Obj.cells #[.string ⟨#[]⟩,.string ⟨#[]⟩,.int .i64 0,.int .i64 0,.int .i64 0,.int .i64 0,.slice none 0 0,.slice none 0 0,.int .i64 0] 30):=⟨_,rfl⟩
    have hal:Below kd.heap.size kd qa:=by rw [hqa];exact (Below.refl _ _).alloc (Nat.le_refl _) _
    have hu0:BW kd.heap.size [.string ⟨#[]⟩,.string ⟨#[]⟩,.int .i64 0,.int .i64 0,.int .i64 0,.int .i64 0,.slice none 0 0,.slice none 0 0,.int .i64 0] qa:=by rw [hqa];exact bw_new kd [.string ⟨#[]⟩,.string ⟨#[]⟩,.int .i64 0,.int .i64 0,.int .i64 0,.int .i64 0,.slice none 0 0,.slice none 0 0,.int .i64 0] _
    have hda:=hdd.below hal
    have hyT:∀b off,ta=some ⟨b,off,none⟩→b≠kd.heap.size:=fun b off e q=>by subst e;have:=(hdd.own.tg.2.lt _ rfl).2;exact absurd (show b<kd.heap.size from this) (by omega)
    have hyH:=hr_lt hdd.own.hr
    rw [←hqa]
    clear hal hqa
    obtain ⟨U0,hU0⟩:∃q,q=kd.heap.size:=⟨_,rfl⟩
    rw [←hU0] at hu0 hyT hyH ⊢
    have hUV:U0≠V:=by have:=hdd.box.1.1;omega
    have hUw:w.heap.size<U0:=by have:=hdd.res.1.1;omega
    clear hU0
    refine hK.out _ _ hda.held (fun _=>?_)
    clear hK K
    try simp only [Act.put,SL]
    refine rd 2 (⟨some 17,.call {callee:=Callee.value (.func 31),args:=#[.tmp 16],argTypes:=#[38]},76,"l07_window.go:198",#[⟨1,.data⟩],none⟩) (fun K hK=>?_)
    go_simp
    go_at_call 31
    refine (some7_any ao len cap g _ hda.src).mono ?_
    rintro e q1 ⟨⟨t1,t2,t3,nn,v7,t8,rfl,k1,k2,k3,k8⟩,hS,hg⟩
    try go_wp2_with fail
    have hd1:=hda.step hS hg
    have hu1:=bw_gr hu0 hg (by have:=HD.out.box.1.1;have:=HD.out.vl;simp;omega)
    clear hS hg
    refine hK.out _ _ hd1.held (fun _=>?_)
    clear hK K
    try simp only [Act.put,SL]
    refine rd 3 (⟨some 18,.call {callee:=Callee.value (.func 32),args:=#[.tmp 15,.tmp 17],argTypes:=#[26,76]},30,"l07_window.go:198",#[⟨0,.data⟩,⟨2,.data⟩,⟨2,.chain⟩],none⟩) (fun K hK=>?_)
    go_simp
    go_at_call 32
    have HO:=H_ (add_any y ta tc ha hc t1 t2 t3 t8 nn v7 _ (HM.out.le (by omega)) hd1.own.tg.1 hd1.own.hr k1 k2 k3 k8)
    simp only [wcells,ev] at HO
    refine HO.out.mono ?_
    rintro e q2 ⟨_,rfl,⟨z,ta',tc',ha',hc',cd,rfl,hz⟩,hb⟩
    try go_wp2_with fail
    clear HO
    have hd2:=hd1.below hb
    have hu2:=hu1.below hb
    have hU2:U0<q1.heap.size:=hu1.1.1
    have hz2:cd=0→Zok w V U0 z ta' tc' ha' hc' q2:=fun h=>by
     obtain ⟨p1,p2⟩:=hz h
     have e1:=hd1.box.1.1
     have e2:=hd1.res.1.1
     exact ⟨p1,p2.low (by omega),fun b off e=>by have:=p2.tg.ge b off e;omega,p2.hb.imp id (fun q b off e=>by have:=q b off e;omega)⟩
    clear hz hb
    refine hK.out _ _ hd2.held (fun _=>?_)
    clear hK K
    try simp only [Act.put,SL]
    refine rd 5 (⟨none,.store 30 (.tmp 5) (.tmp 18),0,"l07_window.go:198",#[⟨4,.data⟩,⟨3,.data⟩,⟨3,.chain⟩,⟨0,.phase⟩,⟨1,.phase⟩,⟨2,.phase⟩,⟨3,.phase⟩,⟨4,.phase⟩],none⟩) (fun K hK=>?_)
    have hu9:=hu2
    obtain ⟨⟨ul,uk⟩,uf⟩:=hu9
    have e0:q2.cell? ⟨U0,0,none⟩=some (.string ⟨#[]⟩):=uk 0 (by simp)
    have y0:=uf 0 (by simp)
    have e1:q2.cell? ⟨U0,1,none⟩=some (.string ⟨#[]⟩):=uk 1 (by simp)
    have y1:=uf 1 (by simp)
    have e2:q2.cell? ⟨U0,2,none⟩=some (.int .i64 0):=uk 2 (by simp)
    have y2:=uf 2 (by simp)
    have e3:q2.cell? ⟨U0,3,none⟩=some (.int .i64 0):=uk 3 (by simp)
    have y3:=uf 3 (by simp)
    have e4:q2.cell? ⟨U0,4,none⟩=some (.int .i64 0):=uk 4 (by simp)
    have y4:=uf 4 (by simp)
    have e5:q2.cell? ⟨U0,5,none⟩=some (.int .i64 0):=uk 5 (by simp)
    have y5:=uf 5 (by simp)
    have e6:q2.cell? ⟨U0,6,none⟩=some (.slice none 0 0):=uk 6 (by simp)
    have y6:=uf 6 (by simp)
    have e7:q2.cell? ⟨U0,7,none⟩=some (.slice none 0 0):=uk 7 (by simp)
    have y7:=uf 7 (by simp)
    have e8:q2.cell? ⟨U0,8,none⟩=some (.int .i64 0):=uk 8 (by simp)
    have y8:=uf 8 (by simp)
    clear uk uf
    go_simp
    try go_wp2_with fail
    have hgf:=StR.stL_grown U0 [.string z.a,.string z.m,.int .i64 z.mo,.int .i64 z.ev,.int .i64 z.su,.int .i64 z.mx,.slice ta' z.ts.length tc',.slice ha' z.hs.length hc',.int .i64 cd] 0 q2
    have hdf:=hd2.row hgf (by omega) hUV hyT hyH
    have hzf:cd=0→Zok w V U0 z ta' tc' ha' hc' _:=fun h=>(hz2 h).row hgf
    have huf:=(((((((((hu2.set 0 (.string z.a) (by simp)).set 1 (.string z.m) (by simp)).set 2 (.int .i64 z.mo) (by simp)).set 3 (.int .i64 z.ev) (by simp)).set 4 (.int .i64 z.su) (by simp)).set 5 (.int .i64 z.mx) (by simp)).set 6 (.slice ta' z.ts.length tc') (by simp)).set 7 (.slice ha' z.hs.length hc') (by simp)).set 8 (.int .i64 cd) (by simp))
    simp only [StR.stL,Nat.zero_add,Nat.reduceAdd] at hgf hdf hzf
    simp only [List.set_cons_zero,List.set_cons_succ] at huf
    refine hK.out _ _ hdf.held (fun _=>?_)
    clear hK K
    try simp only [Act.put,SL]
    generalize (((((((((q2.setCell ⟨U0,0,none⟩ (.string z.a)).setCell ⟨U0,1,none⟩ (.string z.m)).setCell ⟨U0,2,none⟩ (.int .i64 z.mo)).setCell ⟨U0,3,none⟩ (.int .i64 z.ev)).setCell ⟨U0,4,none⟩ (.int .i64 z.su)).setCell ⟨U0,5,none⟩ (.int .i64 z.mx)).setCell ⟨U0,6,none⟩ (.slice ta' z.ts.length tc')).setCell ⟨U0,7,none⟩ (.slice ha' z.hs.length hc')).setCell ⟨U0,8,none⟩ (.int .i64 cd))=qf at *
    refine wpAnyH_done (by kernel_rfl) ?_ _
    have HDF:=H_ hdf
    have HZF:=H_ hzf
    obtain ⟨⟨ul,uk⟩,uf⟩:=huf
    have u0:qf.cell? ⟨U0,0,none⟩=some (.string z.a):=uk 0 (by simp)
    have u1:qf.cell? ⟨U0,1,none⟩=some (.string z.m):=uk 1 (by simp)
    have u2:qf.cell? ⟨U0,2,none⟩=some (.int .i64 z.mo):=uk 2 (by simp)
    have u3:qf.cell? ⟨U0,3,none⟩=some (.int .i64 z.ev):=uk 3 (by simp)
    have u4:qf.cell? ⟨U0,4,none⟩=some (.int .i64 z.su):=uk 4 (by simp)
    have u5:qf.cell? ⟨U0,5,none⟩=some (.int .i64 z.mx):=uk 5 (by simp)
    have u6:qf.cell? ⟨U0,6,none⟩=some (.slice ta' z.ts.length tc'):=uk 6 (by simp)
    have u7:qf.cell? ⟨U0,7,none⟩=some (.slice ha' z.hs.length hc'):=uk 7 (by simp)
    have u8:qf.cell? ⟨U0,8,none⟩=some (.int .i64 cd):=uk 8 (by simp)
    obtain ⟨⟨vl,vk⟩,vf⟩:=HDF.out.box
    have x0:qf.cell? ⟨V,0,none⟩=some (.string y.a):=vk 0 (by simp)
    have x1:qf.cell? ⟨V,1,none⟩=some (.string y.m):=vk 1 (by simp)
    have x2:qf.cell? ⟨V,2,none⟩=some (.int .i64 y.mo):=vk 2 (by simp)
    have x3:qf.cell? ⟨V,3,none⟩=some (.int .i64 y.ev):=vk 3 (by simp)
    have x4:qf.cell? ⟨V,4,none⟩=some (.int .i64 y.su):=vk 4 (by simp)
    have x5:qf.cell? ⟨V,5,none⟩=some (.int .i64 y.mx):=vk 5 (by simp)
    have x6:qf.cell? ⟨V,6,none⟩=some (.slice ta y.ts.length tc):=vk 6 (by simp)
    have x7:qf.cell? ⟨V,7,none⟩=some (.slice ha y.hs.length hc):=vk 7 (by simp)
    have f0:=vf 0 (by simp)
    have f1:=vf 1 (by simp)
    have f2:=vf 2 (by simp)
    have f3:=vf 3 (by simp)
    have f4:=vf 4 (by simp)
    have f5:=vf 5 (by simp)
    have f6:=vf 6 (by simp)
    have f7:=vf 7 (by simp)
    clear uk uf vk vf hdf hzf hgf
    by_cases hcd:cd=0
    ·subst hcd
     obtain ⟨q1,q2,q3,q4⟩:=HZF.out rfl
     have HM2:=H_ q1
     have HD8:=H_ (HDF.out.put (hc':=hc') q2 (fun b off e=>(q3 b off e).1) (q4.imp id (fun q b off e=>(q b off e).1)))
     clear q1 q2 q3 q4 HZF
     go_wp2_with fail
     go_roundw
     case rel=>exact ⟨k-1,z,ta',tc',ha',hc',by omega,by go_num,HM2,HD8⟩
     case measure=>simp [intOf];omega
    go_wp2_with fail
    go_roundw
    case rel=>exact ⟨k-1,y,ta,tc,ha,hc,by omega,by go_num,HM,HDF⟩
    case measure=>simp [intOf];omega
  ·have hlt2:¬(0:Int)<(k:Int):=by omega
   have HM13:=H_ (HM.out.le (k:=13) (by omega))
   have HM12:=HM
   clear HM
   go_wp2_with fail
   refine (one_any ao len cap g 15 _ (by omega) HD.out.src).mono ?_
   rintro e w8 ⟨⟨q,rfl⟩,hS,hg⟩
   replace HD:=H_ (HD.out.step hS hg)
   clear hS hg
   have hVw:=HD.out.vl
   go_upto_if 25 with fail
   go_cut [] from 26 to 67 (fun wx=>∃(y:Wd) (ta:Option Addr) (tc:Nat) (ha:Option Addr) (hc:Nat),Hid (Sm 13 y)∧Hid (WdEnd ao len cap g w y ta ha wx)∧Hid (BW V [.string y.a,.string y.m,.int .i64 y.mo,.int .i64 y.ev,.int .i64 y.su,.int .i64 y.mx,.slice ta y.ts.length tc,.slice ha y.hs.length hc] wx)∧Hid (BW w.heap.size [.string ⟨#[]⟩,.string ⟨#[]⟩,.int .i64 0,.int .i64 0,.int .i64 0,.int .i64 0,.slice none 0 0,.slice none 0 0] wx)∧Hid (WinR.SlOk ta y.ts.length tc∧WinR.SlOk ha y.hs.length hc))
   case first =>
    cases q
    ·go_wp2_with fail
     go_meet
     case rel=>exact ⟨y,ta,tc,ha,hc,HM13,H_ HD.out.fin,H_ HD.out.box,H_ HD.out.res,H_ HD.out.slk⟩
    go_wp2_with fail
    refine (n_any ao len cap g 5 _ (by omega) HD.out.src).mono ?_
    rintro e w9 ⟨v9,rfl,lo9,_,hi9,hS,hg⟩
    have ht9:v9<5:=hi9 (by omega)
    replace HD:=H_ (HD.out.step hS hg)
    clear hS hg hi9
    rcases (show v9=0∨v9=1∨v9=2∨v9=3∨v9=4 by omega) with rfl|rfl|rfl|rfl|rfl
    ·go_wp2_with fail
     have HDD:=H_ (HD.out.below (Below.refl _ _).drew)
     refine wp_region_held_drew (S:=(fun W=>V<W.heap.size)) (by kernel_rfl) HDD.out.box.1.1 (fun hHeld=>?_)
     generalize w9.drew=kd at *
     have hdd:=HDD.out
     clear HD HDD
     refine tk 0 (⟨some 36,.fieldAddr 26 (.tmp 3) 4,0,"l07_window.go:206",#[],none⟩) ?_
     refine tk 2 (⟨some 38,.move (.tmp 0),38,"l07_window.go:206",#[],none⟩) ?_
     refine wpAnyH_ready (rs:=[1,3]) (by kernel_rfl) (by simp) ?_
     refine AllReadyH.cons (o:=⟨some 37,.load 2 (.tmp 36),2,"l07_window.go:206",#[⟨0,.data⟩],none⟩) rfl (fun K hK=>?_) (AllReadyH.cons (o:=⟨some 39,.call {callee:=Callee.value (.func 19),args:=#[.tmp 38,.const (Value.int IntKind.i64 2)],argTypes:=#[38,2]},2,"l07_window.go:206",#[⟨2,.data⟩],none⟩) rfl (fun K hK=>?_) AllReadyH.nil)
     ·have xl4:kd.cell? ⟨V,4,none⟩=some (.int .i64 y.su):=hdd.box.1.2 4 (by simp)
      have xv4:=hdd.box.1.1
      go_simp
      try go_wp2_with fail
      refine hK.out _ _ hdd.box.1.1 (fun _=>?_)
      clear hK K
      try simp only [Act.put,SL]
      clear xl4 xv4
      refine rd 3 (⟨some 39,.call {callee:=Callee.value (.func 19),args:=#[.tmp 38,.const (Value.int IntKind.i64 2)],argTypes:=#[38,2]},2,"l07_window.go:206",#[⟨2,.data⟩],none⟩) (fun K hK=>?_)
      go_simp
      go_at_call 19
      refine (n_any ao len cap g 2 _ (by omega) hdd.src).mono ?_
      rintro e q1 ⟨v10,rfl,lo10,_,hi10,hS,hg⟩
      try go_wp2_with fail
      have hd1:=hdd.step hS hg
      have ht10:v10<2:=hi10 (by omega)
      clear hS hg hi10
      refine hK.out _ _ hd1.box.1.1 (fun _=>?_)
      clear hK K
      try simp only [Act.put,SL]
      refine tk 4 (⟨some 40,.binOp BinOp.add 2 (.tmp 37) (.tmp 39) 2,2,"l07_window.go:206",#[⟨1,.data⟩,⟨3,.data⟩],none⟩) ?_
      refine tk 5 (⟨some 41,.fieldAddr 26 (.tmp 3) 4,0,"l07_window.go:206",#[⟨0,.phase⟩,⟨1,.phase⟩,⟨2,.phase⟩,⟨3,.phase⟩,⟨4,.phase⟩],none⟩) ?_
      refine rd 6 (⟨none,.store 2 (.tmp 41) (.tmp 40),0,"l07_window.go:206",#[⟨5,.data⟩,⟨4,.data⟩,⟨3,.chain⟩,⟨0,.phase⟩,⟨1,.phase⟩,⟨2,.phase⟩,⟨3,.phase⟩,⟨4,.phase⟩],none⟩) (fun K hK=>?_)
      generalize IntKind.i64.wrap (y.su+v10)=X at *
      obtain ⟨⟨vl,vk⟩,vf⟩:=id hd1.box
      have f4:=vf 4 (by simp)
      have x4:q1.cell? ⟨V,4,none⟩=some (.int .i64 y.su):=vk 4 (by simp)
      clear vk vf
      go_simp
      try go_wp2_with fail
      have hqe:WdEnd ao len cap g w {y with su:=X} ta ha (q1.setCell ⟨V,4,none⟩ (.int .i64 X)):=WdEnd.set (y:={y with su:=X}) ⟨⟨hd1.own.tg.1,hd1.own.hr,hd1.own.tg.ge,hd1.own.hb⟩,hd1.src,hd1.gr,hd1.gl⟩ (by omega) hd1.nt hd1.nh 4 _
      have hqb:BW V [.string y.a,.string y.m,.int .i64 y.mo,.int .i64 y.ev,.int .i64 X,.int .i64 y.mx,.slice ta y.ts.length tc,.slice ha y.hs.length hc] (q1.setCell ⟨V,4,none⟩ (.int .i64 X)):=by have:=WinR.BlkW.set hd1.box 4 (.int .i64 X) (by simp);simpa using this
      have hqr:BW w.heap.size [.string ⟨#[]⟩,.string ⟨#[]⟩,.int .i64 0,.int .i64 0,.int .i64 0,.int .i64 0,.slice none 0 0,.slice none 0 0] (q1.setCell ⟨V,4,none⟩ (.int .i64 X)):=WinR.BlkW.other hd1.res V 4 _ (by omega)
      have HQS:=H_ hd1.slk
      refine hK.out _ _ hqb.1.1 (fun _=>?_)
      clear hK K
      try simp only [Act.put,SL]
      generalize (q1.setCell ⟨V,4,none⟩ (.int .i64 X))=qf at *
      refine wpAnyH_done (by kernel_rfl) ?_ _
      have HQE:=H_ hqe
      have HQB:=H_ hqb
      have HQR:=H_ hqr
      go_wp2_with fail
      go_meet
      case rel=>exact ⟨{y with su:=X},ta,tc,ha,hc,H_ ⟨HM13.out.a,HM13.out.m,HM13.out.tl,HM13.out.ts,HM13.out.hl⟩,HQE,HQB,HQR,HQS⟩
     ·go_simp
      go_at_call 19
      refine (n_any ao len cap g 2 _ (by omega) hdd.src).mono ?_
      rintro e q1 ⟨v10,rfl,lo10,_,hi10,hS,hg⟩
      try go_wp2_with fail
      have hd1:=hdd.step hS hg
      have ht10:v10<2:=hi10 (by omega)
      clear hS hg hi10
      refine hK.out _ _ hd1.box.1.1 (fun _=>?_)
      clear hK K
      try simp only [Act.put,SL]
      refine rd 1 (⟨some 37,.load 2 (.tmp 36),2,"l07_window.go:206",#[⟨0,.data⟩],none⟩) (fun K hK=>?_)
      have xl4:q1.cell? ⟨V,4,none⟩=some (.int .i64 y.su):=hd1.box.1.2 4 (by simp)
      have xv4:=hd1.box.1.1
      go_simp
      try go_wp2_with fail
      refine hK.out _ _ hd1.box.1.1 (fun _=>?_)
      clear hK K
      try simp only [Act.put,SL]
      clear xl4 xv4
      refine tk 4 (⟨some 40,.binOp BinOp.add 2 (.tmp 37) (.tmp 39) 2,2,"l07_window.go:206",#[⟨1,.data⟩,⟨3,.data⟩],none⟩) ?_
      refine tk 5 (⟨some 41,.fieldAddr 26 (.tmp 3) 4,0,"l07_window.go:206",#[⟨0,.phase⟩,⟨1,.phase⟩,⟨2,.phase⟩,⟨3,.phase⟩,⟨4,.phase⟩],none⟩) ?_
      refine rd 6 (⟨none,.store 2 (.tmp 41) (.tmp 40),0,"l07_window.go:206",#[⟨5,.data⟩,⟨4,.data⟩,⟨3,.chain⟩,⟨0,.phase⟩,⟨1,.phase⟩,⟨2,.phase⟩,⟨3,.phase⟩,⟨4,.phase⟩],none⟩) (fun K hK=>?_)
      generalize IntKind.i64.wrap (y.su+v10)=X at *
      obtain ⟨⟨vl,vk⟩,vf⟩:=id hd1.box
      have f4:=vf 4 (by simp)
      have x4:q1.cell? ⟨V,4,none⟩=some (.int .i64 y.su):=vk 4 (by simp)
      clear vk vf
      go_simp
      try go_wp2_with fail
      have hqe:WdEnd ao len cap g w {y with su:=X} ta ha (q1.setCell ⟨V,4,none⟩ (.int .i64 X)):=WdEnd.set (y:={y with su:=X}) ⟨⟨hd1.own.tg.1,hd1.own.hr,hd1.own.tg.ge,hd1.own.hb⟩,hd1.src,hd1.gr,hd1.gl⟩ (by omega) hd1.nt hd1.nh 4 _
      have hqb:BW V [.string y.a,.string y.m,.int .i64 y.mo,.int .i64 y.ev,.int .i64 X,.int .i64 y.mx,.slice ta y.ts.length tc,.slice ha y.hs.length hc] (q1.setCell ⟨V,4,none⟩ (.int .i64 X)):=by have:=WinR.BlkW.set hd1.box 4 (.int .i64 X) (by simp);simpa using this
      have hqr:BW w.heap.size [.string ⟨#[]⟩,.string ⟨#[]⟩,.int .i64 0,.int .i64 0,.int .i64 0,.int .i64 0,.slice none 0 0,.slice none 0 0] (q1.setCell ⟨V,4,none⟩ (.int .i64 X)):=WinR.BlkW.other hd1.res V 4 _ (by omega)
      have HQS:=H_ hd1.slk
      refine hK.out _ _ hqb.1.1 (fun _=>?_)
      clear hK K
      try simp only [Act.put,SL]
      generalize (q1.setCell ⟨V,4,none⟩ (.int .i64 X))=qf at *
      refine wpAnyH_done (by kernel_rfl) ?_ _
      have HQE:=H_ hqe
      have HQB:=H_ hqb
      have HQR:=H_ hqr
      go_wp2_with fail
      go_meet
      case rel=>exact ⟨{y with su:=X},ta,tc,ha,hc,H_ ⟨HM13.out.a,HM13.out.m,HM13.out.tl,HM13.out.ts,HM13.out.hl⟩,HQE,HQB,HQR,HQS⟩
    ·go_wp2_with fail
     have HDD:=H_ (HD.out.below (Below.refl _ _).drew)
     refine wp_region_held_drew (S:=(fun W=>V<W.heap.size)) (by kernel_rfl) HDD.out.box.1.1 (fun hHeld=>?_)
     generalize w9.drew=kd at *
     have hdd:=HDD.out
     clear HD HDD
     refine tk 0 (⟨some 44,.fieldAddr 26 (.tmp 3) 4,0,"l07_window.go:208",#[],none⟩) ?_
     refine tk 2 (⟨some 46,.move (.tmp 0),38,"l07_window.go:208",#[],none⟩) ?_
     refine wpAnyH_ready (rs:=[1,3]) (by kernel_rfl) (by simp) ?_
     refine AllReadyH.cons (o:=⟨some 45,.load 2 (.tmp 44),2,"l07_window.go:208",#[⟨0,.data⟩],none⟩) rfl (fun K hK=>?_) (AllReadyH.cons (o:=⟨some 47,.call {callee:=Callee.value (.func 19),args:=#[.tmp 46,.const (Value.int IntKind.i64 2)],argTypes:=#[38,2]},2,"l07_window.go:208",#[⟨2,.data⟩],none⟩) rfl (fun K hK=>?_) AllReadyH.nil)
     ·have xl4:kd.cell? ⟨V,4,none⟩=some (.int .i64 y.su):=hdd.box.1.2 4 (by simp)
      have xv4:=hdd.box.1.1
      go_simp
      try go_wp2_with fail
      refine hK.out _ _ hdd.box.1.1 (fun _=>?_)
      clear hK K
      try simp only [Act.put,SL]
      clear xl4 xv4
      refine rd 3 (⟨some 47,.call {callee:=Callee.value (.func 19),args:=#[.tmp 46,.const (Value.int IntKind.i64 2)],argTypes:=#[38,2]},2,"l07_window.go:208",#[⟨2,.data⟩],none⟩) (fun K hK=>?_)
      go_simp
      go_at_call 19
      refine (n_any ao len cap g 2 _ (by omega) hdd.src).mono ?_
      rintro e q1 ⟨v10,rfl,lo10,_,hi10,hS,hg⟩
      try go_wp2_with fail
      have hd1:=hdd.step hS hg
      have ht10:v10<2:=hi10 (by omega)
      clear hS hg hi10
      refine hK.out _ _ hd1.box.1.1 (fun _=>?_)
      clear hK K
      try simp only [Act.put,SL]
      refine tk 4 (⟨some 48,.binOp BinOp.add 2 (.tmp 45) (.tmp 47) 2,2,"l07_window.go:208",#[⟨1,.data⟩,⟨3,.data⟩],none⟩) ?_
      refine tk 5 (⟨some 49,.fieldAddr 26 (.tmp 3) 5,0,"l07_window.go:208",#[⟨0,.phase⟩,⟨1,.phase⟩,⟨2,.phase⟩,⟨3,.phase⟩,⟨4,.phase⟩],none⟩) ?_
      refine rd 6 (⟨none,.store 2 (.tmp 49) (.tmp 48),0,"l07_window.go:208",#[⟨5,.data⟩,⟨4,.data⟩,⟨3,.chain⟩,⟨0,.phase⟩,⟨1,.phase⟩,⟨2,.phase⟩,⟨3,.phase⟩,⟨4,.phase⟩],none⟩) (fun K hK=>?_)
      generalize IntKind.i64.wrap (y.su+v10)=X at *
      obtain ⟨⟨vl,vk⟩,vf⟩:=id hd1.box
      have f5:=vf 5 (by simp)
      have x5:q1.cell? ⟨V,5,none⟩=some (.int .i64 y.mx):=vk 5 (by simp)
      clear vk vf
      go_simp
      try go_wp2_with fail
      have hqe:WdEnd ao len cap g w {y with mx:=X} ta ha (q1.setCell ⟨V,5,none⟩ (.int .i64 X)):=WdEnd.set (y:={y with mx:=X}) ⟨⟨hd1.own.tg.1,hd1.own.hr,hd1.own.tg.ge,hd1.own.hb⟩,hd1.src,hd1.gr,hd1.gl⟩ (by omega) hd1.nt hd1.nh 5 _
      have hqb:BW V [.string y.a,.string y.m,.int .i64 y.mo,.int .i64 y.ev,.int .i64 y.su,.int .i64 X,.slice ta y.ts.length tc,.slice ha y.hs.length hc] (q1.setCell ⟨V,5,none⟩ (.int .i64 X)):=by have:=WinR.BlkW.set hd1.box 5 (.int .i64 X) (by simp);simpa using this
      have hqr:BW w.heap.size [.string ⟨#[]⟩,.string ⟨#[]⟩,.int .i64 0,.int .i64 0,.int .i64 0,.int .i64 0,.slice none 0 0,.slice none 0 0] (q1.setCell ⟨V,5,none⟩ (.int .i64 X)):=WinR.BlkW.other hd1.res V 5 _ (by omega)
      have HQS:=H_ hd1.slk
      refine hK.out _ _ hqb.1.1 (fun _=>?_)
      clear hK K
      try simp only [Act.put,SL]
      generalize (q1.setCell ⟨V,5,none⟩ (.int .i64 X))=qf at *
      refine wpAnyH_done (by kernel_rfl) ?_ _
      have HQE:=H_ hqe
      have HQB:=H_ hqb
      have HQR:=H_ hqr
      go_wp2_with fail
      go_meet
      case rel=>exact ⟨{y with mx:=X},ta,tc,ha,hc,H_ ⟨HM13.out.a,HM13.out.m,HM13.out.tl,HM13.out.ts,HM13.out.hl⟩,HQE,HQB,HQR,HQS⟩
     ·go_simp
      go_at_call 19
      refine (n_any ao len cap g 2 _ (by omega) hdd.src).mono ?_
      rintro e q1 ⟨v10,rfl,lo10,_,hi10,hS,hg⟩
      try go_wp2_with fail
      have hd1:=hdd.step hS hg
      have ht10:v10<2:=hi10 (by omega)
      clear hS hg hi10
      refine hK.out _ _ hd1.box.1.1 (fun _=>?_)
      clear hK K
      try simp only [Act.put,SL]
      refine rd 1 (⟨some 45,.load 2 (.tmp 44),2,"l07_window.go:208",#[⟨0,.data⟩],none⟩) (fun K hK=>?_)
      have xl4:q1.cell? ⟨V,4,none⟩=some (.int .i64 y.su):=hd1.box.1.2 4 (by simp)
      have xv4:=hd1.box.1.1
      go_simp
      try go_wp2_with fail
      refine hK.out _ _ hd1.box.1.1 (fun _=>?_)
      clear hK K
      try simp only [Act.put,SL]
      clear xl4 xv4
      refine tk 4 (⟨some 48,.binOp BinOp.add 2 (.tmp 45) (.tmp 47) 2,2,"l07_window.go:208",#[⟨1,.data⟩,⟨3,.data⟩],none⟩) ?_
      refine tk 5 (⟨some 49,.fieldAddr 26 (.tmp 3) 5,0,"l07_window.go:208",#[⟨0,.phase⟩,⟨1,.phase⟩,⟨2,.phase⟩,⟨3,.phase⟩,⟨4,.phase⟩],none⟩) ?_
      refine rd 6 (⟨none,.store 2 (.tmp 49) (.tmp 48),0,"l07_window.go:208",#[⟨5,.data⟩,⟨4,.data⟩,⟨3,.chain⟩,⟨0,.phase⟩,⟨1,.phase⟩,⟨2,.phase⟩,⟨3,.phase⟩,⟨4,.phase⟩],none⟩) (fun K hK=>?_)
      generalize IntKind.i64.wrap (y.su+v10)=X at *
      obtain ⟨⟨vl,vk⟩,vf⟩:=id hd1.box
      have f5:=vf 5 (by simp)
      have x5:q1.cell? ⟨V,5,none⟩=some (.int .i64 y.mx):=vk 5 (by simp)
      clear vk vf
      go_simp
      try go_wp2_with fail
      have hqe:WdEnd ao len cap g w {y with mx:=X} ta ha (q1.setCell ⟨V,5,none⟩ (.int .i64 X)):=WdEnd.set (y:={y with mx:=X}) ⟨⟨hd1.own.tg.1,hd1.own.hr,hd1.own.tg.ge,hd1.own.hb⟩,hd1.src,hd1.gr,hd1.gl⟩ (by omega) hd1.nt hd1.nh 5 _
      have hqb:BW V [.string y.a,.string y.m,.int .i64 y.mo,.int .i64 y.ev,.int .i64 y.su,.int .i64 X,.slice ta y.ts.length tc,.slice ha y.hs.length hc] (q1.setCell ⟨V,5,none⟩ (.int .i64 X)):=by have:=WinR.BlkW.set hd1.box 5 (.int .i64 X) (by simp);simpa using this
      have hqr:BW w.heap.size [.string ⟨#[]⟩,.string ⟨#[]⟩,.int .i64 0,.int .i64 0,.int .i64 0,.int .i64 0,.slice none 0 0,.slice none 0 0] (q1.setCell ⟨V,5,none⟩ (.int .i64 X)):=WinR.BlkW.other hd1.res V 5 _ (by omega)
      have HQS:=H_ hd1.slk
      refine hK.out _ _ hqb.1.1 (fun _=>?_)
      clear hK K
      try simp only [Act.put,SL]
      generalize (q1.setCell ⟨V,5,none⟩ (.int .i64 X))=qf at *
      refine wpAnyH_done (by kernel_rfl) ?_ _
      have HQE:=H_ hqe
      have HQB:=H_ hqb
      have HQR:=H_ hqr
      go_wp2_with fail
      go_meet
      case rel=>exact ⟨{y with mx:=X},ta,tc,ha,hc,H_ ⟨HM13.out.a,HM13.out.m,HM13.out.tl,HM13.out.ts,HM13.out.hl⟩,HQE,HQB,HQR,HQS⟩
    ·go_wp2_with fail
     have hnl:=HD.out.box.1.1
     have HD1:=H_ (HD.out.below ((Below.refl w9.heap.size w9).alloc (Nat.le_refl _) (.cells (List.map (Value.int .i64) [0,1000,1001]).toArray 2)))
     refine (n_any ao len cap g 3 _ (by omega) HD1.out.src).mono ?_
     rintro e w11 ⟨v11,rfl,lo11,_,hi11,hS,hg⟩
     have ht11:v11<3:=hi11 (by omega)
     obtain ⟨i,rfl⟩:∃i:Nat,v11=i:=⟨v11.toNat,by omega⟩
     have hi:i<3:=by omega
     obtain ⟨X,hX⟩:∃X:Int,([0,1000,1001]:List Int)[i]? = some X:=⟨_,List.getElem?_eq_getElem (by simpa using hi)⟩
     have cX:w11.cell? ⟨w9.heap.size,i,none⟩=some (.int .i64 X):=(World.cell?_of_block (a:=⟨w9.heap.size,i,none⟩) (hg.block w9.heap.size (by simp) (by simp;omega))).trans (ints_cell w9 _ _ i X hX)
     have hl11:w9.heap.size<w11.heap.size:=by have:=hg.size;simp at this;omega
     replace HD:=H_ (HD1.out.step hS hg)
     clear hS hg hX hi11 HD1
     obtain ⟨⟨vl,vk⟩,vf⟩:=id HD.out.box
     have f3:=vf 3 (by simp)
     have x3:w11.cell? ⟨V,3,none⟩=some (.int .i64 y.ev):=vk 3 (by simp)
     clear vk vf
     go_wp2_with fail
     have hqe:WdEnd ao len cap g w {y with ev:=X} ta ha (w11.setCell ⟨V,3,none⟩ (.int .i64 X)):=WdEnd.set (y:={y with ev:=X}) ⟨⟨HD.out.own.tg.1,HD.out.own.hr,HD.out.own.tg.ge,HD.out.own.hb⟩,HD.out.src,HD.out.gr,HD.out.gl⟩ (by omega) HD.out.nt HD.out.nh 3 _
     have hqb:BW V [.string y.a,.string y.m,.int .i64 y.mo,.int .i64 X,.int .i64 y.su,.int .i64 y.mx,.slice ta y.ts.length tc,.slice ha y.hs.length hc] (w11.setCell ⟨V,3,none⟩ (.int .i64 X)):=by have:=WinR.BlkW.set HD.out.box 3 (.int .i64 X) (by simp);simpa using this
     have hqr:BW w.heap.size [.string ⟨#[]⟩,.string ⟨#[]⟩,.int .i64 0,.int .i64 0,.int .i64 0,.int .i64 0,.slice none 0 0,.slice none 0 0] (w11.setCell ⟨V,3,none⟩ (.int .i64 X)):=WinR.BlkW.other HD.out.res V 3 _ (by omega)
     go_meet
     case rel=>exact ⟨{y with ev:=X},ta,tc,ha,hc,H_ ⟨HM13.out.a,HM13.out.m,HM13.out.tl,HM13.out.ts,HM13.out.hl⟩,H_ hqe,H_ hqb,H_ hqr,H_ HD.out.slk⟩
    ·obtain ⟨i0,hi,hz0,hz1,hz2⟩:=info_parts WinR.infoT
     have hnh:=HD.out.nh
     go_wp2_with fail
     have HDD:=H_ (HD.out.below (Below.refl _ _).drew)
     refine wp_region_held_drew (S:=(fun W=>V<W.heap.size)) (by kernel_rfl) HDD.out.box.1.1 (fun hHeld=>?_)
     generalize w9.drew=kd at *
     have hdd:=HDD.out
     clear HD HDD
     refine tk 0 (⟨some 60,.fieldAddr 26 (.tmp 3) 6,0,"l07_window.go:212",#[],none⟩) ?_
     refine tk 2 (⟨some 62,.move (.tmp 0),38,"l07_window.go:212",#[],none⟩) ?_
     refine wpAnyH_ready (rs:=[1,3]) (by kernel_rfl) (by simp) ?_
     refine AllReadyH.cons (o:=⟨some 61,.load 23 (.tmp 60),23,"l07_window.go:212",#[⟨0,.data⟩],none⟩) rfl (fun K hK=>?_) (AllReadyH.cons (o:=⟨some 63,.buildSlice 23 2 #[(0,.const (Value.string {data:=#[]})),(1,.const (Value.string {data:=#[122]}))],23,"l07_window.go:212",#[],none⟩) rfl (fun K hK=>?_) AllReadyH.nil)
     ·have xl6:kd.cell? ⟨V,6,none⟩=some (.slice ta y.ts.length tc):=hdd.box.1.2 6 (by simp)
      have xv6:=hdd.box.1.1
      go_simp
      try go_wp2_with fail
      refine hK.out _ _ hdd.box.1.1 (fun _=>?_)
      clear hK K
      try simp only [Act.put,SL]
      clear xl6 xv6
      refine rd 3 (⟨some 63,.buildSlice 23 2 #[(0,.const (Value.string {data:=#[]})),(1,.const (Value.string {data:=#[122]}))],23,"l07_window.go:212",#[],none⟩) (fun K hK=>?_)
      go_simp
      try go_wp2_with fail
      obtain ⟨qa,hqa⟩:∃q,q=kd.alloc (Obj.cells (List.map Value.string [⟨#[]⟩,⟨#[122]⟩]).toArray 9):=⟨_,rfl⟩
      have hal:Below kd.heap.size kd qa:=by rw [hqa];exact (Below.refl _ _).alloc (Nat.le_refl _) _
      have hda:=hdd.below hal
      have hts:Strs kd.heap.size 2 100 qa:=by rw [hqa];exact strs_new kd _ 100 _ (by decide)
      have hUg:w.heap.size<kd.heap.size:=hdd.res.1.1
      show K _ (kd.alloc (Obj.cells (List.map Value.string [⟨#[]⟩,⟨#[122]⟩]).toArray 9))
      rw [←hqa]
      clear hal hqa
      generalize kd.heap.size=U0 at hts hUg ⊢
      refine hK.out _ _ hda.box.1.1 (fun _=>?_)
      clear hK K
      try simp only [Act.put,SL]
      refine rd 4 (⟨some 64,.call {callee:=Callee.value (.func 34),args:=#[.tmp 62,.tmp 63],argTypes:=#[38,23]},9,"l07_window.go:212",#[⟨2,.data⟩,⟨3,.data⟩],none⟩) (fun K hK=>?_)
      go_simp
      go_at_call 34
      refine (pick_any ao len cap g U0 2 100 _ (by omega) (by omega) (by omega) hda.src hts).mono ?_
      rintro e q1 ⟨⟨T,rfl,hT⟩,hS,hg⟩
      try go_wp2_with fail
      have hd1:=hda.step hS hg
      clear hS hg
      refine hK.out _ _ hd1.box.1.1 (fun _=>?_)
      clear hK K
      try simp only [Act.put,SL]
      refine rd 5 (⟨some 65,.buildSlice 23 1 #[(0,.tmp 64)],23,"l07_window.go:212",#[⟨4,.data⟩],none⟩) (fun K hK=>?_)
      go_simp
      try go_wp2_with fail
      obtain ⟨qb,hqb⟩:∃q,q=q1.alloc (Obj.cells #[.string T] 9):=⟨_,rfl⟩
      have hal:Below q1.heap.size q1 qb:=by rw [hqb];exact (Below.refl _ _).alloc (Nat.le_refl _) _
      have hdb:=hd1.below hal
      have hc1:qb.cell? ⟨q1.heap.size,0,none⟩=some (.string T):=by rw [hqb];simp [go_sem]
      show K _ (q1.alloc (Obj.cells #[.string T] 9))
      rw [←hqb]
      clear hal hqb
      generalize q1.heap.size=U1 at hc1 ⊢
      refine hK.out _ _ hdb.box.1.1 (fun _=>?_)
      clear hK K
      try simp only [Act.put,SL]
      refine rd 6 (⟨some 66,.call {callee:=Callee.builtin Builtin.append,args:=#[.tmp 61,.tmp 65],argTypes:=#[23,23]},23,"l07_window.go:212",#[⟨1,.data⟩,⟨5,.data⟩,⟨4,.chain⟩],none⟩) (fun K hK=>?_)
      have d1:∀(i:Nat) u,([.string T]:List Value)[i]? = some u→qb.cell? ((⟨U1,0,none⟩:Addr).add i)=some u:=fun i u hu=>by
       match i,hu with
       | 0,hu=>simp only [List.getElem?_cons_zero,Option.some.injEq] at hu;subst hu;rw [Addr.add_lit];exact hc1
      have d2:∀u∈([.string T]:List Value),u.oneCell'=true:=fun u hu=>by
       simp only [List.mem_cons,List.not_mem_nil,or_false] at hu
       subst hu;rfl
      have htl:=HM13.out.tl
      have d3:y.ts.length+1≤maxLen:=by unfold maxLen;omega
      have d4:(y.ts.length+1)*16≤140737488355328:=by omega
      have d5:w.heap.size+1≤qb.heap.size:=hdb.res.1.1
      refine LinStep.step_append_own rfl _ _ 23 rfl (w.heap.size+1) 9 i0 (.string ⟨#[]⟩) 1 16 Tryd.underlying23 hi hz0 hz1 hz2 rfl (by decide) _ _ _ rfl hdb.own.tg.2 ⟨U1,0,none⟩ 1 1 [.string T] rfl rfl d1 d2 d3 d4 d5 ?_
      intro v' w11 hown hgrow hne
      obtain ⟨ta',tc',rfl,hqe,hqn,hqb,hqr,hqk⟩:=tag_more hdb hown hgrow
      have HQS:Hid (WinR.SlOk ta' (y.ts ++ [T]).length tc'∧WinR.SlOk ha y.hs.length hc):=H_ ⟨by simpa using hqk,hdb.slk.2⟩
      clear hqk
      clear hown hgrow hne d1 d2 d3 d4 d5 htl
      refine hK.out _ _ hqb.1.1 (fun _=>?_)
      clear hK K
      try simp only [Act.put,SL]
      refine tk 7 (⟨some 67,.fieldAddr 26 (.tmp 3) 6,0,"l07_window.go:212",#[⟨0,.phase⟩,⟨1,.phase⟩,⟨2,.phase⟩,⟨3,.phase⟩,⟨4,.phase⟩,⟨5,.phase⟩,⟨6,.phase⟩],none⟩) ?_
      refine rd 8 (⟨none,.store 23 (.tmp 67) (.tmp 66),0,"l07_window.go:212",#[⟨7,.data⟩,⟨6,.data⟩,⟨6,.chain⟩,⟨0,.phase⟩,⟨1,.phase⟩,⟨2,.phase⟩,⟨3,.phase⟩,⟨4,.phase⟩,⟨5,.phase⟩,⟨6,.phase⟩],none⟩) (fun K hK=>?_)
      obtain ⟨⟨vl,vk⟩,vf⟩:=id hqb
      have f6:=vf 6 (by simp)
      have x6:w11.cell? ⟨V,6,none⟩=some (.slice ta y.ts.length tc):=vk 6 (by simp)
      clear vk vf
      go_simp
      try go_wp2_with fail
      have hqe2:=hqe.set (p:=V) (by omega) hqn hnh 6 (.slice ta' (y.ts.length+1) tc')
      have hqb2:BW V [.string y.a,.string y.m,.int .i64 y.mo,.int .i64 y.ev,.int .i64 y.su,.int .i64 y.mx,.slice ta' (y.ts.length+1) tc',.slice ha y.hs.length hc] (w11.setCell ⟨V,6,none⟩ (.slice ta' (y.ts.length+1) tc')):=by have:=WinR.BlkW.set hqb 6 (.slice ta' (y.ts.length+1) tc') (by simp);simpa using this
      have hqr2:=WinR.BlkW.other hqr V 6 (.slice ta' (y.ts.length+1) tc') (by omega)
      refine hK.out _ _ hqb2.1.1 (fun _=>?_)
      clear hK K
      try simp only [Act.put,SL]
      generalize (w11.setCell ⟨V,6,none⟩ (.slice ta' (y.ts.length+1) tc'))=qf at *
      refine wpAnyH_done (by kernel_rfl) ?_ _
      have HQE:=H_ hqe2
      have HQB:Hid (BW V [.string y.a,.string y.m,.int .i64 y.mo,.int .i64 y.ev,.int .i64 y.su,.int .i64 y.mx,.slice ta' (y.ts ++ [T]).length tc',.slice ha y.hs.length hc] qf):=H_ (by have:=hqb2;simpa using this)
      have HQR:=H_ hqr2
      have HTT:=H_ hT
      go_wp2_with fail
      go_meet
      case rel=>exact ⟨{y with ts:=y.ts ++ [T]},ta',tc',ha,hc,H_ ⟨HM13.out.a,HM13.out.m,by have:=HM12.out.tl;simp;omega,fun t ht=>(List.mem_append.1 ht).elim (HM13.out.ts t) (fun h=>by simp only [List.mem_singleton] at h;subst h;exact HTT.out),HM13.out.hl⟩,HQE,HQB,HQR,HQS⟩
     ·go_simp
      try go_wp2_with fail
      obtain ⟨qa,hqa⟩:∃q,q=kd.alloc (Obj.cells (List.map Value.string [⟨#[]⟩,⟨#[122]⟩]).toArray 9):=⟨_,rfl⟩
      have hal:Below kd.heap.size kd qa:=by rw [hqa];exact (Below.refl _ _).alloc (Nat.le_refl _) _
      have hda:=hdd.below hal
      have hts:Strs kd.heap.size 2 100 qa:=by rw [hqa];exact strs_new kd _ 100 _ (by decide)
      have hUg:w.heap.size<kd.heap.size:=hdd.res.1.1
      show K _ (kd.alloc (Obj.cells (List.map Value.string [⟨#[]⟩,⟨#[122]⟩]).toArray 9))
      rw [←hqa]
      clear hal hqa
      generalize kd.heap.size=U0 at hts hUg ⊢
      refine hK.out _ _ hda.box.1.1 (fun _=>?_)
      clear hK K
      try simp only [Act.put,SL]
      refine wpAnyH_ready (rs:=[1,4]) (by kernel_rfl) (by simp) ?_
      refine AllReadyH.cons (o:=⟨some 61,.load 23 (.tmp 60),23,"l07_window.go:212",#[⟨0,.data⟩],none⟩) rfl (fun K hK=>?_) (AllReadyH.cons (o:=⟨some 64,.call {callee:=Callee.value (.func 34),args:=#[.tmp 62,.tmp 63],argTypes:=#[38,23]},9,"l07_window.go:212",#[⟨2,.data⟩,⟨3,.data⟩],none⟩) rfl (fun K hK=>?_) AllReadyH.nil)
      ·have xl6:qa.cell? ⟨V,6,none⟩=some (.slice ta y.ts.length tc):=hda.box.1.2 6 (by simp)
       have xv6:=hda.box.1.1
       go_simp
       try go_wp2_with fail
       refine hK.out _ _ hda.box.1.1 (fun _=>?_)
       clear hK K
       try simp only [Act.put,SL]
       clear xl6 xv6
       refine rd 4 (⟨some 64,.call {callee:=Callee.value (.func 34),args:=#[.tmp 62,.tmp 63],argTypes:=#[38,23]},9,"l07_window.go:212",#[⟨2,.data⟩,⟨3,.data⟩],none⟩) (fun K hK=>?_)
       go_simp
       go_at_call 34
       refine (pick_any ao len cap g U0 2 100 _ (by omega) (by omega) (by omega) hda.src hts).mono ?_
       rintro e q1 ⟨⟨T,rfl,hT⟩,hS,hg⟩
       try go_wp2_with fail
       have hd1:=hda.step hS hg
       clear hS hg
       refine hK.out _ _ hd1.box.1.1 (fun _=>?_)
       clear hK K
       try simp only [Act.put,SL]
       refine rd 5 (⟨some 65,.buildSlice 23 1 #[(0,.tmp 64)],23,"l07_window.go:212",#[⟨4,.data⟩],none⟩) (fun K hK=>?_)
       go_simp
       try go_wp2_with fail
       obtain ⟨qb,hqb⟩:∃q,q=q1.alloc (Obj.cells #[.string T] 9):=⟨_,rfl⟩
       have hal:Below q1.heap.size q1 qb:=by rw [hqb];exact (Below.refl _ _).alloc (Nat.le_refl _) _
       have hdb:=hd1.below hal
       have hc1:qb.cell? ⟨q1.heap.size,0,none⟩=some (.string T):=by rw [hqb];simp [go_sem]
       show K _ (q1.alloc (Obj.cells #[.string T] 9))
       rw [←hqb]
       clear hal hqb
       generalize q1.heap.size=U1 at hc1 ⊢
       refine hK.out _ _ hdb.box.1.1 (fun _=>?_)
       clear hK K
       try simp only [Act.put,SL]
       refine rd 6 (⟨some 66,.call {callee:=Callee.builtin Builtin.append,args:=#[.tmp 61,.tmp 65],argTypes:=#[23,23]},23,"l07_window.go:212",#[⟨1,.data⟩,⟨5,.data⟩,⟨4,.chain⟩],none⟩) (fun K hK=>?_)
       have d1:∀(i:Nat) u,([.string T]:List Value)[i]? = some u→qb.cell? ((⟨U1,0,none⟩:Addr).add i)=some u:=fun i u hu=>by
        match i,hu with
        | 0,hu=>simp only [List.getElem?_cons_zero,Option.some.injEq] at hu;subst hu;rw [Addr.add_lit];exact hc1
       have d2:∀u∈([.string T]:List Value),u.oneCell'=true:=fun u hu=>by
        simp only [List.mem_cons,List.not_mem_nil,or_false] at hu
        subst hu;rfl
       have htl:=HM13.out.tl
       have d3:y.ts.length+1≤maxLen:=by unfold maxLen;omega
       have d4:(y.ts.length+1)*16≤140737488355328:=by omega
       have d5:w.heap.size+1≤qb.heap.size:=hdb.res.1.1
       refine LinStep.step_append_own rfl _ _ 23 rfl (w.heap.size+1) 9 i0 (.string ⟨#[]⟩) 1 16 Tryd.underlying23 hi hz0 hz1 hz2 rfl (by decide) _ _ _ rfl hdb.own.tg.2 ⟨U1,0,none⟩ 1 1 [.string T] rfl rfl d1 d2 d3 d4 d5 ?_
       intro v' w11 hown hgrow hne
       obtain ⟨ta',tc',rfl,hqe,hqn,hqb,hqr,hqk⟩:=tag_more hdb hown hgrow
       have HQS:Hid (WinR.SlOk ta' (y.ts ++ [T]).length tc'∧WinR.SlOk ha y.hs.length hc):=H_ ⟨by simpa using hqk,hdb.slk.2⟩
       clear hqk
       clear hown hgrow hne d1 d2 d3 d4 d5 htl
       refine hK.out _ _ hqb.1.1 (fun _=>?_)
       clear hK K
       try simp only [Act.put,SL]
       refine tk 7 (⟨some 67,.fieldAddr 26 (.tmp 3) 6,0,"l07_window.go:212",#[⟨0,.phase⟩,⟨1,.phase⟩,⟨2,.phase⟩,⟨3,.phase⟩,⟨4,.phase⟩,⟨5,.phase⟩,⟨6,.phase⟩],none⟩) ?_
       refine rd 8 (⟨none,.store 23 (.tmp 67) (.tmp 66),0,"l07_window.go:212",#[⟨7,.data⟩,⟨6,.data⟩,⟨6,.chain⟩,⟨0,.phase⟩,⟨1,.phase⟩,⟨2,.phase⟩,⟨3,.phase⟩,⟨4,.phase⟩,⟨5,.phase⟩,⟨6,.phase⟩],none⟩) (fun K hK=>?_)
       obtain ⟨⟨vl,vk⟩,vf⟩:=id hqb
       have f6:=vf 6 (by simp)
       have x6:w11.cell? ⟨V,6,none⟩=some (.slice ta y.ts.length tc):=vk 6 (by simp)
       clear vk vf
       go_simp
       try go_wp2_with fail
       have hqe2:=hqe.set (p:=V) (by omega) hqn hnh 6 (.slice ta' (y.ts.length+1) tc')
       have hqb2:BW V [.string y.a,.string y.m,.int .i64 y.mo,.int .i64 y.ev,.int .i64 y.su,.int .i64 y.mx,.slice ta' (y.ts.length+1) tc',.slice ha y.hs.length hc] (w11.setCell ⟨V,6,none⟩ (.slice ta' (y.ts.length+1) tc')):=by have:=WinR.BlkW.set hqb 6 (.slice ta' (y.ts.length+1) tc') (by simp);simpa using this
       have hqr2:=WinR.BlkW.other hqr V 6 (.slice ta' (y.ts.length+1) tc') (by omega)
       refine hK.out _ _ hqb2.1.1 (fun _=>?_)
       clear hK K
       try simp only [Act.put,SL]
       generalize (w11.setCell ⟨V,6,none⟩ (.slice ta' (y.ts.length+1) tc'))=qf at *
       refine wpAnyH_done (by kernel_rfl) ?_ _
       have HQE:=H_ hqe2
       have HQB:Hid (BW V [.string y.a,.string y.m,.int .i64 y.mo,.int .i64 y.ev,.int .i64 y.su,.int .i64 y.mx,.slice ta' (y.ts ++ [T]).length tc',.slice ha y.hs.length hc] qf):=H_ (by have:=hqb2;simpa using this)
       have HQR:=H_ hqr2
       have HTT:=H_ hT
       go_wp2_with fail
       go_meet
       case rel=>exact ⟨{y with ts:=y.ts ++ [T]},ta',tc',ha,hc,H_ ⟨HM13.out.a,HM13.out.m,by have:=HM12.out.tl;simp;omega,fun t ht=>(List.mem_append.1 ht).elim (HM13.out.ts t) (fun h=>by simp only [List.mem_singleton] at h;subst h;exact HTT.out),HM13.out.hl⟩,HQE,HQB,HQR,HQS⟩
      ·go_simp
       go_at_call 34
       refine (pick_any ao len cap g U0 2 100 _ (by omega) (by omega) (by omega) hda.src hts).mono ?_
       rintro e q1 ⟨⟨T,rfl,hT⟩,hS,hg⟩
       try go_wp2_with fail
       have hd1:=hda.step hS hg
       clear hS hg
       refine hK.out _ _ hd1.box.1.1 (fun _=>?_)
       clear hK K
       try simp only [Act.put,SL]
       refine wpAnyH_ready (rs:=[1,5]) (by kernel_rfl) (by simp) ?_
       refine AllReadyH.cons (o:=⟨some 61,.load 23 (.tmp 60),23,"l07_window.go:212",#[⟨0,.data⟩],none⟩) rfl (fun K hK=>?_) (AllReadyH.cons (o:=⟨some 65,.buildSlice 23 1 #[(0,.tmp 64)],23,"l07_window.go:212",#[⟨4,.data⟩],none⟩) rfl (fun K hK=>?_) AllReadyH.nil)
       ·have xl6:q1.cell? ⟨V,6,none⟩=some (.slice ta y.ts.length tc):=hd1.box.1.2 6 (by simp)
        have xv6:=hd1.box.1.1
        go_simp
        try go_wp2_with fail
        refine hK.out _ _ hd1.box.1.1 (fun _=>?_)
        clear hK K
        try simp only [Act.put,SL]
        clear xl6 xv6
        refine rd 5 (⟨some 65,.buildSlice 23 1 #[(0,.tmp 64)],23,"l07_window.go:212",#[⟨4,.data⟩],none⟩) (fun K hK=>?_)
        go_simp
        try go_wp2_with fail
        obtain ⟨qb,hqb⟩:∃q,q=q1.alloc (Obj.cells #[.string T] 9):=⟨_,rfl⟩
        have hal:Below q1.heap.size q1 qb:=by rw [hqb];exact (Below.refl _ _).alloc (Nat.le_refl _) _
        have hdb:=hd1.below hal
        have hc1:qb.cell? ⟨q1.heap.size,0,none⟩=some (.string T):=by rw [hqb];simp [go_sem]
        show K _ (q1.alloc (Obj.cells #[.string T] 9))
        rw [←hqb]
        clear hal hqb
        generalize q1.heap.size=U1 at hc1 ⊢
        refine hK.out _ _ hdb.box.1.1 (fun _=>?_)
        clear hK K
        try simp only [Act.put,SL]
        refine rd 6 (⟨some 66,.call {callee:=Callee.builtin Builtin.append,args:=#[.tmp 61,.tmp 65],argTypes:=#[23,23]},23,"l07_window.go:212",#[⟨1,.data⟩,⟨5,.data⟩,⟨4,.chain⟩],none⟩) (fun K hK=>?_)
        have d1:∀(i:Nat) u,([.string T]:List Value)[i]? = some u→qb.cell? ((⟨U1,0,none⟩:Addr).add i)=some u:=fun i u hu=>by
         match i,hu with
         | 0,hu=>simp only [List.getElem?_cons_zero,Option.some.injEq] at hu;subst hu;rw [Addr.add_lit];exact hc1
        have d2:∀u∈([.string T]:List Value),u.oneCell'=true:=fun u hu=>by
         simp only [List.mem_cons,List.not_mem_nil,or_false] at hu
         subst hu;rfl
        have htl:=HM13.out.tl
        have d3:y.ts.length+1≤maxLen:=by unfold maxLen;omega
        have d4:(y.ts.length+1)*16≤140737488355328:=by omega
        have d5:w.heap.size+1≤qb.heap.size:=hdb.res.1.1
        refine LinStep.step_append_own rfl _ _ 23 rfl (w.heap.size+1) 9 i0 (.string ⟨#[]⟩) 1 16 Tryd.underlying23 hi hz0 hz1 hz2 rfl (by decide) _ _ _ rfl hdb.own.tg.2 ⟨U1,0,none⟩ 1 1 [.string T] rfl rfl d1 d2 d3 d4 d5 ?_
        intro v' w11 hown hgrow hne
        obtain ⟨ta',tc',rfl,hqe,hqn,hqb,hqr,hqk⟩:=tag_more hdb hown hgrow
        have HQS:Hid (WinR.SlOk ta' (y.ts ++ [T]).length tc'∧WinR.SlOk ha y.hs.length hc):=H_ ⟨by simpa using hqk,hdb.slk.2⟩
        clear hqk
        clear hown hgrow hne d1 d2 d3 d4 d5 htl
        refine hK.out _ _ hqb.1.1 (fun _=>?_)
        clear hK K
        try simp only [Act.put,SL]
        refine tk 7 (⟨some 67,.fieldAddr 26 (.tmp 3) 6,0,"l07_window.go:212",#[⟨0,.phase⟩,⟨1,.phase⟩,⟨2,.phase⟩,⟨3,.phase⟩,⟨4,.phase⟩,⟨5,.phase⟩,⟨6,.phase⟩],none⟩) ?_
        refine rd 8 (⟨none,.store 23 (.tmp 67) (.tmp 66),0,"l07_window.go:212",#[⟨7,.data⟩,⟨6,.data⟩,⟨6,.chain⟩,⟨0,.phase⟩,⟨1,.phase⟩,⟨2,.phase⟩,⟨3,.phase⟩,⟨4,.phase⟩,⟨5,.phase⟩,⟨6,.phase⟩],none⟩) (fun K hK=>?_)
        obtain ⟨⟨vl,vk⟩,vf⟩:=id hqb
        have f6:=vf 6 (by simp)
        have x6:w11.cell? ⟨V,6,none⟩=some (.slice ta y.ts.length tc):=vk 6 (by simp)
        clear vk vf
        go_simp
        try go_wp2_with fail
        have hqe2:=hqe.set (p:=V) (by omega) hqn hnh 6 (.slice ta' (y.ts.length+1) tc')
        have hqb2:BW V [.string y.a,.string y.m,.int .i64 y.mo,.int .i64 y.ev,.int .i64 y.su,.int .i64 y.mx,.slice ta' (y.ts.length+1) tc',.slice ha y.hs.length hc] (w11.setCell ⟨V,6,none⟩ (.slice ta' (y.ts.length+1) tc')):=by have:=WinR.BlkW.set hqb 6 (.slice ta' (y.ts.length+1) tc') (by simp);simpa using this
        have hqr2:=WinR.BlkW.other hqr V 6 (.slice ta' (y.ts.length+1) tc') (by omega)
        refine hK.out _ _ hqb2.1.1 (fun _=>?_)
        clear hK K
        try simp only [Act.put,SL]
        generalize (w11.setCell ⟨V,6,none⟩ (.slice ta' (y.ts.length+1) tc'))=qf at *
        refine wpAnyH_done (by kernel_rfl) ?_ _
        have HQE:=H_ hqe2
        have HQB:Hid (BW V [.string y.a,.string y.m,.int .i64 y.mo,.int .i64 y.ev,.int .i64 y.su,.int .i64 y.mx,.slice ta' (y.ts ++ [T]).length tc',.slice ha y.hs.length hc] qf):=H_ (by have:=hqb2;simpa using this)
        have HQR:=H_ hqr2
        have HTT:=H_ hT
        go_wp2_with fail
        go_meet
        case rel=>exact ⟨{y with ts:=y.ts ++ [T]},ta',tc',ha,hc,H_ ⟨HM13.out.a,HM13.out.m,by have:=HM12.out.tl;simp;omega,fun t ht=>(List.mem_append.1 ht).elim (HM13.out.ts t) (fun h=>by simp only [List.mem_singleton] at h;subst h;exact HTT.out),HM13.out.hl⟩,HQE,HQB,HQR,HQS⟩
       ·go_simp
        try go_wp2_with fail
        obtain ⟨qb,hqb⟩:∃q,q=q1.alloc (Obj.cells #[.string T] 9):=⟨_,rfl⟩
        have hal:Below q1.heap.size q1 qb:=by rw [hqb];exact (Below.refl _ _).alloc (Nat.le_refl _) _
        have hdb:=hd1.below hal
        have hc1:qb.cell? ⟨q1.heap.size,0,none⟩=some (.string T):=by rw [hqb];simp [go_sem]
        show K _ (q1.alloc (Obj.cells #[.string T] 9))
        rw [←hqb]
        clear hal hqb
        generalize q1.heap.size=U1 at hc1 ⊢
        refine hK.out _ _ hdb.box.1.1 (fun _=>?_)
        clear hK K
        try simp only [Act.put,SL]
        refine rd 1 (⟨some 61,.load 23 (.tmp 60),23,"l07_window.go:212",#[⟨0,.data⟩],none⟩) (fun K hK=>?_)
        have xl6:qb.cell? ⟨V,6,none⟩=some (.slice ta y.ts.length tc):=hdb.box.1.2 6 (by simp)
        have xv6:=hdb.box.1.1
        go_simp
        try go_wp2_with fail
        refine hK.out _ _ hdb.box.1.1 (fun _=>?_)
        clear hK K
        try simp only [Act.put,SL]
        clear xl6 xv6
        refine rd 6 (⟨some 66,.call {callee:=Callee.builtin Builtin.append,args:=#[.tmp 61,.tmp 65],argTypes:=#[23,23]},23,"l07_window.go:212",#[⟨1,.data⟩,⟨5,.data⟩,⟨4,.chain⟩],none⟩) (fun K hK=>?_)
        have d1:∀(i:Nat) u,([.string T]:List Value)[i]? = some u→qb.cell? ((⟨U1,0,none⟩:Addr).add i)=some u:=fun i u hu=>by
         match i,hu with
         | 0,hu=>simp only [List.getElem?_cons_zero,Option.some.injEq] at hu;subst hu;rw [Addr.add_lit];exact hc1
        have d2:∀u∈([.string T]:List Value),u.oneCell'=true:=fun u hu=>by
         simp only [List.mem_cons,List.not_mem_nil,or_false] at hu
         subst hu;rfl
        have htl:=HM13.out.tl
        have d3:y.ts.length+1≤maxLen:=by unfold maxLen;omega
        have d4:(y.ts.length+1)*16≤140737488355328:=by omega
        have d5:w.heap.size+1≤qb.heap.size:=hdb.res.1.1
        refine LinStep.step_append_own rfl _ _ 23 rfl (w.heap.size+1) 9 i0 (.string ⟨#[]⟩) 1 16 Tryd.underlying23 hi hz0 hz1 hz2 rfl (by decide) _ _ _ rfl hdb.own.tg.2 ⟨U1,0,none⟩ 1 1 [.string T] rfl rfl d1 d2 d3 d4 d5 ?_
        intro v' w11 hown hgrow hne
        obtain ⟨ta',tc',rfl,hqe,hqn,hqb,hqr,hqk⟩:=tag_more hdb hown hgrow
        have HQS:Hid (WinR.SlOk ta' (y.ts ++ [T]).length tc'∧WinR.SlOk ha y.hs.length hc):=H_ ⟨by simpa using hqk,hdb.slk.2⟩
        clear hqk
        clear hown hgrow hne d1 d2 d3 d4 d5 htl
        refine hK.out _ _ hqb.1.1 (fun _=>?_)
        clear hK K
        try simp only [Act.put,SL]
        refine tk 7 (⟨some 67,.fieldAddr 26 (.tmp 3) 6,0,"l07_window.go:212",#[⟨0,.phase⟩,⟨1,.phase⟩,⟨2,.phase⟩,⟨3,.phase⟩,⟨4,.phase⟩,⟨5,.phase⟩,⟨6,.phase⟩],none⟩) ?_
        refine rd 8 (⟨none,.store 23 (.tmp 67) (.tmp 66),0,"l07_window.go:212",#[⟨7,.data⟩,⟨6,.data⟩,⟨6,.chain⟩,⟨0,.phase⟩,⟨1,.phase⟩,⟨2,.phase⟩,⟨3,.phase⟩,⟨4,.phase⟩,⟨5,.phase⟩,⟨6,.phase⟩],none⟩) (fun K hK=>?_)
        obtain ⟨⟨vl,vk⟩,vf⟩:=id hqb
        have f6:=vf 6 (by simp)
        have x6:w11.cell? ⟨V,6,none⟩=some (.slice ta y.ts.length tc):=vk 6 (by simp)
        clear vk vf
        go_simp
        try go_wp2_with fail
        have hqe2:=hqe.set (p:=V) (by omega) hqn hnh 6 (.slice ta' (y.ts.length+1) tc')
        have hqb2:BW V [.string y.a,.string y.m,.int .i64 y.mo,.int .i64 y.ev,.int .i64 y.su,.int .i64 y.mx,.slice ta' (y.ts.length+1) tc',.slice ha y.hs.length hc] (w11.setCell ⟨V,6,none⟩ (.slice ta' (y.ts.length+1) tc')):=by have:=WinR.BlkW.set hqb 6 (.slice ta' (y.ts.length+1) tc') (by simp);simpa using this
        have hqr2:=WinR.BlkW.other hqr V 6 (.slice ta' (y.ts.length+1) tc') (by omega)
        refine hK.out _ _ hqb2.1.1 (fun _=>?_)
        clear hK K
        try simp only [Act.put,SL]
        generalize (w11.setCell ⟨V,6,none⟩ (.slice ta' (y.ts.length+1) tc'))=qf at *
        refine wpAnyH_done (by kernel_rfl) ?_ _
        have HQE:=H_ hqe2
        have HQB:Hid (BW V [.string y.a,.string y.m,.int .i64 y.mo,.int .i64 y.ev,.int .i64 y.su,.int .i64 y.mx,.slice ta' (y.ts ++ [T]).length tc',.slice ha y.hs.length hc] qf):=H_ (by have:=hqb2;simpa using this)
        have HQR:=H_ hqr2
        have HTT:=H_ hT
        go_wp2_with fail
        go_meet
        case rel=>exact ⟨{y with ts:=y.ts ++ [T]},ta',tc',ha,hc,H_ ⟨HM13.out.a,HM13.out.m,by have:=HM12.out.tl;simp;omega,fun t ht=>(List.mem_append.1 ht).elim (HM13.out.ts t) (fun h=>by simp only [List.mem_singleton] at h;subst h;exact HTT.out),HM13.out.hl⟩,HQE,HQB,HQR,HQS⟩
    ·go_wp2_with fail
     have HDD:=H_ (HD.out.below (Below.refl _ _).drew)
     refine wp_region_held_drew (S:=(fun W=>V<W.heap.size)) (by kernel_rfl) HDD.out.box.1.1 (fun hHeld=>?_)
     generalize w9.drew=kd at *
     have hdd:=HDD.out
     clear HD HDD
     refine tk 0 (⟨some 28,.fieldAddr 26 (.tmp 3) 2,0,"l07_window.go:214",#[],none⟩) ?_
     refine tk 2 (⟨some 30,.move (.tmp 0),38,"l07_window.go:214",#[],none⟩) ?_
     refine wpAnyH_ready (rs:=[1,3]) (by kernel_rfl) (by simp) ?_
     refine AllReadyH.cons (o:=⟨some 29,.load 2 (.tmp 28),2,"l07_window.go:214",#[⟨0,.data⟩],none⟩) rfl (fun K hK=>?_) (AllReadyH.cons (o:=⟨some 31,.call {callee:=Callee.value (.func 19),args:=#[.tmp 30,.const (Value.int IntKind.i64 2)],argTypes:=#[38,2]},2,"l07_window.go:214",#[⟨2,.data⟩],none⟩) rfl (fun K hK=>?_) AllReadyH.nil)
     ·have xl2:kd.cell? ⟨V,2,none⟩=some (.int .i64 y.mo):=hdd.box.1.2 2 (by simp)
      have xv2:=hdd.box.1.1
      go_simp
      try go_wp2_with fail
      refine hK.out _ _ hdd.box.1.1 (fun _=>?_)
      clear hK K
      try simp only [Act.put,SL]
      clear xl2 xv2
      refine rd 3 (⟨some 31,.call {callee:=Callee.value (.func 19),args:=#[.tmp 30,.const (Value.int IntKind.i64 2)],argTypes:=#[38,2]},2,"l07_window.go:214",#[⟨2,.data⟩],none⟩) (fun K hK=>?_)
      go_simp
      go_at_call 19
      refine (n_any ao len cap g 2 _ (by omega) hdd.src).mono ?_
      rintro e q1 ⟨v10,rfl,lo10,_,hi10,hS,hg⟩
      try go_wp2_with fail
      have hd1:=hdd.step hS hg
      have ht10:v10<2:=hi10 (by omega)
      clear hS hg hi10
      refine hK.out _ _ hd1.box.1.1 (fun _=>?_)
      clear hK K
      try simp only [Act.put,SL]
      refine tk 4 (⟨some 32,.binOp BinOp.add 2 (.tmp 29) (.tmp 31) 2,2,"l07_window.go:214",#[⟨1,.data⟩,⟨3,.data⟩],none⟩) ?_
      refine tk 5 (⟨some 33,.fieldAddr 26 (.tmp 3) 2,0,"l07_window.go:214",#[⟨0,.phase⟩,⟨1,.phase⟩,⟨2,.phase⟩,⟨3,.phase⟩,⟨4,.phase⟩],none⟩) ?_
      refine rd 6 (⟨none,.store 2 (.tmp 33) (.tmp 32),0,"l07_window.go:214",#[⟨5,.data⟩,⟨4,.data⟩,⟨3,.chain⟩,⟨0,.phase⟩,⟨1,.phase⟩,⟨2,.phase⟩,⟨3,.phase⟩,⟨4,.phase⟩],none⟩) (fun K hK=>?_)
      generalize IntKind.i64.wrap (y.mo+v10)=X at *
      obtain ⟨⟨vl,vk⟩,vf⟩:=id hd1.box
      have f2:=vf 2 (by simp)
      have x2:q1.cell? ⟨V,2,none⟩=some (.int .i64 y.mo):=vk 2 (by simp)
      clear vk vf
      go_simp
      try go_wp2_with fail
      have hqe:WdEnd ao len cap g w {y with mo:=X} ta ha (q1.setCell ⟨V,2,none⟩ (.int .i64 X)):=WdEnd.set (y:={y with mo:=X}) ⟨⟨hd1.own.tg.1,hd1.own.hr,hd1.own.tg.ge,hd1.own.hb⟩,hd1.src,hd1.gr,hd1.gl⟩ (by omega) hd1.nt hd1.nh 2 _
      have hqb:BW V [.string y.a,.string y.m,.int .i64 X,.int .i64 y.ev,.int .i64 y.su,.int .i64 y.mx,.slice ta y.ts.length tc,.slice ha y.hs.length hc] (q1.setCell ⟨V,2,none⟩ (.int .i64 X)):=by have:=WinR.BlkW.set hd1.box 2 (.int .i64 X) (by simp);simpa using this
      have hqr:BW w.heap.size [.string ⟨#[]⟩,.string ⟨#[]⟩,.int .i64 0,.int .i64 0,.int .i64 0,.int .i64 0,.slice none 0 0,.slice none 0 0] (q1.setCell ⟨V,2,none⟩ (.int .i64 X)):=WinR.BlkW.other hd1.res V 2 _ (by omega)
      have HQS:=H_ hd1.slk
      refine hK.out _ _ hqb.1.1 (fun _=>?_)
      clear hK K
      try simp only [Act.put,SL]
      generalize (q1.setCell ⟨V,2,none⟩ (.int .i64 X))=qf at *
      refine wpAnyH_done (by kernel_rfl) ?_ _
      have HQE:=H_ hqe
      have HQB:=H_ hqb
      have HQR:=H_ hqr
      go_wp2_with fail
      go_meet
      case rel=>exact ⟨{y with mo:=X},ta,tc,ha,hc,H_ ⟨HM13.out.a,HM13.out.m,HM13.out.tl,HM13.out.ts,HM13.out.hl⟩,HQE,HQB,HQR,HQS⟩
     ·go_simp
      go_at_call 19
      refine (n_any ao len cap g 2 _ (by omega) hdd.src).mono ?_
      rintro e q1 ⟨v10,rfl,lo10,_,hi10,hS,hg⟩
      try go_wp2_with fail
      have hd1:=hdd.step hS hg
      have ht10:v10<2:=hi10 (by omega)
      clear hS hg hi10
      refine hK.out _ _ hd1.box.1.1 (fun _=>?_)
      clear hK K
      try simp only [Act.put,SL]
      refine rd 1 (⟨some 29,.load 2 (.tmp 28),2,"l07_window.go:214",#[⟨0,.data⟩],none⟩) (fun K hK=>?_)
      have xl2:q1.cell? ⟨V,2,none⟩=some (.int .i64 y.mo):=hd1.box.1.2 2 (by simp)
      have xv2:=hd1.box.1.1
      go_simp
      try go_wp2_with fail
      refine hK.out _ _ hd1.box.1.1 (fun _=>?_)
      clear hK K
      try simp only [Act.put,SL]
      clear xl2 xv2
      refine tk 4 (⟨some 32,.binOp BinOp.add 2 (.tmp 29) (.tmp 31) 2,2,"l07_window.go:214",#[⟨1,.data⟩,⟨3,.data⟩],none⟩) ?_
      refine tk 5 (⟨some 33,.fieldAddr 26 (.tmp 3) 2,0,"l07_window.go:214",#[⟨0,.phase⟩,⟨1,.phase⟩,⟨2,.phase⟩,⟨3,.phase⟩,⟨4,.phase⟩],none⟩) ?_
      refine rd 6 (⟨none,.store 2 (.tmp 33) (.tmp 32),0,"l07_window.go:214",#[⟨5,.data⟩,⟨4,.data⟩,⟨3,.chain⟩,⟨0,.phase⟩,⟨1,.phase⟩,⟨2,.phase⟩,⟨3,.phase⟩,⟨4,.phase⟩],none⟩) (fun K hK=>?_)
      generalize IntKind.i64.wrap (y.mo+v10)=X at *
      obtain ⟨⟨vl,vk⟩,vf⟩:=id hd1.box
      have f2:=vf 2 (by simp)
      have x2:q1.cell? ⟨V,2,none⟩=some (.int .i64 y.mo):=vk 2 (by simp)
      clear vk vf
      go_simp
      try go_wp2_with fail
      have hqe:WdEnd ao len cap g w {y with mo:=X} ta ha (q1.setCell ⟨V,2,none⟩ (.int .i64 X)):=WdEnd.set (y:={y with mo:=X}) ⟨⟨hd1.own.tg.1,hd1.own.hr,hd1.own.tg.ge,hd1.own.hb⟩,hd1.src,hd1.gr,hd1.gl⟩ (by omega) hd1.nt hd1.nh 2 _
      have hqb:BW V [.string y.a,.string y.m,.int .i64 X,.int .i64 y.ev,.int .i64 y.su,.int .i64 y.mx,.slice ta y.ts.length tc,.slice ha y.hs.length hc] (q1.setCell ⟨V,2,none⟩ (.int .i64 X)):=by have:=WinR.BlkW.set hd1.box 2 (.int .i64 X) (by simp);simpa using this
      have hqr:BW w.heap.size [.string ⟨#[]⟩,.string ⟨#[]⟩,.int .i64 0,.int .i64 0,.int .i64 0,.int .i64 0,.slice none 0 0,.slice none 0 0] (q1.setCell ⟨V,2,none⟩ (.int .i64 X)):=WinR.BlkW.other hd1.res V 2 _ (by omega)
      have HQS:=H_ hd1.slk
      refine hK.out _ _ hqb.1.1 (fun _=>?_)
      clear hK K
      try simp only [Act.put,SL]
      generalize (q1.setCell ⟨V,2,none⟩ (.int .i64 X))=qf at *
      refine wpAnyH_done (by kernel_rfl) ?_ _
      have HQE:=H_ hqe
      have HQB:=H_ hqb
      have HQR:=H_ hqr
      go_wp2_with fail
      go_meet
      case rel=>exact ⟨{y with mo:=X},ta,tc,ha,hc,H_ ⟨HM13.out.a,HM13.out.m,HM13.out.tl,HM13.out.ts,HM13.out.hl⟩,HQE,HQB,HQR,HQS⟩
   case rest =>
    obtain ⟨y,ta,tc,ha,hc,HM,HE,HX,HR,HK⟩:=hcut
    obtain ⟨⟨vl,vk⟩,vf⟩:=HX.out
    obtain ⟨⟨zl,zk⟩,zf⟩:=HR.out
    have x0:wc.cell? ⟨V,0,none⟩=some (.string y.a):=vk 0 (by simp)
    have x1:wc.cell? ⟨V,1,none⟩=some (.string y.m):=vk 1 (by simp)
    have x2:wc.cell? ⟨V,2,none⟩=some (.int .i64 y.mo):=vk 2 (by simp)
    have x3:wc.cell? ⟨V,3,none⟩=some (.int .i64 y.ev):=vk 3 (by simp)
    have x4:wc.cell? ⟨V,4,none⟩=some (.int .i64 y.su):=vk 4 (by simp)
    have x5:wc.cell? ⟨V,5,none⟩=some (.int .i64 y.mx):=vk 5 (by simp)
    have x6:wc.cell? ⟨V,6,none⟩=some (.slice ta y.ts.length tc):=vk 6 (by simp)
    have x7:wc.cell? ⟨V,7,none⟩=some (.slice ha y.hs.length hc):=vk 7 (by simp)
    have z0:wc.cell? ⟨w.heap.size,0,none⟩=some (.string ⟨#[]⟩):=zk 0 (by simp)
    have g0:=zf 0 (by simp)
    have z1:wc.cell? ⟨w.heap.size,1,none⟩=some (.string ⟨#[]⟩):=zk 1 (by simp)
    have g1:=zf 1 (by simp)
    have z2:wc.cell? ⟨w.heap.size,2,none⟩=some (.int .i64 0):=zk 2 (by simp)
    have g2:=zf 2 (by simp)
    have z3:wc.cell? ⟨w.heap.size,3,none⟩=some (.int .i64 0):=zk 3 (by simp)
    have g3:=zf 3 (by simp)
    have z4:wc.cell? ⟨w.heap.size,4,none⟩=some (.int .i64 0):=zk 4 (by simp)
    have g4:=zf 4 (by simp)
    have z5:wc.cell? ⟨w.heap.size,5,none⟩=some (.int .i64 0):=zk 5 (by simp)
    have g5:=zf 5 (by simp)
    have z6:wc.cell? ⟨w.heap.size,6,none⟩=some (.slice none 0 0):=zk 6 (by simp)
    have g6:=zf 6 (by simp)
    have z7:wc.cell? ⟨w.heap.size,7,none⟩=some (.slice none 0 0):=zk 7 (by simp)
    have g7:=zf 7 (by simp)
    clear vk vf zk zf HX HR
    go_wp2_with fail
    have hret:=WdEnd.ret HE.out [.string y.a,.string y.m,.int .i64 y.mo,.int .i64 y.ev,.int .i64 y.su,.int .i64 y.mx,.slice ta y.ts.length tc,.slice ha y.hs.length hc]
    simp only [StR.stL,Nat.zero_add,Nat.reduceAdd] at hret
    refine bodyPost_ret (v:=.agg #[.string y.a,.string y.m,.int .i64 y.mo,.int .i64 y.ev,.int .i64 y.su,.int .i64 y.mx,.slice ta y.ts.length tc,.slice ha y.hs.length hc]) (by simp [results,Tryd.results14,go_sem,z0,z1,z2,z3,z4,z5,z6,z7]) rfl ⟨y,ta,tc,ha,hc,rfl,HM.out,hret.1,hret.2.1,hret.2.2,HK.out⟩
end DrawR
end Go.Proofs.YteejpnkmnmoebaaDoor
