/-
  The program's copies of sources, of entries, of documents, of windows.
  What is sold, and what is gone: the program's closures.
  What strings.Compare hands back.
  What strings.Compare hands back, against the order of texts.
  The conditions stand in what each theorem says.
-/
import Derived.Shelf.Small.Strs
import Derived.Test.YtnceeaccbcfopaaGreatDoorProg
import Derived.Test.YtnceeaccbcfopaaGreatDoorT29
set_option maxRecDepth 100000
set_option maxHeartbeats 16000000
namespace Go.Proofs.YtnceeaccbcfopaaGreatDoor
open Go.ChangeShapes Go.WideShapes Go.ChangeAt Go.RowKit
set_option linter.unusedVariables false
namespace EngR
open OwG CatR ChG DocR
open RowG (cellsAll grown_set MadeG Rws)
open EvtR (Pt)
theorem infoSo:(Tryz.prog.info? 63).map (fun i=>(i.zero,i.size,i.bytes))=some (some (.agg #[.string ⟨#[]⟩,.int .i64 0]),2,24):=by kernel_rfl
theorem infoWi:(Tryz.prog.info? 106).map (fun i=>(i.zero,i.size,i.bytes))=some (some (.agg #[.string ⟨#[]⟩,.string ⟨#[]⟩,.int .i64 0,.int .i64 0,.int .i64 0,.int .i64 0,.slice none 0 0,.slice none 0 0]),8,112):=by kernel_rfl
theorem icopy_srcs (ao:Option Addr) (cap:Nat) (cs:List Cr) (w:World) (hlen:cs.length≤1048575) (hS:∀c∈cs,c.a.size≤1048576) (hI:Crs ao cs.length cs w) :
 Calls Tryz.prog 77 #[.slice ao cs.length cap] w fun e w'=>∃v,e=.returned v∧w'.ownsRow w.heap.size 63 2 v cs.length (cellsAll Cr.cells cs)∧Below w.heap.size w w':=by
 obtain ⟨j0,gi,gz0,gz1,gz2⟩:=info_parts infoSo
 have HC:=H_ hI
 have HS:=H_ hS
 obtain ⟨len,hl⟩:∃len,len=cs.length:=⟨_,rfl⟩
 have HTE:Hid (cs.take len=cs):=H_ (by rw [hl];exact List.take_length)
 have HL:=H_ hl
 rw [←hl] at hlen ⊢
 clear hI hS hl
 have gsz2:0<2:=by omega
 go_enter Tryz.func77,Tryz.ntmps77
 go_wp2_with fail
 go_loopw [3,8] (fun v z wr=>∃k:Nat,k≤len∧z=.int .i64 k∧Hid (wr.ownsRow w.heap.size 63 2 v k (cellsAll Cr.cells (cs.take k)))∧Hid (Below w.heap.size w wr)) (fun v z _=>len-(intOf z).toNat)
 case atStart=>exact ⟨0,by omega,rfl,H_ (World.ownsRow_nil _ _ _ _),H_ (Below.refl _ _)⟩
 case round =>
  obtain ⟨k,hk,rfl,HO,HB⟩:=hrel
  by_cases hlt:k<len
  ·have hlt2:(k:Int)<(len:Int):=by omega
   have hkl:k<cs.length:=by have:=HL.out;omega
   obtain ⟨b,off,rfl,hbl0,c0,c1⟩:=crs_at (HC.out.below HB.out) k (by have:=HL.out;omega)
   have r1:=HS.out _ (RowG.getD_mem (z:=Cr.zero) cs k hkl)
   have HTK:=H_ (RowG.take_more (z:=Cr.zero) cs k hkl)
   generalize cs.getD k Cr.zero=Y at *
   have HCL2:=H_ (fun W=>CloneR.clone_any Y.a W (by omega))
   have sz1:k+1≤maxLen:=by unfold maxLen;omega
   have sz2:(k+1)*24≤140737488355328:=by omega
   have HVB:Hid (∀x,u3.ownBlock=some x→x<wr.heap.size):=H_ (fun x e=>(HO.out.lt x e).2)
   go_wp2_with fail
   have hZ0:Below wr.heap.size wr (wr.alloc (Obj.cells #[.string Y.a,.int .i64 Y.m] 63)).drew:=(al_ wr (Obj.cells #[.string Y.a,.int .i64 Y.m] 63)).drew
   have hB0:=HB.out.trans (hZ0.mono HB.out.size)
   have hO0:=RowG.own_below HO.out hZ0
   have hX0:BlkW wr.heap.size [.string Y.a,.int .i64 Y.m] (wr.alloc (Obj.cells #[.string Y.a,.int .i64 Y.m] 63)).drew:=(BlkW.new wr [.string Y.a,.int .i64 Y.m] 63).below (Below.refl _ _).drew
   obtain ⟨L0,hL0⟩:∃z,z=wr.heap.size:=⟨_,rfl⟩
   rw [←hL0] at hX0 HVB ⊢
   clear hL0
   have hS0:=s2 hX0.1
   refine wp_region_held_drew (S:=(fun W=>L0<W.heap.size∧W.cell? ⟨L0,0,none⟩=some (.string Y.a)∧W.cell? ⟨L0,1,none⟩=some (.int .i64 Y.m))) (by kernel_rfl) hS0 (fun hHeld=>?_)
   generalize (wr.alloc (Obj.cells #[.string Y.a,.int .i64 Y.m] 63)).drew=kd at *
   refine tk 0 ?_
   refine tk 1 ?_
   refine tk 2 ?_
   refine tk 4 ?_
   refine tk 5 ?_
   refine rd 3 (fun K hK=>?_)
   go_simp
   go_at_call 133
   refine (HCL2.out _).mono ?_
   rintro e q1 ⟨rfl,hb1⟩
   try go_wp2_with fail
   have hB1:=hB0.trans (hb1.mono hB0.size)
   have hO1:=RowG.own_below hO0 hb1
   have hX1:=hX0.below hb1
   have hS1:=s2 hX1.1
   refine hK.out _ _ hS1 (fun _=>?_)
   clear hK K
   try simp only [Act.put,SL]
   refine tk 6 ?_
   refine rd 7 (fun K hK=>?_)
   go_simp
   try go_wp2_with fail
   have hB2:=hB1.alloc hB1.size (Obj.cells #[.string Y.a,.int .i64 Y.m] 63)
   have hO2:=RowG.own_below hO1 (al_ q1 (Obj.cells #[.string Y.a,.int .i64 Y.m] 63))
   have hX2:=hX1.below (al_ q1 (Obj.cells #[.string Y.a,.int .i64 Y.m] 63))
   have hS2:=s2 hX2.1
   have hnw:∀j u,([.string Y.a,.int .i64 Y.m]:List Value)[j]? = some u→(q1.alloc (Obj.cells #[.string Y.a,.int .i64 Y.m] 63)).cell? ((⟨q1.heap.size,0,none⟩:Addr).add j)=some u:=new_cells q1 [.string Y.a,.int .i64 Y.m] 63
   refine hK.out _ _ hS2 (fun _=>?_)
   clear hK K
   try simp only [Act.put,SL]
   obtain ⟨bN,hbN⟩:∃z,z=q1.heap.size:=⟨_,rfl⟩
   rw [←hbN] at hnw ⊢
   obtain ⟨k2,hk2⟩:∃z,z=q1.alloc (Obj.cells #[.string Y.a,.int .i64 Y.m] 63):=⟨_,rfl⟩
   rw [←hk2] at hnw hB2 hO2 hX2 hS2 ⊢
   clear hbN hk2
   refine rd 8 (fun K hK=>?_)
   refine step_append_c rfl _ _ 37 rfl w.heap.size 63 j0 (.agg #[.string ⟨#[]⟩,.int .i64 0]) 2 24 Tryz.underlying37 gi gz0 gz1 gz2 rfl gsz2 _ _ _ rfl hO2 ⟨bN,0,none⟩ 1 1 [.string Y.a,.int .i64 Y.m] rfl rfl hnw (cr_one Y.a Y.m) sz1 sz2 hB2.size ?_
   intro v9 w9 hown hgrow hne
   have hB9:=hB2.grown hgrow hB2.size (fun _ e=>by have:=(hO2.lt _ e).1;omega)
   have hX9:=blkW_grown hX2 hgrow (fun e=>by have:=HVB.out _ e.symm;omega)
   have hS9:=s2 hX9.1
   have hO9:w9.ownsRow w.heap.size 63 2 v9 (k+1) (cellsAll Cr.cells (cs.take (k+1))):=by
    rw [HTK.out,RowG.cellsAll_app]
    exact hown
   clear hown hgrow hne hnw
   refine hK.out _ _ hS9 (fun _=>?_)
   clear hK K
   try simp only [Act.put,SL]
   refine tk 9 ?_
   refine wpAnyH_done (by kernel_rfl) ?_ _
   have HO9:=H_ hO9
   have HB9:=H_ hB9
   clear hO9 hB9 hX9 hS9
   go_wp2_with fail
   go_roundw
   case rel=>exact ⟨k+1,by omega,by go_num,HO9,HB9⟩
   case measure=>simp [intOf];omega
  ·have hlt2:¬(k:Int)<(len:Int):=by omega
   obtain rfl:k=len:=by omega
   rw [HTE.out] at HO
   go_wp2_with fail
   go_ret
   exact ⟨_,rfl,HO.out,HB.out⟩
theorem icopy_ens (ao:Option Addr) (cap:Nat) (es:List SeenR.N) (w:World) (hlen:es.length≤40) (hS:∀e∈es,e.i.size≤1048576) (hI:SeenR.Ens ao es w) :
 Calls Tryz.prog 78 #[.slice ao es.length cap] w fun e w'=>∃v,e=.returned v∧w'.ownsRow w.heap.size 110 3 v es.length (cellsAll SeenR.N.cells es)∧Below w.heap.size w w':=by
 have he:∀args w,(callFunc 135 args).run Tryz.prog w=.ok (.enter 135 args) w:=fun args w=>by simp [go_sem]
 have hf:es.filter (fun _=>true)=es:=by simp
 have HK:=SeenR.keep_any ao cap es (fun _=>true) 135 #[] w hlen hS hI (fun x W _=>by
  obtain ⟨xi,xn,xs⟩:=x
  show Calls Tryz.prog 135 #[.agg #[.string xi,.int .i64 xn,.int .i64 xs]] W _
  go_enter Tryz.func135,Tryz.ntmps135
  go_wp2_with fail
  go_ret
  exact ⟨rfl,by first|exact (Below.refl _ _).alloc (Nat.le_refl _) _|exact Below.refl _ _⟩) he
 rw [hf] at HK
 replace HK:=H_ HK
 generalize es.length=len at *
 clear hI hS he hf
 go_enter Tryz.func78,Tryz.ntmps78
 go_wp2_with fail
 refine HK.out.mono ?_
 rintro e w1 ⟨v,rfl,ho,hb⟩
 have HO:=H_ ho
 have HB:=H_ hb
 clear ho hb
 go_wp2_with fail
 go_ret
 exact ⟨_,rfl,HO.out,HB.out⟩
theorem icopy_d (d:DocR.D) (la:Option Addr) (lc:Nat) (w:World) (ha:d.a.size≤1048576) (hlen:d.ls.length≤1048576) (hS:∀e∈d.ls,e.i.size≤1048576) (hz:d.ls.filter LinR.nz=d.ls) (hI:LinR.Lis la d.ls w) :
 Calls Tryz.prog 138 #[.agg #[.string d.a,.int .i64 d.mo,.int .i64 d.sq,.slice la d.ls.length lc]] w fun e w'=>∃no nc,e=.returned (.agg #[.string d.a,.int .i64 d.mo,.int .i64 d.sq,.slice no d.ls.length nc])∧LedR.LnO w.heap.size ⟨d,no,nc⟩ w'∧Below w.heap.size w w':=by
 refine (LedR.icopy d la lc w ha hlen hS hI).mono ?_
 rintro e w' ⟨v,rfl,ho,hb⟩
 rw [hz] at ho
 obtain ⟨no,nc,rfl,_⟩:=RowG.own_made (z:=LinR.N.zero) LinR.N.len ho
 exact ⟨no,nc,rfl,ho,hb⟩
theorem icopy_docs (ao:Option Addr) (cap:Nat) (ds:List DocR.D) (w:World) (hlen:ds.length≤1048575) (hS:∀d∈ds,d.a.size≤1048576∧d.ls.length≤1048576∧(∀e∈d.ls,e.i.size≤1048576)∧d.ls.filter LinR.nz=d.ls) (hI:LedR.Dcs ao ds w) :
 Calls Tryz.prog 80 #[.slice ao ds.length cap] w fun e w'=>∃v,e=.returned v∧LedR.DsO w.heap.size v ds w'∧Below w.heap.size w w':=by
 obtain ⟨i0,hi,hz0,hz1,hz2⟩:=info_parts LedR.infoD
 have HI:=H_ hI
 have HS:=H_ hS
 obtain ⟨len,hl⟩:∃len,len=ds.length:=⟨_,rfl⟩
 have HLN:=H_ hl
 have HEND:Hid (ds.take len=ds):=H_ (by rw [hl];exact List.take_length)
 rw [←hl] at hlen ⊢
 clear hI hS hl
 go_enter Tryz.func80,Tryz.ntmps80
 go_wp2_with fail
 go_loopw [3,8] (fun v z wr=>∃k:Nat,k≤len∧z=.int .i64 k∧Hid (LedR.DsO w.heap.size v (ds.take k) wr)∧Hid (Below w.heap.size w wr)) (fun v z _=>len-(intOf z).toNat)
 case atStart=>exact ⟨0,by omega,rfl,H_ (LedR.dso_nil _ _),H_ (Below.refl _ _)⟩
 case round =>
  obtain ⟨k,hk,rfl,HO,HB⟩:=hrel
  by_cases hlt:k<len
  ·have hlt2:(k:Int)<(len:Int):=by omega
   have hkl:k<ds.length:=by have:=HLN.out;omega
   obtain ⟨b,off,la,lc,rfl,hbl,c0,c1,c2,c3,hLi⟩:=(HI.out.below HB.out).at k hkl
   obtain ⟨s1,s2,s3,s4⟩:=HS.out _ (RowG.getD_mem (z:=LedR.D.zero) ds k hkl)
   have HT:=H_ (RowG.take_more (z:=LedR.D.zero) ds k hkl)
   have HDK:Hid ((ds.take k).length=k):=H_ (by rw [List.length_take];omega)
   generalize ds.getD k LedR.D.zero=X at *
   obtain ⟨xs,hx1,hx2,hx3,hx4⟩:=HO.out
   have HX1:=H_ hx1
   have HX2:=H_ hx2
   have HX3:=H_ hx3
   have HX4:=H_ hx4
   have HSD:=H_ (fun W (hb:Below wr.heap.size wr W)=>icopy_d X la lc W s1 s2 s3 s4 (hLi.below hb))
   obtain ⟨a,mo,sq,ls⟩:=X
   dsimp only at c0 c1 c2 c3 HSD s2
   obtain ⟨nl,hnl⟩:∃nl,nl=ls.length:=⟨_,rfl⟩
   rw [←hnl] at c3 HSD s2
   have HNL:=H_ hnl
   clear hx1 hx2 hx3 hx4 hLi hnl HO s1 s3 s4
   go_wp2_with fail
   refine (HSD.out _ (by first|exact (Below.refl _ _).alloc (Nat.le_refl _) _|exact (al_ _ _).drew)).mono ?_
   have al0:Below wr.heap.size wr (wr.alloc (.cells #[.string a,.int .i64 mo,.int .i64 sq,.slice la nl lc] 122)):=(Below.refl _ _).alloc (Nat.le_refl _) _
   have hal0:=al0.size
   rintro e w1 ⟨no,nc,rfl,hnew,hb⟩
   have hb1:Below wr.heap.size wr w1:=by first|exact al0.trans (hb.mono al0.size)|exact al0.drew.trans (hb.mono al0.drew.size)
   have HN1:Hid (LedR.LnO wr.heap.size ⟨⟨a,mo,sq,ls⟩,no,nc⟩ w1):=H_ (hnew.low hal0)
   have HB1:=H_ hb1
   have HS1:Hid (w.heap.size≤wr.heap.size):=H_ HB.out.size
   obtain ⟨w2,hw2⟩:∃z,z=w1.alloc (.cells #[.string a,.int .i64 mo,.int .i64 sq,.slice no nl nc] 122):=⟨_,rfl⟩
   have al:Below w1.heap.size w1 w2:=by rw [hw2];exact (Below.refl _ _).alloc (Nat.le_refl _) _
   have HAL:=H_ al
   have HO2:=H_ (RowG.own_below (RowG.own_below HX2.out hb1) al)
   have HNW:Hid (∀j u,([.string a,.int .i64 mo,.int .i64 sq,.slice no nl nc]:List Value)[j]? = some u→w2.cell? ((⟨w1.heap.size,0,none⟩:Addr).add j)=some u):=H_ (by rw [hw2];exact LedR.new_cells4 w1 [.string a,.int .i64 mo,.int .i64 sq,.slice no nl nc] 122)
   have HS2:Hid (w.heap.size≤w2.heap.size):=H_ (by have:=al.size;have:=hb1.size;have:=HB.out.size;omega)
   have HW2:=H_ hw2
   have HDO:Hid (∀u∈([.string a,.int .i64 mo,.int .i64 sq,.slice no nl nc]:List Value),u.oneCell'=true):=H_ (by intro u hu;simp at hu;rcases hu with rfl|rfl|rfl|rfl<;>rfl)
   rw [HDK.out] at HO2
   have hsz1:k+1≤maxLen:=by unfold maxLen;omega
   have hsz2:(k+1)*56≤140737488355328:=by omega
   clear hnew hb hb1 al al0 hal0 hw2 HSD
   go_wp2_with (at_builtin;rw [←HW2.out];refine wpList_append_own _ rfl _ _ 40 rfl w.heap.size 122 i0 (.agg #[.string ⟨#[]⟩,.int .i64 0,.int .i64 0,.slice none 0 0]) 4 56 Tryz.underlying40 hi hz0 hz1 hz2 rfl (by decide) _ _ _ rfl HO2.out ⟨w1.heap.size,0,none⟩ 1 1 [.string a,.int .i64 mo,.int .i64 sq,.slice no nl nc] rfl rfl HNW.out HDO.out hsz1 hsz2 HS2.out ?_)
   intro v' w9 hown hgrow hne
   have HD9:Hid (LedR.DsO w.heap.size v' (ds.take (k+1)) w9):=H_ (by
    rw [HT.out]
    have e:=HNL.out
    subst e
    have h:=LedR.dso_snoc (d:=⟨a,mo,sq,ls⟩) (la:=no) (lc:=nc) HX1.out (fun x hx=>RowG.own_below (RowG.own_below (HX3.out x hx) HB1.out) HAL.out) HX4.out (RowG.own_below (OwG.own_low HN1.out HS1.out) HAL.out) (fun x hx b h1 h2=>by
     have p1:=((HX3.out x hx).lt b h1).2
     have p2:=(HN1.out.lt b h2).1
     omega) (by rw [HDK.out];exact HO2.out) hgrow (by rw [HDK.out];exact hown)
    exact ⟨_,h.1,h.2.1,h.2.2.1,h.2.2.2⟩)
   have HB9:Hid (Below w.heap.size w w9):=H_ (((HB.out.trans (HB1.out.mono HB.out.size)).trans (HAL.out.mono (Nat.le_trans HB.out.size HB1.out.size))).grown hgrow HS2.out (fun k e=>by have:=(HO2.out.lt k e).1;omega))
   clear hown hgrow hne
   go_wp2_with fail
   go_roundw
   case rel=>exact ⟨k+1,by omega,by go_num,HD9,HB9⟩
   case measure=>simp [intOf];omega
  ·have hlt2:¬(k:Int)<(len:Int):=by omega
   obtain rfl:k=len:=by omega
   rw [HEND.out] at HO
   go_wp2_with fail
   go_ret
   exact ⟨_,rfl,HO.out,HB.out⟩
theorem icopy_w (x:WinR.Wd) (ta:Option Addr) (tc:Nat) (ha:Option Addr) (hc:Nat) (w:World) (la:x.a.size≤1048576) (lm:x.m.size≤1048576) (lt:x.ts.length≤1048576) (lts:∀t∈x.ts,t.size≤1048576) (lh:x.hs.length≤1048576) (l1:1≤x.hs.length) (hT:WinR.Tgs ta x.ts w) (hH:WinR.Hrs ha x.hs w) :
 Calls Tryz.prog 137 #[.agg #[.string x.a,.string x.m,.int .i64 x.mo,.int .i64 x.ev,.int .i64 x.su,.int .i64 x.mx,.slice ta x.ts.length tc,.func (.func 212) #[] #[],.func (.func 213) #[] #[],.slice ha x.hs.length hc,.func (.func 214) #[] #[],.func (.func 215) #[] #[]]] w fun e w'=>∃na nc ma mc,e=.returned (.agg #[.string x.a,.string x.m,.int .i64 x.mo,.int .i64 x.ev,.int .i64 x.su,.int .i64 x.mx,.slice na x.ts.length nc,.slice ma x.hs.length mc])∧WaO w.heap.size ⟨x,na,nc,ma,mc⟩ w'∧Below w.heap.size w w':=by
 refine (WinR.impl_win x ta tc ha hc w la lm lt lts lh l1 hT hH).mono ?_
 rintro e w' ⟨v,rfl,⟨na,nc,ma,mc,rfl,h1,h2,h3⟩,hb⟩
 refine ⟨na,nc,ma,mc,rfl,⟨h1,h2,fun b q1 q2=>?_⟩,hb⟩
 rcases h3 with h3|h3|h3
 ·exact q1.1 h3
 ·exact q2.1 h3
 ·exact h3 b 0 b 0 q1.2 q2.2 rfl
theorem icopy_wins (ao:Option Addr) (cap:Nat) (ws:List WinR.Wd) (w:World) (hlen:ws.length≤1048575) (hS:∀x∈ws,x.a.size≤1048576∧x.m.size≤1048576∧x.ts.length≤1048576∧(∀t∈x.ts,t.size≤1048576)∧x.hs.length≤1048576∧1≤x.hs.length) (hI:WinR.Wns ao ws w) :
 Calls Tryz.prog 79 #[.slice ao ws.length cap] w fun e w'=>∃v,e=.returned v∧WsQ w.heap.size v ws w'∧Below w.heap.size w w':=by
 obtain ⟨i0,hi,hz0,hz1,hz2⟩:=info_parts infoWi
 have HI:=H_ hI
 have HS:=H_ hS
 obtain ⟨len,hl⟩:∃len,len=ws.length:=⟨_,rfl⟩
 have HLN:=H_ hl
 have HEND:Hid (ws.take len=ws):=H_ (by rw [hl];exact List.take_length)
 rw [←hl] at hlen ⊢
 clear hI hS hl
 go_enter Tryz.func79,Tryz.ntmps79
 go_wp2_with fail
 go_loopw [3,8] (fun v z wr=>∃k:Nat,k≤len∧z=.int .i64 k∧Hid (WsQ w.heap.size v (ws.take k) wr)∧Hid (Below w.heap.size w wr)) (fun v z _=>len-(intOf z).toNat)
 case atStart=>exact ⟨0,by omega,rfl,H_ (wsq_nil _ _),H_ (Below.refl _ _)⟩
 case round =>
  obtain ⟨k,hk,rfl,HO,HB⟩:=hrel
  by_cases hlt:k<len
  ·have hlt2:(k:Int)<(len:Int):=by omega
   have hkl:k<ws.length:=by have:=HLN.out;omega
   obtain ⟨b,off,ta,tc,ha,hc,rfl,hbl,c0,c1,c2,c3,c4,c5,c6,c7,hT,hH⟩:=(HI.out.below HB.out).at k hkl
   obtain ⟨s1,s2,s3,s4,s5,s6⟩:=HS.out _ (RowG.getD_mem (z:=WinR.Wd.zero) ws k hkl)
   have HT:=H_ (RowG.take_more (z:=WinR.Wd.zero) ws k hkl)
   have HDK:Hid ((ws.take k).length=k):=H_ (by rw [List.length_take];omega)
   generalize ws.getD k WinR.Wd.zero=X at *
   obtain ⟨xs,hx1,hx2,hx3,hx4,hx5⟩:=HO.out
   have hxl:xs.length=k:=by have:=HDK.out;rw [←hx1] at this;simpa using this
   have HX1:=H_ hx1
   have HX2:=H_ (by rw [HDK.out] at hx2;exact hx2:wr.ownsRow w.heap.size 106 8 u3 k (cellsAll WA.cells xs))
   have HX3:=H_ hx3
   have HX4:=H_ hx4
   have HX5:=H_ hx5
   have HXL:=H_ hxl
   have HSD:=H_ (fun W (hb:Below wr.heap.size wr W)=>icopy_w X ta tc ha hc W s1 s2 s3 s4 s5 s6 (hT.below hb) (hH.below hb))
   have HUS:=H_ (fun W=>WinR.impl_usage X.a X.m X.mo X.ev X.su X.mx ta X.ts.length tc ha X.hs.length hc W)
   obtain ⟨a,m,mo,ev,su,mx,ts,hs⟩:=X
   dsimp only at c0 c1 c2 c3 c4 c5 c6 c7 HSD HUS s3 s5
   obtain ⟨tl,htl⟩:∃n,n=ts.length:=⟨_,rfl⟩
   obtain ⟨hl,hhl⟩:∃n,n=hs.length:=⟨_,rfl⟩
   rw [←htl] at c6 HSD HUS s3
   rw [←hhl] at c7 HSD HUS s5
   have HTL:=H_ htl
   have HHL:=H_ hhl
   clear hx1 hx2 hx3 hx4 hx5 hxl hT hH htl hhl HO s1 s2 s4 s6
   go_wp2_with fail
   obtain ⟨Wz,hWz⟩:∃z,z=wr.alloc (.cells #[.string a,.string m,.int .i64 mo,.int .i64 ev,.int .i64 su,.int .i64 mx,.slice ta tl tc,.slice ha hl hc] 106):=⟨_,rfl⟩
   have al0:Below wr.heap.size wr Wz:=by rw [hWz];exact (Below.refl _ _).alloc (Nat.le_refl _) _
   refine (HUS.out _).mono ?_
   rw [←hWz]
   rintro e y1 ⟨rfl,hy⟩
   have HY:Hid (Below wr.heap.size wr y1):=H_ (al0.trans (hy.mono al0.size))
   clear al0 hWz hy Wz
   go_wp2_with fail
   refine (HSD.out _ HY.out).mono ?_
   rintro e w1 ⟨na,nc,ma,mc,rfl,hnew,hb⟩
   have hb1:Below wr.heap.size wr w1:=HY.out.trans (hb.mono HY.out.size)
   have HN1:Hid (WaO wr.heap.size ⟨⟨a,m,mo,ev,su,mx,ts,hs⟩,na,nc,ma,mc⟩ w1):=H_ (hnew.low HY.out.size)
   have HB1:=H_ hb1
   have HS1:Hid (w.heap.size≤wr.heap.size):=H_ HB.out.size
   obtain ⟨w2,hw2⟩:∃z,z=w1.alloc (.cells #[.string a,.string m,.int .i64 mo,.int .i64 ev,.int .i64 su,.int .i64 mx,.slice na tl nc,.slice ma hl mc] 106):=⟨_,rfl⟩
   have al:Below w1.heap.size w1 w2:=by rw [hw2];exact (Below.refl _ _).alloc (Nat.le_refl _) _
   have HAL:=H_ al
   have HO2:=H_ (RowG.own_below (RowG.own_below HX2.out hb1) al)
   have HNW:Hid (∀j u,([.string a,.string m,.int .i64 mo,.int .i64 ev,.int .i64 su,.int .i64 mx,.slice na tl nc,.slice ma hl mc]:List Value)[j]? = some u→w2.cell? ((⟨w1.heap.size,0,none⟩:Addr).add j)=some u):=H_ (by rw [hw2];exact LedR.new_cells4 w1 [.string a,.string m,.int .i64 mo,.int .i64 ev,.int .i64 su,.int .i64 mx,.slice na tl nc,.slice ma hl mc] 106)
   have HS2:Hid (w.heap.size≤w2.heap.size):=H_ (by have:=al.size;have:=hb1.size;have:=HB.out.size;omega)
   have HW2:=H_ hw2
   have HDO:Hid (∀u∈([.string a,.string m,.int .i64 mo,.int .i64 ev,.int .i64 su,.int .i64 mx,.slice na tl nc,.slice ma hl mc]:List Value),u.oneCell'=true):=H_ (by intro u hu;simp at hu;rcases hu with rfl|rfl|rfl|rfl|rfl|rfl|rfl|rfl<;>rfl)
   have hsz1:k+1≤maxLen:=by unfold maxLen;omega
   have hsz2:(k+1)*112≤140737488355328:=by omega
   clear hnew hb hb1 al hw2 HSD HUS
   go_wp2_with (at_builtin;rw [←HW2.out];refine RowG.wpList_append_fresh _ rfl _ _ 39 rfl w.heap.size 106 i0 (.agg #[.string ⟨#[]⟩,.string ⟨#[]⟩,.int .i64 0,.int .i64 0,.int .i64 0,.int .i64 0,.slice none 0 0,.slice none 0 0]) 8 112 Tryz.underlying39 hi hz0 hz1 hz2 rfl (by decide) _ _ _ rfl HO2.out ⟨w1.heap.size,0,none⟩ 1 1 (by decide) [.string a,.string m,.int .i64 mo,.int .i64 ev,.int .i64 su,.int .i64 mx,.slice na tl nc,.slice ma hl mc] rfl rfl HNW.out HDO.out hsz1 hsz2 HS2.out ?_)
   intro v' w9 hown hgrow hne hfr
   have HD9:Hid (WsQ w.heap.size v' (ws.take (k+1)) w9):=H_ (by
    rw [HT.out,←HX1.out]
    have e1:=HTL.out
    have e2:=HHL.out
    subst e1 e2
    have hk2:∀y∈xs,∀b,y.T b→b<wr.heap.size:=fun y hy b q=>((HX3.out y hy).lt q).2
    have h:=wsq_more (L:=wr.heap.size) (y:=⟨⟨a,m,mo,ev,su,mx,ts,hs⟩,na,nc,ma,mc⟩) (by rw [HXL.out];exact HO2.out) (fun y hy=>((HX3.out y hy).below HB1.out).below HAL.out) HX4.out HX5.out hk2 (fun b q=>(HX2.out.lt b q).2) (HN1.out.below HAL.out) HS1.out hgrow (by rw [HXL.out];exact hown) hfr
    rw [List.map_append] at h
    exact h)
   have HB9:Hid (Below w.heap.size w w9):=H_ (((HB.out.trans (HB1.out.mono HB.out.size)).trans (HAL.out.mono (Nat.le_trans HB.out.size HB1.out.size))).grown hgrow HS2.out (fun k e=>by have:=(HO2.out.lt k e).1;omega))
   clear hown hgrow hne hfr
   go_wp2_with fail
   go_roundw
   case rel=>exact ⟨k+1,by omega,by go_num,HD9,HB9⟩
   case measure=>simp [intOf];omega
  ·have hlt2:¬(k:Int)<(len:Int):=by omega
   obtain rfl:k=len:=by omega
   rw [HEND.out] at HO
   go_wp2_with fail
   go_ret
   exact ⟨_,rfl,HO.out,HB.out⟩
end EngR
namespace EngR
open CatR
def sellB (ms:List Me) (t:ByteArray):Bool:=ms.any (fun m=>decide (m.n=t))
theorem sell1 (n:ByteArray) (g:Int) (wh:Bool) (f l:Int) (ta:Option Addr) (tl tc:Nat) (t:ByteArray) (B:Nat) (w:World) (hB:B<w.heap.size) (hc:w.cell? ⟨B,0,none⟩=some (.string t)) :
 Calls Tryz.prog 177 #[.agg #[.string n,.int .i64 g,.bool wh,.int .i64 f,.int .i64 l,.slice ta tl tc],.pointer (some ⟨B,0,none⟩)] w fun e w'=>e=.returned (.bool (decide (n=t)))∧Below w.heap.size w w':=by
 have HB:Hid (Below w.heap.size w (w.alloc (.cells #[.string n,.int .i64 g,.bool wh,.int .i64 f,.int .i64 l,.slice ta tl tc] 150))):=H_ (al_ _ _)
 by_cases h:n=t
 ·subst h
  go_enter Tryz.func177,Tryz.ntmps177
  go_wp2_with fail
  go_ret
  exact ⟨by simp,HB.out⟩
 ·have hne2:(n.toList==t.toList)=false:=by simpa using fun q=>h (LtR.toList_inj q)
  rw [decide_eq_false h]
  go_enter Tryz.func177,Tryz.ntmps177
  go_wp2_with fail
  go_ret
  exact ⟨rfl,HB.out⟩
theorem idxM (ma:Option Addr) (mc:Nat) (ms:List Me) (t:ByteArray) (B:Nat) (w:World) (hM:Mes ma ms.length ms w) (hlen:ms.length≤1048576) (hB:B<w.heap.size) (hc:w.cell? ⟨B,0,none⟩=some (.string t)) :
 Calls Tryz.prog 209 #[.slice ma ms.length mc,.func (.func 177) #[] #[.pointer (some ⟨B,0,none⟩)]] w fun e w'=>(∃n:Int,e=.returned (.int .i64 n)∧((0≤n)=(sellB ms t=true)))∧Below w.heap.size w w':=by
 have HM:=H_ hM
 have HC:=H_ hc
 have HY:Hid (∀k,k<ms.length→(ms.getD k Me.zero).n=t→(∀n:Int,0≤n→((0≤n)=(sellB ms t=true)))):=H_ (fun k hk e n hn=>by
  have h1:sellB ms t=true:=List.any_eq_true.2 ⟨ms[k],List.getElem_mem hk,by simpa [List.getD,hk] using e⟩
  simp [hn,h1])
 have HNo:Hid ((∀i,i<ms.length→(ms.getD i Me.zero).n≠t)→((0≤(-1:Int))=(sellB ms t=true))):=H_ (fun h=>by
  have h1:sellB ms t=false:=by
   cases hq:sellB ms t with
   | false=>rfl
   | true =>
    obtain ⟨m,hm,hn⟩:=List.any_eq_true.1 hq
    obtain ⟨i,hi,rfl⟩:=List.getElem_of_mem hm
    exact absurd (by simpa [List.getD,hi] using hn) (h i hi)
  simp [h1])
 generalize (sellB ms t=true)=SB at *
 obtain ⟨len,hl⟩:∃len,len=ms.length:=⟨_,rfl⟩
 rw [←hl] at hlen HY HNo ⊢
 have HL:=H_ hl
 clear hM hc hl
 go_enter Tryz.func209,Tryz.ntmps209
 go_wp2_with fail
 go_loopw [5,8] (fun y z wr=>∃k:Nat,k≤len∧z=.int .i64 k∧Hid (∀i,i<k→(ms.getD i Me.zero).n≠t)∧Hid (Below w.heap.size w wr)) (fun _ z _=>len-(intOf z).toNat)
 case atStart=>exact ⟨0,by omega,rfl,H_ (fun i hi=>absurd hi (by omega)),H_ (Below.refl _ _)⟩
 case round =>
  obtain ⟨k,hk,rfl,HN,HB⟩:=hrel
  by_cases hlt:k<len
  ·have hlt2:(k:Int)<(len:Int):=by omega
   obtain ⟨b,off,rfl,hbl,ta,tc,c0,c1,c2,c3,c4,c5,hT⟩:=mes_at (HM.out.below HB.out) k (by have:=HL.out;omega)
   have HYk:=H_ (HY.out k (by omega))
   have HNk:Hid ((ms.getD k Me.zero).n≠t→∀i,i<k+1→(ms.getD i Me.zero).n≠t):=H_ (fun h i hi=>by
    by_cases e:i=k
    ·subst e;exact h
    ·exact HN.out i (by omega))
   have hBl:B<wr.heap.size:=by have:=HB.out.size;omega
   have hcw:wr.cell? ⟨B,0,none⟩=some (.string t):=(HB.out.cell (p:=⟨B,0,none⟩) hB).trans HC.out
   generalize ms.getD k Me.zero=X at *
   obtain ⟨xn,xg,xw,xf,xl,xt⟩:=X
   dsimp only at c0 c1 c2 c3 c4 c5 HYk HNk
   have HS:=H_ (sell1 xn xg xw xf xl ta xt.length tc t B wr hBl hcw)
   generalize xt.length=tl at *
   clear hT hcw
   by_cases he:xn=t
   ·rw [decide_eq_true he] at HS
    have HR:=H_ (HYk.out he (k:Int) (by omega))
    clear he
    go_wp2_with fail
    refine HS.out.mono ?_
    rintro e w1 ⟨rfl,hb⟩
    have HB1:=HT_ HB hb
    clear hb c0 c1 c2 c3 c4 c5
    go_wp2_with fail
    go_ret
    exact ⟨⟨_,rfl,HR.out⟩,HB1.out⟩
   ·rw [decide_eq_false he] at HS
    have HN2:=H_ (HNk.out he)
    clear he
    go_wp2_with fail
    refine HS.out.mono ?_
    rintro e w1 ⟨rfl,hb⟩
    have HB1:=HT_ HB hb
    clear hb c0 c1 c2 c3 c4 c5
    go_wp2_with fail
    go_roundw
    case rel=>exact ⟨k+1,by omega,by go_num,HN2,HB1⟩
    case measure=>simp [intOf];omega
  ·have hlt2:¬(k:Int)<(len:Int):=by omega
   have HR:=H_ (HNo.out (fun i hi=>HN.out i (by omega)))
   go_wp2_with fail
   go_ret
   exact ⟨⟨_,rfl,iff_of_eq HR.out⟩,HB.out⟩
theorem isells (ma ca:Option Addr) (mc cl cc:Nat) (ms:List Me) (t:ByteArray) (w:World) (hM:Mes ma ms.length ms w) (hlen:ms.length≤1048576) :
 Calls Tryz.prog 130 #[.agg #[.slice ma ms.length mc,.slice ca cl cc],.string t] w fun e w'=>e=.returned (.bool (sellB ms t))∧Below w.heap.size w w':=by
 obtain ⟨W,hW⟩:∃z,z=(w.alloc (.cells #[.slice ma ms.length mc,.slice ca cl cc] 36)).alloc (.cells #[.string t] 9):=⟨_,rfl⟩
 have HB:Hid (Below w.heap.size w W):=H_ (by rw [hW];exact (al_ _ _).alloc (by simp) _)
 have hl:w.heap.size+1<W.heap.size:=by rw [hW];simp
 have hc:W.cell? ⟨w.heap.size+1,0,none⟩=some (.string t):=by rw [hW];simp [go_sem]
 have HI:Hid (∀W2,Below W.heap.size W W2→Calls Tryz.prog 209 #[.slice ma ms.length mc,.func (.func 177) #[] #[.pointer (some ⟨w.heap.size+1,0,none⟩)]] W2 fun e w'=>(∃n:Int,e=.returned (.int .i64 n)∧((0≤n)=(sellB ms t=true)))∧Below W2.heap.size W2 w'):=H_ (fun W2 h2=>idxM ma mc ms t _ W2 ((hM.below HB.out).below h2) hlen (by have:=h2.size;omega) ((h2.cell (p:=⟨w.heap.size+1,0,none⟩) hl).trans hc))
 have HR:Hid (∀n:Int,((0≤n)=(sellB ms t=true))→decide (0≤n)=sellB ms t):=H_ (fun n h=>by
  cases hq:sellB ms t with
  | true=>rw [hq] at h;simp only [eq_self,eq_iff_iff,iff_true] at h;exact decide_eq_true h
  | false=>rw [hq] at h;simp only [Bool.false_eq_true,eq_iff_iff,iff_false] at h;exact decide_eq_false h)
 generalize hq:(sellB ms t=true)=SB at *
 clear hq
 generalize sellB ms t=R at *
 have HW:=H_ hW
 clear hW hM
 generalize ms.length=ml at *
 go_enter Tryz.func130,Tryz.ntmps130
 go_wp2_with (go_at_call 176;go_in)
 rw [←HW.out]
 refine (HI.out _ (Below.refl _ _)).mono ?_
 rintro e w1 ⟨⟨n,rfl,hn⟩,hb⟩
 have HB1:=HT_ HB hb
 have HN:=H_ (HR.out n hn)
 clear hb hn
 go_wp2_with fail
 go_ret
 exact ⟨ret_bool HN.out,HB1.out⟩
theorem at_sell {ms:List Me} {t:ByteArray} {r:Int} (h:atB ms t r):decide (r<0)=!sellB ms t:=by
 rcases h with ⟨k,hk,rfl,e,_⟩|⟨rfl,hn⟩
 ·have h1:sellB ms t=true:=List.any_eq_true.2 ⟨ms[k],List.getElem_mem hk,by unfold mN at e;simpa [List.getD,hk] using e⟩
  rw [h1]
  simp
 ·have h1:sellB ms t=false:=by
   cases hq:sellB ms t with
   | false=>rfl
   | true =>
    obtain ⟨m,hm,hn2⟩:=List.any_eq_true.1 hq
    obtain ⟨i,hi,rfl⟩:=List.getElem_of_mem hm
    exact absurd (by unfold mN;simpa [List.getD,hi] using hn2) (hn i hi)
  rw [h1]
  simp
end EngR
namespace EngR
open SeenR (Ens)
open RowG (H_)
def goneB (es:List SeenR.N) (v:Int):Bool:=es.any (fun e=>decide (e.n<v))
theorem gone1 (i:ByteArray) (n s v:Int) (B:Nat) (w:World) (hB:B<w.heap.size) (hc:w.cell? ⟨B,0,none⟩=some (.int .i64 v)) :
 Calls Tryz.prog 126 #[.agg #[.string i,.int .i64 n,.int .i64 s],.pointer (some ⟨B,0,none⟩)] w fun e w'=>e=.returned (.bool (decide (n<v)))∧Below w.heap.size w w':=by
 have HB:Hid (Below w.heap.size w (w.alloc (.cells #[.string i,.int .i64 n,.int .i64 s] 110))):=H_ (al_ _ _)
 go_enter Tryz.func126,Tryz.ntmps126
 go_wp2_with fail
 go_ret
 exact ⟨rfl,HB.out⟩
theorem idxE (ma:Option Addr) (mc:Nat) (ms:List SeenR.N) (t:Int) (B:Nat) (w:World) (hM:Ens ma ms w) (hlen:ms.length≤1048576) (hB:B<w.heap.size) (hc:w.cell? ⟨B,0,none⟩=some (.int .i64 t)) :
 Calls Tryz.prog 174 #[.slice ma ms.length mc,.func (.func 126) #[] #[.pointer (some ⟨B,0,none⟩)]] w fun e w'=>(∃n:Int,e=.returned (.int .i64 n)∧((0≤n)=(goneB ms t=true)))∧Below w.heap.size w w':=by
 have HM:=H_ hM
 have HC:=H_ hc
 have HY:Hid (∀k,k<ms.length→(ms.getD k SeenR.N.zero).n<t→(∀n:Int,0≤n→((0≤n)=(goneB ms t=true)))):=H_ (fun k hk e n hn=>by
  have h1:goneB ms t=true:=List.any_eq_true.2 ⟨ms[k],List.getElem_mem hk,by simpa [List.getD,hk] using e⟩
  simp [hn,h1])
 have HNo:Hid ((∀i,i<ms.length→t≤(ms.getD i SeenR.N.zero).n)→((0≤(-1:Int))=(goneB ms t=true))):=H_ (fun h=>by
  have h1:goneB ms t=false:=by
   cases hq:goneB ms t with
   | false=>rfl
   | true =>
    obtain ⟨m,hm,hn⟩:=List.any_eq_true.1 hq
    obtain ⟨i,hi,rfl⟩:=List.getElem_of_mem hm
    exact absurd (show (ms.getD i SeenR.N.zero).n<t by simpa [List.getD,hi] using hn) (Int.not_lt.2 (h i hi))
  simp [h1])
 generalize (goneB ms t=true)=SB at *
 obtain ⟨len,hl⟩:∃len,len=ms.length:=⟨_,rfl⟩
 rw [←hl] at hlen HY HNo ⊢
 have HL:=H_ hl
 clear hM hc hl
 go_enter Tryz.func174,Tryz.ntmps174
 go_wp2_with fail
 go_loopw [5,8] (fun y z wr=>∃k:Nat,k≤len∧z=.int .i64 k∧Hid (∀i,i<k→t≤(ms.getD i SeenR.N.zero).n)∧Hid (Below w.heap.size w wr)) (fun _ z _=>len-(intOf z).toNat)
 case atStart=>exact ⟨0,by omega,rfl,H_ (fun i hi=>absurd hi (by omega)),H_ (Below.refl _ _)⟩
 case round =>
  obtain ⟨k,hk,rfl,HN,HB⟩:=hrel
  by_cases hlt:k<len
  ·have hlt2:(k:Int)<(len:Int):=by omega
   obtain ⟨b,off,rfl,hbl,c0,c1,c2⟩:=(HM.out.below HB.out).at k (by have:=HL.out;omega)
   have HYk:=H_ (HY.out k (by omega))
   have HNk:Hid (t≤(ms.getD k SeenR.N.zero).n→∀i,i<k+1→t≤(ms.getD i SeenR.N.zero).n):=H_ (fun h i hi=>by
    by_cases e:i=k
    ·subst e;exact h
    ·exact HN.out i (by omega))
   have hBl:B<wr.heap.size:=by have:=HB.out.size;omega
   have hcw:wr.cell? ⟨B,0,none⟩=some (.int .i64 t):=(HB.out.cell (p:=⟨B,0,none⟩) hB).trans HC.out
   generalize ms.getD k SeenR.N.zero=X at *
   obtain ⟨xi,xn,xs⟩:=X
   dsimp only at c0 c1 c2 HYk HNk
   have HS:=H_ (gone1 xi xn xs t B wr hBl hcw)
   clear hcw
   by_cases he:xn<t
   ·rw [decide_eq_true he] at HS
    have HR:=H_ (HYk.out he (k:Int) (by omega))
    clear he
    go_wp2_with fail
    refine HS.out.mono ?_
    rintro e w1 ⟨rfl,hb⟩
    have HB1:=HT_ HB hb
    clear hb c0 c1 c2
    go_wp2_with fail
    go_ret
    exact ⟨⟨_,rfl,HR.out⟩,HB1.out⟩
   ·rw [decide_eq_false he] at HS
    have HN2:=H_ (HNk.out (by omega))
    clear he
    go_wp2_with fail
    refine HS.out.mono ?_
    rintro e w1 ⟨rfl,hb⟩
    have HB1:=HT_ HB hb
    clear hb c0 c1 c2
    go_wp2_with fail
    go_roundw
    case rel=>exact ⟨k+1,by omega,by go_num,HN2,HB1⟩
    case measure=>simp [intOf];omega
  ·have hlt2:¬(k:Int)<(len:Int):=by omega
   have HR:=H_ (HNo.out (fun i hi=>HN.out i (by omega)))
   go_wp2_with fail
   go_ret
   exact ⟨⟨_,rfl,iff_of_eq HR.out⟩,HB.out⟩
theorem icont (ma:Option Addr) (mc:Nat) (es:List SeenR.N) (v:Int) (B:Nat) (w:World) (hM:Ens ma es w) (hlen:es.length≤1048576) (hB:B<w.heap.size) (hc:w.cell? ⟨B,0,none⟩=some (.int .i64 v)) :
 Calls Tryz.prog 128 #[.slice ma es.length mc,.func (.func 126) #[] #[.pointer (some ⟨B,0,none⟩)]] w fun e w'=>e=.returned (.bool (goneB es v))∧Below w.heap.size w w':=by
 have HI:=H_ (idxE ma mc es v B w hM hlen hB hc)
 have HR:Hid (∀n:Int,((0≤n)=(goneB es v=true))→decide (0≤n)=goneB es v):=H_ (fun n h=>by
  cases hq:goneB es v with
  | true=>rw [hq] at h;simp only [eq_self,eq_iff_iff,iff_true] at h;exact decide_eq_true h
  | false=>rw [hq] at h;simp only [Bool.false_eq_true,eq_iff_iff,iff_false] at h;exact decide_eq_false h)
 generalize hq:(goneB es v=true)=SB at *
 clear hq
 generalize goneB es v=R at *
 clear hM
 generalize es.length=el at *
 go_enter Tryz.func128,Tryz.ntmps128
 go_wp2_with fail
 refine HI.out.mono ?_
 rintro e w1 ⟨⟨n,rfl,hn⟩,hb⟩
 have HB1:=H_ hb
 have HN:=H_ (HR.out n hn)
 clear hb hn
 go_wp2_with fail
 go_ret
 exact ⟨ret_bool HN.out,HB1.out⟩
end EngR
end Go.Proofs.YtnceeaccbcfopaaGreatDoor
namespace Go.Proofs
open Go.Shelf
def Tryz.lays106_ren:Go.Shelf.Ren:=⟨fun|106=>179|213=>210|265=>224|n=>n,fun|9=>9|3=>3|n=>n,fun|n=>n⟩
theorem Tryz.lays106:Go.Proofs.Lays.n106 Tryz.prog Tryz.lays106_ren:={
 mixed:=by kernel_rfl
 f106:=Tryz.func179.trans (congrArg some (by kernel_rfl))
 f213:=Tryz.func210.trans (congrArg some (by kernel_rfl))
 f265:=Tryz.func224.trans (congrArg some (by kernel_rfl))
 t3:=Tryz.underlying3
 a3:=Tryz.isAgg3
 z3:=Tryz.sizeOf3
 v3:=Tryz.zeroValue3
 t9:=Tryz.underlying9
 a9:=Tryz.isAgg9
 z9:=Tryz.sizeOf9
 v9:=Tryz.zeroValue9}
open Go.RowKit in
theorem Tryz.strings_Compare (a b:ByteArray) (w:World) :
 Calls Tryz.prog 179 #[.string a,.string b] w fun e w'=>e=.returned (.int .i64 (Lib.compareBytes a.data.toList b.data.toList))∧w'=w:=Any.strings_Compare Tryz.lays106 a b w
end Go.Proofs
namespace Go.Proofs.YtnceeaccbcfopaaGreatDoor
open Go.ChangeShapes Go.WideShapes Go.ChangeAt Go.RowKit
set_option linter.unusedVariables false
namespace WinR
open LtR
open Go.Op (bytesLess)
theorem cmp_cases:∀(a b:List UInt8),(Lib.compareBytes a b=-1∧bytesLess a b=true∧a≠b)∨(Lib.compareBytes a b=0∧bytesLess a b=false∧a=b)∨(Lib.compareBytes a b=1∧bytesLess a b=false∧a≠b)
 | [],[]=>.inr (.inl ⟨rfl,rfl,rfl⟩)
 | [],_::_=>.inl ⟨rfl,rfl,by simp⟩
 | _::_,[]=>.inr (.inr ⟨rfl,rfl,by simp⟩)
 | a::xs,b::ys=>by
  unfold Lib.compareBytes bytesLess
  by_cases h1:a<b
  ·have hne:a≠b:=fun e=>by subst e;exact absurd h1 (by simp)
   exact .inl ⟨by rw [if_pos h1],by simp [h1],by simp [hne]⟩
  ·rw [if_neg h1]
   by_cases h2:b<a
   ·have hne:a≠b:=fun e=>by subst e;exact absurd h2 (by simp)
    exact .inr (.inr ⟨by rw [if_pos h2],by simp [h1,hne],by simp [hne]⟩)
   ·rw [if_neg h2]
    obtain rfl:a=b:=UInt8.le_antisymm (UInt8.not_lt.1 h2) (UInt8.not_lt.1 h1)
    rcases cmp_cases xs ys with ⟨c1,c2,c3⟩|⟨c1,c2,c3⟩|⟨c1,c2,c3⟩
    ·exact .inl ⟨c1,by simp [c2],by simp [c3]⟩
    ·exact .inr (.inl ⟨c1,by simp [c2],by simp [c3]⟩)
    ·exact .inr (.inr ⟨c1,by simp [c2],by simp [c3]⟩)
def cb (x y:ByteArray):Int:=Lib.compareBytes x.data.toList y.data.toList
theorem cb_cases (x y:ByteArray):(cb x y=-1∧lt x y=true∧x≠y)∨(cb x y=0∧lt x y=false∧x=y)∨(cb x y=1∧lt x y=false∧x≠y):=by
 have e:∀z:ByteArray,z.toList=z.data.toList:=fun z=>by first|rfl|simp|exact ByteArray.toList_eq z
 unfold cb lt
 rw [e,e]
 rcases cmp_cases x.data.toList y.data.toList with ⟨c1,c2,c3⟩|⟨c1,c2,c3⟩|⟨c1,c2,c3⟩
 ·exact .inl ⟨c1,c2,fun h=>c3 (by rw [h])⟩
 ·exact .inr (.inl ⟨c1,c2,ByteArray.ext (Array.toList_inj.1 c3)⟩)
 ·exact .inr (.inr ⟨c1,c2,fun h=>c3 (by rw [h])⟩)
theorem icb (x y:ByteArray) (w:World):Calls Tryz.prog 179 #[.string x,.string y] w fun e w'=>e=.returned (.int .i64 (cb x y))∧w'=w:=Tryz.strings_Compare x y w
end WinR
end Go.Proofs.YtnceeaccbcfopaaGreatDoor
