/-
  The model's copy of a window, and lists of windows of one's own, by their types. The conditions: sizes of at most 1048576.
-/
import Derived.Test.YtnceeaccbcfopaaGreatDoorT144
namespace Go.Proofs.YtnceeaccbcfopaaGreatDoor
open Go.ChangeShapes Go.WideShapes Go.ChangeAt Go.RowKit
set_option linter.unusedVariables false
namespace EngR
open OwG CatR ChG DocR
open RowG (cellsAll grown_set MadeG Rws)
open EvtR (Pt)
theorem tgl (t:ByteArray):(WinR.tcells t).length=1:=rfl
theorem infoSg:(Tryz.prog.info? 9).map (fun i=>(i.zero,i.size,i.bytes))=some (some (.string ⟨#[]⟩),1,16):=by kernel_rfl
theorem infoHr:(Tryz.prog.info? 207).map (fun i=>(i.zero,i.size,i.bytes))=some (some (.agg #[.int .i64 0,.int .i64 0]),2,16):=by kernel_rfl
def WaT (lo:Nat) (y:WA) (W:World):Prop:=W.ownsRow lo 9 1 (.slice y.ta y.x.ts.length y.tc) y.x.ts.length (cellsAll WinR.tcells y.x.ts)∧W.ownsRow lo 207 2 (.slice y.ha y.x.hs.length y.hc) y.x.hs.length (cellsAll WinR.H.cells y.x.hs)
def WsT (lo:Nat) (v:Value) (ws:List WinR.Wd) (W:World):Prop:=∃xs:List WA,xs.map WA.x=ws∧W.ownsRow lo 106 8 v ws.length (cellsAll WA.cells xs)∧∀y∈xs,WaT lo y W
theorem wst_nil (lo:Nat) (W:World):WsT lo (.slice none 0 0) [] W:=⟨[],rfl,World.ownsRow_nil _ _ _ _,(fun x h=>absurd h (by simp))⟩
theorem WaT.low {lo lo':Nat} {y:WA} {W:World} (h:WaT lo y W) (hl:lo'≤lo):WaT lo' y W:=⟨OwG.own_low h.1 hl,OwG.own_low h.2 hl⟩
theorem WaT.below {lo:Nat} {y:WA} {W W':World} (h:WaT lo y W) (hb:Below W.heap.size W W'):WaT lo y W':=⟨RowG.own_below h.1 hb,RowG.own_below h.2 hb⟩
theorem WsT.below {lo:Nat} {v:Value} {ws:List WinR.Wd} {W W':World} (h:WsT lo v ws W) (hb:Below W.heap.size W W'):WsT lo v ws W':=by
 obtain ⟨xs,h1,h2,h3⟩:=h
 exact ⟨xs,h1,RowG.own_below h2 hb,fun x hx=>(h3 x hx).below hb⟩
theorem WsT.far {lo g:Nat} {v:Value} {ws:List WinR.Wd} {W W':World} (h:WsT lo v ws W) (hg:W.grownBy W' (some g)) (hlt:g<lo):WsT lo v ws W':=by
 obtain ⟨xs,h1,h2,h3⟩:=h
 exact ⟨xs,h1,own_keepG h2 hg hlt,fun x hx=>⟨own_keepG (h3 x hx).1 hg hlt,own_keepG (h3 x hx).2 hg hlt⟩⟩
theorem wst_more {lo:Nat} {v v':Value} {xs:List WA} {y:WA} {w2 w9:World} (h2:w2.ownsRow lo 106 8 v xs.length (cellsAll WA.cells xs)) (h3:∀y∈xs,WaT lo y w2) (hy:WaT lo y w2) (hgrow:w2.grownBy w9 v.ownBlock) (hown:w9.ownsRow lo 106 8 v' (xs.length+1) (cellsAll WA.cells xs++WA.cells y)):WsT lo v' ((xs ++ [y]).map WA.x) w9:=by
 have hk:∀z:WA,WaT lo z w2→WaT lo z w9:=fun z hz=>⟨own_keepO hz.1 hgrow (own_apart hz.1 h2 (by decide)),own_keepO hz.2 hgrow (own_apart hz.2 h2 (by decide))⟩
 refine ⟨xs ++ [y],rfl,?_,?_⟩
 ·rw [cellsW_snoc,List.length_map,List.length_append]
  exact hown
 ·intro z hz
  rcases List.mem_append.1 hz with h|h
  ·exact hk z (h3 z h)
  ·rw [List.mem_singleton] at h
   subst h
   exact hk _ hy
theorem WsT.reads {lo:Nat} {v:Value} {ws:List WinR.Wd} {W:World} (h:WsT lo v ws W):RWd ws v W:=by
 obtain ⟨xs,h1,h2,h3⟩:=h
 have hl:ws.length=xs.length:=by rw [←h1];simp
 rw [hl] at h2
 obtain ⟨ao,cap,rfl,hm⟩:=RowG.own_made (z:=WA.zero) WA.len h2
 refine ⟨ao,cap,by rw [hl],?_⟩
 rcases hm.rws with h0|⟨b,off,rfl,hb,hc⟩
 ·exact .inl (by omega)
 ·refine .inr ⟨b,off,rfl,hb,fun i hi=>?_⟩
  have hx:i<xs.length:=by omega
  have e:ws.getD i WinR.Wd.zero=(xs.getD i WA.zero).x:=by
   rw [←h1]
   simp [List.getD,hx]
  have hmem:=h3 _ (RowG.getD_mem (z:=WA.zero) xs i hx)
  have c:=hc i hx
  rw [e]
  generalize xs.getD i WA.zero=X at *
  obtain ⟨a1,c1,e1,m1⟩:=RowG.own_made (z:=WinR.tz) tgl hmem.1
  obtain ⟨a2,c2,e2,m2⟩:=RowG.own_made (z:=WinR.H.zero) WinR.H.len hmem.2
  cases e1
  cases e2
  exact ⟨X.ta,X.tc,X.ha,X.hc,c 0 (by omega),c 1 (by omega),c 2 (by omega),c 3 (by omega),c 4 (by omega),c 5 (by omega),c 6 (by omega),c 7 (by omega),m1.rws,m2.rws⟩
theorem rws_src {α:Type} {k:Nat} {cells:α→List Value} {z:α} (hk:∀x,(cells x).length=k) {la:Option Addr} {L:List α} {w:World} (h:Rws k cells z la L w):∀W,Below w.heap.size w W→(L.length=0∨∃ad,la=some ad∧∀j u,(cellsAll cells L)[j]? = some u→W.cell? (ad.add j)=some u):=by
 intro W hW
 rcases h.below hW with h0|⟨b,off,rfl,hb,hc⟩
 ·exact .inl h0
 ·refine .inr ⟨⟨b,off,none⟩,rfl,fun j u hj=>?_⟩
  have h1:=NetR.rws_sub (i:=0) (n:=L.length) hk (.inr ⟨b,off,rfl,hb,hc⟩:Rws k cells z (some ⟨b,off,none⟩) L W) j u (by simpa using hj)
  rw [Nat.zero_mul,Nat.add_zero] at h1
  exact h1
theorem one_tg (ts:List ByteArray):∀u∈cellsAll WinR.tcells ts,u.oneCell'=true:=by
 intro u hu
 obtain ⟨x,_,hx⟩:=List.mem_flatMap.1 hu
 simp only [WinR.tcells,List.mem_singleton] at hx
 subst hx
 rfl
theorem one_hr (hs:List WinR.H):∀u∈cellsAll WinR.H.cells hs,u.oneCell'=true:=WinR.hrs_one hs
set_option maxRecDepth 100000 in
set_option maxHeartbeats 8000000 in
theorem swin (x:WinR.Wd) (ta:Option Addr) (tc:Nat) (ha:Option Addr) (hc:Nat) (w:World) (lt:x.ts.length≤1048576) (lh:x.hs.length≤1048576) (hT:WinR.Tgs ta x.ts w) (hH:WinR.Hrs ha x.hs w) :
 Calls Tryz.prog 62 #[.agg #[.string x.a,.string x.m,.int .i64 x.mo,.int .i64 x.ev,.int .i64 x.su,.int .i64 x.mx,.slice ta x.ts.length tc,.slice ha x.hs.length hc]] w fun e w'=>∃na nc ma mc,e=.returned (.agg #[.string x.a,.string x.m,.int .i64 x.mo,.int .i64 x.ev,.int .i64 x.su,.int .i64 x.mx,.slice na x.ts.length nc,.slice ma x.hs.length mc])∧WaT w.heap.size ⟨x,na,nc,ma,mc⟩ w'∧Below w.heap.size w w':=by
 obtain ⟨i0,hi,hz0,hz1,hz2⟩:=info_parts infoSg
 obtain ⟨j0,gi,gz0,gz1,gz2⟩:=info_parts infoHr
 obtain ⟨a,m,mo,ev,su,mx,ts,hs⟩:=x
 dsimp only at *
 have HST:=H_ (rws_src tgl hT)
 have HSH:=H_ (rws_src WinR.H.len hH)
 have HO1:=H_ (one_tg ts)
 have HO2:=H_ (one_hr hs)
 have HL1:Hid ((cellsAll WinR.tcells ts).length=ts.length*1):=H_ (RowG.cellsAll_len tgl ts)
 have HL2:=H_ (RowG.cellsAll_len WinR.H.len hs)
 have HF:Hid (∀na nc ma mc W,W.ownsRow w.heap.size 9 1 (.slice na ts.length nc) ts.length (cellsAll WinR.tcells ts)→W.ownsRow w.heap.size 207 2 (.slice ma hs.length mc) hs.length (cellsAll WinR.H.cells hs)→WaT w.heap.size ⟨⟨a,m,mo,ev,su,mx,ts,hs⟩,na,nc,ma,mc⟩ W):=H_ (fun _ _ _ _ _ h1 h2=>⟨h1,h2⟩)
 have HM1:=H_ (fun (W:World) base v (h:W.ownsRow base 9 1 v ts.length (cellsAll WinR.tcells ts))=>RowG.own_made (z:=WinR.tz) tgl h)
 have HM2:=H_ (fun (W:World) base v (h:W.ownsRow base 207 2 v hs.length (cellsAll WinR.H.cells hs))=>RowG.own_made (z:=WinR.H.zero) WinR.H.len h)
 generalize hX:WaT w.heap.size=X at *
 generalize hC1:cellsAll WinR.tcells ts=C1 at *
 generalize hC2:cellsAll WinR.H.cells hs=C2 at *
 clear hX hC1 hC2 hT hH
 obtain ⟨tl,htl⟩:∃n,n=ts.length:=⟨_,rfl⟩
 obtain ⟨hl,hhl⟩:∃n,n=hs.length:=⟨_,rfl⟩
 rw [←htl] at HST HL1 HF HM1 lt ⊢
 rw [←hhl] at HSH HL2 HF HM2 lh ⊢
 clear htl hhl
 obtain ⟨W0,hW0⟩:∃W0,W0=((w.alloc (.cells #[.string a,.string m,.int .i64 mo,.int .i64 ev,.int .i64 su,.int .i64 mx,.slice ta tl tc,.slice ha hl hc] 106)).alloc (.cells #[.string ⟨#[]⟩,.string ⟨#[]⟩,.int .i64 0,.int .i64 0,.int .i64 0,.int .i64 0,.slice none 0 0,.slice none 0 0] 106)).alloc (.cells #[] 9):=⟨_,rfl⟩
 have HB0:Hid (Below w.heap.size w W0):=H_ (by rw [hW0];exact (((Below.refl _ _).alloc (Nat.le_refl _) _).alloc (by simp) _).alloc (by simp;omega) _)
 have HV0:Hid (BlkW w.heap.size [.string a,.string m,.int .i64 mo,.int .i64 ev,.int .i64 su,.int .i64 mx,.slice ta tl tc,.slice ha hl hc] W0):=H_ (by rw [hW0];exact blkW_alloc (blkW_alloc (BlkW.new w [.string a,.string m,.int .i64 mo,.int .i64 ev,.int .i64 su,.int .i64 mx,.slice ta tl tc,.slice ha hl hc] 106) _) _)
 have HR0:Hid (BlkW (w.heap.size+1) [.string ⟨#[]⟩,.string ⟨#[]⟩,.int .i64 0,.int .i64 0,.int .i64 0,.int .i64 0,.slice none 0 0,.slice none 0 0] W0):=H_ (by
  rw [hW0]
  have:=blkW_alloc (BlkW.new (w.alloc (.cells #[.string a,.string m,.int .i64 mo,.int .i64 ev,.int .i64 su,.int .i64 mx,.slice ta tl tc,.slice ha hl hc] 106)) [.string ⟨#[]⟩,.string ⟨#[]⟩,.int .i64 0,.int .i64 0,.int .i64 0,.int .i64 0,.slice none 0 0,.slice none 0 0] 106) (.cells #[] 9)
  simpa using this)
 have HE0:Hid (W0.ownsRow (w.heap.size+2) 9 1 (.slice (some ⟨w.heap.size+1+1,0,none⟩) 0 0) 0 []):=H_ (by
  rw [hW0]
  have:=LinR.own_empty ((w.alloc (.cells #[.string a,.string m,.int .i64 mo,.int .i64 ev,.int .i64 su,.int .i64 mx,.slice ta tl tc,.slice ha hl hc] 106)).alloc (.cells #[.string ⟨#[]⟩,.string ⟨#[]⟩,.int .i64 0,.int .i64 0,.int .i64 0,.int .i64 0,.slice none 0 0,.slice none 0 0] 106)) (w.heap.size+2) 9 1 (by simp)
  simpa using this)
 have hS0:W0.heap.size=w.heap.size+3:=by rw [hW0];simp
 have HW:=H_ hW0
 have HSZ:=H_ hS0
 clear hW0 hS0
 go_enter Tryz.func62,Tryz.ntmps62
 go_wp2_with (at_builtin;rw [←HW.out];refine RowG.wpList_append_whole _ rfl _ _ 92 rfl (w.heap.size+2) 9 i0 (.string ⟨#[]⟩) 1 16 Tryz.underlying92 hi hz0 hz1 hz2 rfl (by decide) (w.heap.size+1+1) rfl HE0.out ta tl tc C1 rfl HL1.out (HST.out _ HB0.out) HO1.out (by unfold maxLen;omega) (by omega) (by rw [HSZ.out];omega) ?_)
 intro v1 w2 hown hgrow hne
 have HB2:=H_ (HB0.out.grown hgrow HB0.out.size (fun k e=>by simp only [Option.some.injEq] at e;omega))
 have HV2:=H_ (OwG.blkW_grown HV0.out hgrow (by simp only [ne_eq,Option.some.injEq];omega))
 have HR2:=H_ (OwG.blkW_grown HR0.out hgrow (by simp only [ne_eq,Option.some.injEq];omega))
 obtain ⟨na,nc,rfl,-⟩:=HM1.out w2 _ v1 hown
 have HT2:=H_ hown
 clear hown hgrow hne HB0 HV0 HR0 HE0 HW HSZ
 obtain ⟨W3,hW3⟩:∃z,z=w2.setCell ⟨w.heap.size,6,none⟩ (.slice na tl nc):=⟨_,rfl⟩
 have hg3:w2.grownBy W3 (some w.heap.size):=by rw [hW3];exact grown_set _ _ _ _
 have HB3:=H_ (HB2.out.grown hg3 HB2.out.size (fun k e=>by cases e;omega))
 have HV3:Hid (BlkW w.heap.size [.string a,.string m,.int .i64 mo,.int .i64 ev,.int .i64 su,.int .i64 mx,.slice na tl nc,.slice ha hl hc] W3):=H_ (by
  rw [hW3]
  have:=HV2.out.set 6 (.slice na tl nc) (by simp)
  simpa using this)
 have HR3:=H_ (OwG.blkW_grown HR2.out hg3 (by simp only [ne_eq,Option.some.injEq];omega))
 have HT3:=H_ (own_keepG HT2.out hg3 (by omega))
 obtain ⟨W4,hW4⟩:∃z,z=W3.alloc (.cells #[] 207):=⟨_,rfl⟩
 have hb4:Below W3.heap.size W3 W4:=by rw [hW4];exact (Below.refl _ _).alloc (Nat.le_refl _) _
 have hsz3:W3.heap.size=w2.heap.size:=by rw [hW3];simp
 have HB4:=H_ (HB3.out.trans (hb4.mono HB3.out.size))
 have HV4:=H_ (HV3.out.below hb4)
 have HR4:=H_ (HR3.out.below hb4)
 have HT4:=H_ (RowG.own_below HT3.out hb4)
 have hbase:w.heap.size+2≤w2.heap.size:=HR2.out.1.1
 have HE4:Hid (W4.ownsRow (w.heap.size+2) 207 2 (.slice (some ⟨w2.heap.size,0,none⟩) 0 0) 0 []):=H_ (by
  rw [hW4,←hsz3]
  exact LinR.own_empty W3 (w.heap.size+2) 207 2 (by rw [hsz3];exact hbase))
 have hs4:w.heap.size+2≤W4.heap.size:=by have:=hb4.size;omega
 have HBs:=H_ hbase
 have HW4:=H_ (by rw [hW4,hW3]:W4=(w2.setCell ⟨w.heap.size,6,none⟩ (.slice na tl nc)).alloc (.cells #[] 207))
 have l1:=HV2.out.1.1
 have f6:=HV2.out.2 6 (by simp)
 have c6:w2.cell? ⟨w.heap.size,6,none⟩=some (.slice ta tl tc):=HV2.out.1.2 6 (by simp)
 have c7:w2.cell? ⟨w.heap.size,7,none⟩=some (.slice ha hl hc):=HV2.out.1.2 7 (by simp)
 clear hW3 hg3 hW4 hb4 hsz3 HB2 HV2 HR2 HT2 HB3 HV3 HR3 HT3 hbase
 go_wp2_with (at_builtin;rw [←HW4.out];refine RowG.wpList_append_whole _ rfl _ _ 104 rfl (w.heap.size+2) 207 j0 (.agg #[.int .i64 0,.int .i64 0]) 2 16 Tryz.underlying104 gi gz0 gz1 gz2 rfl (by decide) w2.heap.size rfl HE4.out ha hl hc C2 rfl HL2.out (HSH.out _ HB4.out) HO2.out (by unfold maxLen;omega) (by omega) hs4 ?_)
 intro v2 w5 hown hgrow hne
 have HB5:=H_ (HB4.out.grown hgrow HB4.out.size (fun k e=>by simp only [Option.some.injEq] at e;have:=HBs.out;omega))
 have HV5:=H_ (OwG.blkW_grown HV4.out hgrow (by simp only [ne_eq,Option.some.injEq];have:=HBs.out;omega))
 have HR5:=H_ (OwG.blkW_grown HR4.out hgrow (by simp only [ne_eq,Option.some.injEq];have:=HBs.out;omega))
 have HT5:=H_ (own_keepO HT4.out hgrow (fun b hb=>own_apart HT4.out HE4.out (by decide) b hb))
 obtain ⟨ma,mc,rfl,-⟩:=HM2.out w5 _ v2 hown
 have HH5:=H_ hown
 clear hown hgrow hne HB4 HV4 HR4 HT4 HE4 HW4 HBs hs4 l1 f6 c6 c7
 have hg6:=grown_set w5 w.heap.size 7 (.slice ma hl mc)
 have hg7:=StR.stL_grown (w.heap.size+1) [.string a,.string m,.int .i64 mo,.int .i64 ev,.int .i64 su,.int .i64 mx,.slice na tl nc,.slice ma hl mc] 0 (w5.setCell ⟨w.heap.size,7,none⟩ (.slice ma hl mc))
 have HT9:=H_ (own_low (own_keepG (own_keepG HT5.out hg6 (by omega)) hg7 (by omega)) (show w.heap.size≤w.heap.size+2 by omega))
 have HH9:=H_ (own_low (own_keepG (own_keepG HH5.out hg6 (by omega)) hg7 (by omega)) (show w.heap.size≤w.heap.size+2 by omega))
 have HB9:=H_ ((HB5.out.grown hg6 HB5.out.size (fun k e=>by cases e;omega)).grown hg7 (by have:=HB5.out.size;simpa using this) (fun k h=>by cases h;omega))
 simp only [StR.stL,Nat.zero_add,Nat.reduceAdd] at HT9 HH9 HB9
 have l1:=HV5.out.1.1
 have l2:=HR5.out.1.1
 have f7:=HV5.out.2 7 (by simp)
 have c0:w5.cell? ⟨w.heap.size,0,none⟩=some (.string a):=HV5.out.1.2 0 (by simp)
 have c1:w5.cell? ⟨w.heap.size,1,none⟩=some (.string m):=HV5.out.1.2 1 (by simp)
 have c2:w5.cell? ⟨w.heap.size,2,none⟩=some (.int .i64 mo):=HV5.out.1.2 2 (by simp)
 have c3:w5.cell? ⟨w.heap.size,3,none⟩=some (.int .i64 ev):=HV5.out.1.2 3 (by simp)
 have c4:w5.cell? ⟨w.heap.size,4,none⟩=some (.int .i64 su):=HV5.out.1.2 4 (by simp)
 have c5:w5.cell? ⟨w.heap.size,5,none⟩=some (.int .i64 mx):=HV5.out.1.2 5 (by simp)
 have c6:w5.cell? ⟨w.heap.size,6,none⟩=some (.slice na tl nc):=HV5.out.1.2 6 (by simp)
 have c7:w5.cell? ⟨w.heap.size,7,none⟩=some (.slice ha hl hc):=HV5.out.1.2 7 (by simp)
 have r0:w5.cell? ⟨w.heap.size+1,0,none⟩=some (.string ⟨#[]⟩):=HR5.out.1.2 0 (by simp)
 have r1:w5.cell? ⟨w.heap.size+1,1,none⟩=some (.string ⟨#[]⟩):=HR5.out.1.2 1 (by simp)
 have r2:w5.cell? ⟨w.heap.size+1,2,none⟩=some (.int .i64 0):=HR5.out.1.2 2 (by simp)
 have r3:w5.cell? ⟨w.heap.size+1,3,none⟩=some (.int .i64 0):=HR5.out.1.2 3 (by simp)
 have r4:w5.cell? ⟨w.heap.size+1,4,none⟩=some (.int .i64 0):=HR5.out.1.2 4 (by simp)
 have r5:w5.cell? ⟨w.heap.size+1,5,none⟩=some (.int .i64 0):=HR5.out.1.2 5 (by simp)
 have r6:w5.cell? ⟨w.heap.size+1,6,none⟩=some (.slice none 0 0):=HR5.out.1.2 6 (by simp)
 have r7:w5.cell? ⟨w.heap.size+1,7,none⟩=some (.slice none 0 0):=HR5.out.1.2 7 (by simp)
 have g0:=HR5.out.2 0 (by simp)
 have g1:=HR5.out.2 1 (by simp)
 have g2:=HR5.out.2 2 (by simp)
 have g3:=HR5.out.2 3 (by simp)
 have g4:=HR5.out.2 4 (by simp)
 have g5:=HR5.out.2 5 (by simp)
 have g6:=HR5.out.2 6 (by simp)
 have g7:=HR5.out.2 7 (by simp)
 clear hg6 hg7 HB5 HV5 HR5 HT5 HH5
 go_wp2_with fail
 refine bodyPost_ret (v:=.agg #[.string a,.string m,.int .i64 mo,.int .i64 ev,.int .i64 su,.int .i64 mx,.slice na tl nc,.slice ma hl mc]) (by simp [results,Tryz.results62,go_sem,r0,r1,r2,r3,r4,r5,r6,r7]) rfl ⟨na,nc,ma,mc,rfl,HF.out _ _ _ _ _ HT9.out HH9.out,HB9.out⟩
end EngR
end Go.Proofs.YtnceeaccbcfopaaGreatDoor
