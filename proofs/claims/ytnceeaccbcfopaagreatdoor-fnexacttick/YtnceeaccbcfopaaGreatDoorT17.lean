/-
  'copy' between rows of things of k cells each, and such a copy as one step of a walk.
  A meter laid in new memory, the program's copyMeter.
  A meter copied, on both sides: the tiers are one's own.
  The order of texts, what a right catalog is, and a map of meters by their names, as read.
  The program's map of meters by their names: made, and taken from.
  What the program and the model call a right meter: they are one.
  errors.Is at the program's own sentinel: of the sentinel it tells true, of nil false.
  The conditions stand in what each theorem says.
-/
import Derived.Laws.CopyOwn
import Derived.Lib.AppendZerosOnto
import Derived.Lib.Overlaps
import Derived.Laws.NewBlocks
import Derived.Deep.RegionLaw
import Derived.Lib.SliceRun
import Derived.Below
import Derived.Maps.OwnSet
import Derived.OwnWalk
import Derived.Carry
import Derived.Deep.RegionHeld3
import Derived.LaidEql
import Derived.Stop.Asserts
import Derived.RowKitTokens
import Derived.Test.YtnceeaccbcfopaaGreatDoorT16
set_option maxRecDepth 100000
set_option maxHeartbeats 16000000
namespace Go.Proofs.YtnceeaccbcfopaaGreatDoor
open Go.ChangeShapes Go.WideShapes Go.ChangeAt Go.RowKit
set_option linter.unusedVariables false
namespace RowG
section
variable {P:Program}
end
end RowG
namespace CatR
open EvtR (Pt)
def Ti.cellz (t:Ti):List Value:=[.int .i64 t.u,.int .i64 t.p]
theorem Ti.lenz (t:Ti):t.cellz.length=2:=rfl
def tisC (ts:List Ti):List Value:=RowG.cellsAll Ti.cellz ts
theorem tisC_len (ts:List Ti):(tisC ts).length=ts.length*2:=RowG.cellsAll_len Ti.lenz ts
theorem tis_cells {b off:Nat} {ts:List Ti} {w:World} (h:Tis (some ⟨b,off,none⟩) ts.length ts w):∀j u,(tisC ts)[j]? = some u→w.cell? ⟨b,off+j,none⟩=some u:=by
 intro j u hj
 have hlt:=(List.getElem?_eq_some_iff.1 hj).1
 rw [tisC_len] at hlt
 have e:j=(j / 2)*2+j % 2:=by omega
 have hi:j / 2<ts.length:=by omega
 unfold tisC at hj
 rw [e,RowG.cellsAll_get (z:=Ti.zero) Ti.lenz ts (j / 2) (j % 2) hi (by omega)] at hj
 rcases h.2 with h0|⟨b',off',he,_,hc⟩
 ·omega
 ·simp only [Option.some.injEq,Addr.mk.injEq,and_true] at he
  obtain ⟨rfl,rfl⟩:=he
  obtain ⟨c0,c1⟩:=hc (j / 2) hi
  rcases (show j % 2=0∨j % 2=1 by omega) with q|q
  ·rw [q] at hj
   rw [show off+j=off+(j / 2)*2 by omega,c0]
   simpa [Ti.cellz] using hj
  ·rw [q] at hj
   rw [show off+j=off+(j / 2)*2+1 by omega,c1]
   simpa [Ti.cellz] using hj
theorem tisC_one (ts:List Ti):∀v∈tisC ts,v.oneCell'=true:=by
 intro v hv
 simp only [tisC,RowG.cellsAll,List.mem_flatMap,Ti.cellz,List.mem_cons,List.not_mem_nil,or_false] at hv
 obtain ⟨x,_,rfl|rfl⟩:=hv<;>rfl
theorem own_tisz {w:World} {base:Nat} {v:Value} {ts:List Ti} (h:w.ownsRow base 248 2 v ts.length (tisC ts)):∃ao cap,v=.slice ao ts.length cap∧Tis ao ts.length ts w∧(ts.length=0∨∃g,ao=some ⟨g,0,none⟩∧base≤g∧Pt g (ts.length*2) w):=by
 obtain ⟨ao,cap,hv,hm⟩:=RowG.own_made (z:=Ti.zero) Ti.lenz h
 refine ⟨ao,cap,hv,⟨rfl,?_⟩,hm.own⟩
 rcases hm.rws with h0|⟨b,off,e,hl,hc⟩
 ·exact .inl h0
 ·exact .inr ⟨b,off,e,hl,fun j hj=>⟨hc j hj 0 (by omega),hc j hj 1 (by omega)⟩⟩
theorem clone_tis (b off cap:Nat) (ts:List Ti) (w:World) (h1:1≤ts.length) (h5:ts.length≤5) (hI:Tis (some ⟨b,off,none⟩) ts.length ts w) :
 Calls Tryz.prog 181 #[.slice (some ⟨b,off,none⟩) ts.length cap] w fun e w'=>∃v,e=.returned v∧w'.ownsRow w.heap.size 248 2 v ts.length (tisC ts)∧Below w.heap.size w w':=by
 obtain ⟨i0,hi,hz0,hz1,hz2⟩:=info_parts infoT
 have HC:=H_ (tis_cells hI)
 have HL:=H_ (tisC_len ts)
 have H1:=H_ (tisC_one ts)
 generalize tisC ts=C at *
 generalize ts.length=len at *
 clear hI
 have hnil:=fun W=>Lib.run_eql_slice_nil (P:=Tryz.prog) W 148 248 (some ⟨b,off,none⟩) len cap 0 0 Tryz.underlying148
 have HE0:Hid ((w.alloc (.cells #[] 248)).ownsRow w.heap.size 248 2 (.slice (some ⟨w.heap.size,0,none⟩) 0 0) 0 []):=H_ (World.ownsRow_made w #[] 0 (Nat.le_refl _) (by unfold maxLen;omega) (by simp))
 have HN:Hid (∀j u,C[j]? = some u→(w.alloc (.cells #[] 248)).cell? ((⟨b,off,none⟩:Addr).add j)=some u):=H_ (fun j u hj=>by
  have h:=HC.out j u hj
  rw [Addr.add_lit]
  exact (((Below.refl w.heap.size w).alloc (Nat.le_refl _) _).cell (p:=⟨b,off+j,none⟩) (World.block_lt_of_cell? w ⟨b,off+j,none⟩ h)).trans h)
 go_enter Tryz.func181,Tryz.ntmps181
 go_wp2_with (at_builtin;refine wpList_append_own _ rfl _ _ 148 rfl w.heap.size 248 i0 (.agg #[.int .i64 0,.int .i64 0]) 2 16 Tryz.underlying148 hi hz0 hz1 hz2 rfl (by decide) _ _ _ rfl HE0.out ⟨b,off,none⟩ len cap C rfl HL.out HN.out H1.out (by unfold maxLen;omega) (by omega) (by simp) ?_)
 intro v1 w1 hown hgrow hne
 have HO:Hid (w1.ownsRow w.heap.size 248 2 v1 len C):=H_ (by first|exact hown|simpa using hown)
 have HB:Hid (Below w.heap.size w w1):=H_ ((al_ _ _).grown hgrow (by simp) (fun k e=>by simp [Value.ownBlock] at e;omega))
 clear hown hgrow hne
 go_wp2_with fail
 go_ret
 exact ⟨_,rfl,HO.out,HB.out⟩
theorem pt_new (w:World) (cs:List Value) (T:TypeId):Pt w.heap.size cs.length (w.alloc (.cells cs.toArray T)):=pt_row (heap_alloc_new w _) rfl
end CatR
namespace CatR
open EvtR (Pt)
def ResMO (w:World) (r:Me) (e:Ending) (w':World):Prop:=∃ta tc,e=.returned (.agg #[.string r.n,.int .i64 r.g,.bool r.wh,.int .i64 r.f,.int .i64 r.l,.slice ta r.ts.length tc])∧w'.ownsRow w.heap.size 248 2 (.slice ta r.ts.length tc) r.ts.length (tisC r.ts)∧Below w.heap.size w w'
theorem copy_meO (b off cap:Nat) (r:Me) (w:World) (h1:1≤r.ts.length) (h5:r.ts.length≤5) (hn:r.n.size≤1048576) (hI:Tis (some ⟨b,off,none⟩) r.ts.length r.ts w) :
 Calls Tryz.prog 132 #[.agg #[.string r.n,.int .i64 r.g,.bool r.wh,.int .i64 r.f,.int .i64 r.l,.slice (some ⟨b,off,none⟩) r.ts.length cap]] w fun e w'=>ResMO w r e w':=by
 obtain ⟨n,g,wh,f,l,ts⟩:=r
 simp only at *
 unfold ResMO
 simp only
 have H1:=H_ (fun w=>CloneR.clone_any n w (by omega))
 have H2:Hid (∀W,Below w.heap.size w W→Calls Tryz.prog 181 #[.slice (some ⟨b,off,none⟩) ts.length cap] W fun e w'=>∃ao cp,e=.returned (.slice ao ts.length cp)∧w'.ownsRow W.heap.size 248 2 (.slice ao ts.length cp) ts.length (tisC ts)∧Below W.heap.size W w'):=H_ (fun W hW=>(clone_tis b off cap ts W h1 h5 (hI.below hW)).mono fun e w' ⟨v,he,ho,hb⟩=>by
  obtain ⟨ao,cp,rfl,_,_⟩:=own_tisz ho
  exact ⟨ao,cp,he,ho,hb⟩)
 generalize tisC ts=C at *
 generalize ts.length=tl at *
 clear hI
 go_enter Tryz.func132,Tryz.ntmps132
 have HB0:Hid (Below w.heap.size w ((w.alloc (.cells #[.string n,.int .i64 g,.bool wh,.int .i64 f,.int .i64 l,.slice (some ⟨b,off,none⟩) tl cap] 150)).alloc (.cells #[.string ⟨#[]⟩,.int .i64 0,.bool false,.int .i64 0,.int .i64 0,.slice none 0 0] 150))):=H_ ((al_ _ _).alloc (by simp) _)
 have HP0:Hid (Pt w.heap.size 6 ((w.alloc (.cells #[.string n,.int .i64 g,.bool wh,.int .i64 f,.int .i64 l,.slice (some ⟨b,off,none⟩) tl cap] 150)).alloc (.cells #[.string ⟨#[]⟩,.int .i64 0,.bool false,.int .i64 0,.int .i64 0,.slice none 0 0] 150))):=H_ ((pt_new w [.string n,.int .i64 g,.bool wh,.int .i64 f,.int .i64 l,.slice (some ⟨b,off,none⟩) tl cap] 150).below (al_ _ _))
 have HQ0:Hid (Pt (w.heap.size+1) 6 ((w.alloc (.cells #[.string n,.int .i64 g,.bool wh,.int .i64 f,.int .i64 l,.slice (some ⟨b,off,none⟩) tl cap] 150)).alloc (.cells #[.string ⟨#[]⟩,.int .i64 0,.bool false,.int .i64 0,.int .i64 0,.slice none 0 0] 150))):=H_ (by have:=pt_new (w.alloc (.cells #[.string n,.int .i64 g,.bool wh,.int .i64 f,.int .i64 l,.slice (some ⟨b,off,none⟩) tl cap] 150)) [.string ⟨#[]⟩,.int .i64 0,.bool false,.int .i64 0,.int .i64 0,.slice none 0 0] 150;simpa using this)
 go_wp2_with fail
 refine (H1.out _).mono ?_
 rintro e w1 ⟨rfl,hb1⟩
 have HB1:=HT_ HB0 hb1
 have HP1:=H_ (HP0.out.below hb1)
 have HQ1:=H_ (HQ0.out.below hb1)
 have k:=fun o=>hb1.cell (p:=⟨w.heap.size,o,none⟩) (by simp;omega)
 have c0:=k 0
 have c1:=k 1
 have c2:=k 2
 have c3:=k 3
 have c4:=k 4
 have c5:=k 5
 simp [go_sem] at c0 c1 c2 c3 c4 c5
 have f0:=HP1.out.free 0 (by omega)
 have l1:=HP1.out.lt
 have HPs:=H_ (HP1.out.set 0 (.string n))
 have HQs:=H_ (HQ1.out.far (b:=w.heap.size) (by omega) 0 (.string n))
 have HBs:Hid (Below w.heap.size w (w1.setCell ⟨w.heap.size,0,none⟩ (.string n))):=H_ (HB1.out.setCell (Nat.le_refl _) _)
 clear hb1 k
 go_wp2_with fail
 refine (H2.out _ HBs.out).mono ?_
 rintro e w2 ⟨ao,cp,rfl,hO,hb2⟩
 have HB2:=HT_ HBs hb2
 have HO2:=H_ hO
 have HP2:=H_ (HPs.out.below hb2)
 have HQ2:=H_ (HQs.out.below hb2)
 have hs1:w.heap.size+1<w1.heap.size:=HQ1.out.lt
 have hs2:(w1.setCell ⟨w.heap.size,0,none⟩ (.string n)).heap.size=w1.heap.size:=by simp
 have k:=fun o=>hb2.cell (p:=⟨w.heap.size,o,none⟩) (by simpa using l1)
 have d0:w2.cell? ⟨w.heap.size,0,none⟩=some (.string n):=(k 0).trans (by simp [go_sem,c0])
 have d1:w2.cell? ⟨w.heap.size,1,none⟩=some (.int .i64 g):=(k 1).trans (by simp [go_sem,c1])
 have d2:w2.cell? ⟨w.heap.size,2,none⟩=some (.bool wh):=(k 2).trans (by simp [go_sem,c2])
 have d3:w2.cell? ⟨w.heap.size,3,none⟩=some (.int .i64 f):=(k 3).trans (by simp [go_sem,c3])
 have d4:w2.cell? ⟨w.heap.size,4,none⟩=some (.int .i64 l):=(k 4).trans (by simp [go_sem,c4])
 obtain ⟨v5,d5⟩:=HP2.out.has 5 (by omega)
 have g5:=HP2.out.free 5 (by omega)
 have l2:=HP2.out.lt
 have q:=HQ2.out.lt
 obtain ⟨y0,e0⟩:=HQ2.out.has 0 (by omega)
 obtain ⟨y1,e1⟩:=HQ2.out.has 1 (by omega)
 obtain ⟨y2,e2⟩:=HQ2.out.has 2 (by omega)
 obtain ⟨y3,e3⟩:=HQ2.out.has 3 (by omega)
 obtain ⟨y4,e4⟩:=HQ2.out.has 4 (by omega)
 obtain ⟨y5,e5⟩:=HQ2.out.has 5 (by omega)
 have z0:=HQ2.out.free 0 (by omega)
 have z1:=HQ2.out.free 1 (by omega)
 have z2:=HQ2.out.free 2 (by omega)
 have z3:=HQ2.out.free 3 (by omega)
 have z4:=HQ2.out.free 4 (by omega)
 have z5:=HQ2.out.free 5 (by omega)
 clear hO hb2 k c0 c1 c2 c3 c4 c5 f0
 go_wp2_with fail
 refine bodyPost_ret (v:=.agg #[.string n,.int .i64 g,.bool wh,.int .i64 f,.int .i64 l,.slice ao tl cp]) (by simp [results,Tryz.results132,go_sem,e0,e1,e2,e3,e4,e5]) rfl ⟨ao,cp,rfl,?_,?_⟩
 ·refine OwG.own_low ?_ (show w.heap.size≤(w1.setCell ⟨w.heap.size,0,none⟩ (.string n)).heap.size by rw [hs2];omega)
  have z:w.heap.size<(w1.setCell ⟨w.heap.size,0,none⟩ (.string n)).heap.size:=by rw [hs2];omega
  have z':w.heap.size+1<(w1.setCell ⟨w.heap.size,0,none⟩ (.string n)).heap.size:=by rw [hs2];omega
  exact ownsRow_setCell_below (ownsRow_setCell_below (ownsRow_setCell_below (ownsRow_setCell_below (ownsRow_setCell_below (ownsRow_setCell_below (ownsRow_setCell_below HO2.out z _) z' _) z' _) z' _) z' _) z' _) z' _
 ·exact ((((((HB2.out.setCell (Nat.le_refl _) _).setCell (by simp) _).setCell (by simp) _).setCell (by simp) _).setCell (by simp) _).setCell (by simp) _).setCell (by simp) _
theorem spec_meO (b off cap:Nat) (r:Me) (w:World) (h5:r.ts.length≤1048576) (hI:Tis (some ⟨b,off,none⟩) r.ts.length r.ts w) :
 Calls Tryz.prog 113 #[.agg #[.string r.n,.int .i64 r.g,.bool r.wh,.int .i64 r.f,.int .i64 r.l,.slice (some ⟨b,off,none⟩) r.ts.length cap]] w fun e w'=>ResMO w r e w':=by
 obtain ⟨n,g,wh,f,l,ts⟩:=r
 simp only at *
 unfold ResMO
 simp only
 obtain ⟨i0,hi,hz0,hz1,hz2⟩:=info_parts infoT
 have HL:=H_ (tisC_len ts)
 have H1:=H_ (tisC_one ts)
 have HTC:=H_ (fun W (hW:Below w.heap.size w W)=>tis_cells (hI.below hW))
 have HOT:=H_ (fun (W:World) base v (h:W.ownsRow base 248 2 v ts.length (tisC ts))=>own_tisz h)
 generalize tisC ts=C at *
 generalize ts.length=tl at *
 have HB0:Hid (Below w.heap.size w (((w.alloc (.cells #[.string n,.int .i64 g,.bool wh,.int .i64 f,.int .i64 l,.slice (some ⟨b,off,none⟩) tl cap] 150)).alloc (.cells #[.string ⟨#[]⟩,.int .i64 0,.bool false,.int .i64 0,.int .i64 0,.slice none 0 0] 150)).alloc (.cells #[] 248))):=H_ (((al_ _ _).alloc (by simp) _).alloc (by simp;omega) _)
 have HP0:Hid (Pt w.heap.size 6 (((w.alloc (.cells #[.string n,.int .i64 g,.bool wh,.int .i64 f,.int .i64 l,.slice (some ⟨b,off,none⟩) tl cap] 150)).alloc (.cells #[.string ⟨#[]⟩,.int .i64 0,.bool false,.int .i64 0,.int .i64 0,.slice none 0 0] 150)).alloc (.cells #[] 248))):=H_ (((pt_new w [.string n,.int .i64 g,.bool wh,.int .i64 f,.int .i64 l,.slice (some ⟨b,off,none⟩) tl cap] 150).below (al_ _ _)).below (al_ _ _))
 have HQ0:Hid (Pt (w.heap.size+1) 6 (((w.alloc (.cells #[.string n,.int .i64 g,.bool wh,.int .i64 f,.int .i64 l,.slice (some ⟨b,off,none⟩) tl cap] 150)).alloc (.cells #[.string ⟨#[]⟩,.int .i64 0,.bool false,.int .i64 0,.int .i64 0,.slice none 0 0] 150)).alloc (.cells #[] 248))):=H_ ((show Pt (w.heap.size+1) 6 ((w.alloc (.cells #[.string n,.int .i64 g,.bool wh,.int .i64 f,.int .i64 l,.slice (some ⟨b,off,none⟩) tl cap] 150)).alloc (.cells #[.string ⟨#[]⟩,.int .i64 0,.bool false,.int .i64 0,.int .i64 0,.slice none 0 0] 150)) by have:=pt_new (w.alloc (.cells #[.string n,.int .i64 g,.bool wh,.int .i64 f,.int .i64 l,.slice (some ⟨b,off,none⟩) tl cap] 150)) [.string ⟨#[]⟩,.int .i64 0,.bool false,.int .i64 0,.int .i64 0,.slice none 0 0] 150;simpa using this).below (al_ _ _))
 have HX0:Hid (Blk w.heap.size [.string n,.int .i64 g,.bool wh,.int .i64 f,.int .i64 l,.slice (some ⟨b,off,none⟩) tl cap] (((w.alloc (.cells #[.string n,.int .i64 g,.bool wh,.int .i64 f,.int .i64 l,.slice (some ⟨b,off,none⟩) tl cap] 150)).alloc (.cells #[.string ⟨#[]⟩,.int .i64 0,.bool false,.int .i64 0,.int .i64 0,.slice none 0 0] 150)).alloc (.cells #[] 248))):=H_ (((Blk.new w _ _).alloc _).alloc _)
 have HE0:Hid (((((w.alloc (.cells #[.string n,.int .i64 g,.bool wh,.int .i64 f,.int .i64 l,.slice (some ⟨b,off,none⟩) tl cap] 150)).alloc (.cells #[.string ⟨#[]⟩,.int .i64 0,.bool false,.int .i64 0,.int .i64 0,.slice none 0 0] 150)).alloc (.cells #[] 248))).ownsRow (w.heap.size+2) 248 2 (.slice (some ⟨w.heap.size+1+1,0,none⟩) 0 0) 0 []):=H_ (by
  have:=World.ownsRow_made ((w.alloc (.cells #[.string n,.int .i64 g,.bool wh,.int .i64 f,.int .i64 l,.slice (some ⟨b,off,none⟩) tl cap] 150)).alloc (.cells #[.string ⟨#[]⟩,.int .i64 0,.bool false,.int .i64 0,.int .i64 0,.slice none 0 0] 150)) (e:=248) (size:=2) (base:=w.heap.size+2) #[] 0 (by simp) (by unfold maxLen;omega) (by simp)
  simpa using this)
 have HN:Hid (∀j u,C[j]? = some u→((((w.alloc (.cells #[.string n,.int .i64 g,.bool wh,.int .i64 f,.int .i64 l,.slice (some ⟨b,off,none⟩) tl cap] 150)).alloc (.cells #[.string ⟨#[]⟩,.int .i64 0,.bool false,.int .i64 0,.int .i64 0,.slice none 0 0] 150)).alloc (.cells #[] 248))).cell? ((⟨b,off,none⟩:Addr).add j)=some u):=H_ (fun j u hj=>by rw [Addr.add_lit];exact HTC.out _ HB0.out j u hj)
 go_enter Tryz.func113,Tryz.ntmps113
 go_wp2_with (at_builtin;refine wpList_append_own _ rfl _ _ 148 rfl (w.heap.size+2) 248 i0 (.agg #[.int .i64 0,.int .i64 0]) 2 16 Tryz.underlying148 hi hz0 hz1 hz2 rfl (by decide) _ _ _ rfl HE0.out ⟨b,off,none⟩ tl cap C rfl HL.out HN.out H1.out (by unfold maxLen;omega) (by omega) (by simp) ?_)
 intro v1 w2 hown hgrow hne
 have HO:Hid (w2.ownsRow (w.heap.size+2) 248 2 v1 tl C):=H_ (by first|exact hown|simpa using hown)
 have hrow:∀k,(Value.slice (some ⟨w.heap.size+1+1,0,none⟩) 0 0).ownBlock=some k→k=w.heap.size+2:=fun k e=>by simp [Value.ownBlock] at e;omega
 have HB2:Hid (Below w.heap.size w w2):=H_ (HB0.out.grown hgrow HB0.out.size (fun k e=>by have:=hrow k e;omega))
 have HP2:=H_ (OwG.pt_row HP0.out hgrow (fun e=>by have:=hrow _ e.symm;omega))
 have HQ2:=H_ (OwG.pt_row HQ0.out hgrow (fun e=>by have:=hrow _ e.symm;omega))
 have k:=fun o=>World.cell?_of_block (a:=⟨w.heap.size,o,none⟩) (hgrow.block w.heap.size HX0.out.1 (fun e=>by have:=hrow _ e.symm;omega))
 have d0:w2.cell? ⟨w.heap.size,0,none⟩=some (.string n):=(k 0).trans (HX0.out.2 0 (by simp))
 have d1:w2.cell? ⟨w.heap.size,1,none⟩=some (.int .i64 g):=(k 1).trans (HX0.out.2 1 (by simp))
 have d2:w2.cell? ⟨w.heap.size,2,none⟩=some (.bool wh):=(k 2).trans (HX0.out.2 2 (by simp))
 have d3:w2.cell? ⟨w.heap.size,3,none⟩=some (.int .i64 f):=(k 3).trans (HX0.out.2 3 (by simp))
 have d4:w2.cell? ⟨w.heap.size,4,none⟩=some (.int .i64 l):=(k 4).trans (HX0.out.2 4 (by simp))
 obtain ⟨ao,cp,rfl,-,-⟩:=HOT.out w2 _ v1 HO.out
 obtain ⟨v5,d5⟩:=HP2.out.has 5 (by omega)
 have g5:=HP2.out.free 5 (by omega)
 have l2:=HP2.out.lt
 have q:=HQ2.out.lt
 obtain ⟨y0,e0⟩:=HQ2.out.has 0 (by omega)
 obtain ⟨y1,e1⟩:=HQ2.out.has 1 (by omega)
 obtain ⟨y2,e2⟩:=HQ2.out.has 2 (by omega)
 obtain ⟨y3,e3⟩:=HQ2.out.has 3 (by omega)
 obtain ⟨y4,e4⟩:=HQ2.out.has 4 (by omega)
 obtain ⟨y5,e5⟩:=HQ2.out.has 5 (by omega)
 have z0:=HQ2.out.free 0 (by omega)
 have z1:=HQ2.out.free 1 (by omega)
 have z2:=HQ2.out.free 2 (by omega)
 have z3:=HQ2.out.free 3 (by omega)
 have z4:=HQ2.out.free 4 (by omega)
 have z5:=HQ2.out.free 5 (by omega)
 clear hown hgrow hne k hrow hI
 go_wp2_with fail
 refine bodyPost_ret (v:=.agg #[.string n,.int .i64 g,.bool wh,.int .i64 f,.int .i64 l,.slice ao tl cp]) (by simp [results,Tryz.results113,go_sem,e0,e1,e2,e3,e4,e5]) rfl ⟨ao,cp,rfl,?_,?_⟩
 ·refine OwG.own_low ?_ (show w.heap.size≤w.heap.size+2 by omega)
  have z:w.heap.size<w.heap.size+2:=by omega
  have z':w.heap.size+1<w.heap.size+2:=by omega
  exact ownsRow_setCell_below (ownsRow_setCell_below (ownsRow_setCell_below (ownsRow_setCell_below (ownsRow_setCell_below (ownsRow_setCell_below (ownsRow_setCell_below HO.out z _) z' _) z' _) z' _) z' _) z' _) z' _
 ·exact ((((((HB2.out.setCell (Nat.le_refl _) _).setCell (by simp) _).setCell (by simp) _).setCell (by simp) _).setCell (by simp) _).setCell (by simp) _).setCell (by simp) _
end CatR
end Go.Proofs.YtnceeaccbcfopaaGreatDoor
namespace Go.Proofs.YtnceeaccbcfopaaGreatDoor
open Go.RowKit
set_option linter.unusedVariables false
namespace CatR
open Op (bytesLess)
theorem bl_irrefl:∀x:List UInt8,bytesLess x x=false
 | []=>rfl
 | a::x=>by
  rw [bytesLess,bl_irrefl x]
  simp
theorem bl_trans:∀{x y z:List UInt8},bytesLess x y=true→bytesLess y z=true→bytesLess x z=true
 | _,[],_,h,_=>by simp [bytesLess] at h
 | _,_::_,[],_,h=>by simp [bytesLess] at h
 | [],_::_,_::_,_,_=>rfl
 | a::x,b::y,c::z,h1,h2=>by
  rw [bytesLess] at *
  simp only [Bool.or_eq_true,Bool.and_eq_true,decide_eq_true_eq,beq_iff_eq] at *
  rcases h1 with h1|⟨rfl,h1⟩
  ·rcases h2 with h2|⟨rfl,h2⟩
   ·exact .inl (UInt8.lt_trans h1 h2)
   ·exact .inl h1
  ·rcases h2 with h2|⟨rfl,h2⟩
   ·exact .inl h2
   ·exact .inr ⟨rfl,bl_trans h1 h2⟩
theorem bl_total:∀{x y:List UInt8},bytesLess x y=false→bytesLess y x=false→x=y
 | [],[],_,_=>rfl
 | [],_::_,h,_=>by simp [bytesLess] at h
 | _::_,[],_,h=>by simp [bytesLess] at h
 | a::x,b::y,h1,h2=>by
  rw [bytesLess] at *
  simp only [Bool.or_eq_false_iff,Bool.and_eq_false_iff,decide_eq_false_iff_not,beq_eq_false_iff_ne] at *
  have e:a=b:=by
   have p1:=h1.1
   have p2:=h2.1
   rw [UInt8.lt_iff_toNat_lt] at p1 p2
   exact UInt8.toNat.inj (by omega)
  subst e
  rw [bl_total (h1.2.resolve_left (fun h=>h rfl)) (h2.2.resolve_left (fun h=>h rfl))]
def lt (a b:ByteArray):Bool:=bytesLess a.toList b.toList
theorem toList_inj {a b:ByteArray} (h:a.toList=b.toList):a=b:=by
 rw [ByteArray.toList_eq,ByteArray.toList_eq] at h
 exact ByteArray.ext (Array.ext' h)
theorem lt_irrefl (a:ByteArray):lt a a=false:=bl_irrefl _
theorem lt_trans {a b c:ByteArray} (h1:lt a b=true) (h2:lt b c=true):lt a c=true:=bl_trans h1 h2
theorem lt_total {a b:ByteArray} (h1:lt a b=false) (h2:lt b a=false):a=b:=toList_inj (bl_total h1 h2)
theorem lt_asymm {a b:ByteArray} (h:lt a b=true):lt b a=false:=by
 cases h2:lt b a
 ·rfl
 ·have:=lt_trans h h2
  rw [lt_irrefl] at this
  cases this
theorem lt_empty {b:ByteArray} (h:1≤b.size):lt ⟨#[]⟩ b=true:=by
 unfold lt
 have h1:(⟨#[]⟩:ByteArray).toList=[]:=by rw [ByteArray.toList_eq]
 rw [h1]
 cases hb:b.toList with
 | nil =>
  rw [ByteArray.toList_eq] at hb
  have:b.data.toList.length=0:=by rw [hb];rfl
  have h2:b.data.toList.length=b.size:=rfl
  omega
 | cons x l=>rfl
def mN (ms:List Me) (i:Nat):ByteArray:=(ms.getD i Me.zero).n
def cA (cs:List Cr) (i:Nat):ByteArray:=(cs.getD i Cr.zero).a
def cM (cs:List Cr) (i:Nat):Int:=(cs.getD i Cr.zero).m
def MOk (ms:List Me) (k:Nat):Prop:=∀i,i<k→MRight (ms.getD i Me.zero)∧(0<i→lt (mN ms (i-1)) (mN ms i)=true)
def COk (cs:List Cr) (k:Nat):Prop:=∀i,i<k→(NameR.nameB (cA cs i)=true∧0≤cM cs i∧cM cs i≤1000000000000)∧(0<i→lt (cA cs (i-1)) (cA cs i)=true)
def MsRight (ms:List Me):Prop:=ms.length≤6∧MOk ms ms.length
def CsRight (cs:List Cr):Prop:=cs.length≤6∧COk cs cs.length
theorem MOk.rise {ms:List Me} {k:Nat} (h:MOk ms k):∀j,j<k→∀i,i<j→lt (mN ms i) (mN ms j)=true
 | 0,_,i,hi=>absurd hi (by omega)
 | j+1,hj,i,hi=>by
  have h1:lt (mN ms j) (mN ms (j+1))=true:=(h (j+1) hj).2 (by omega)
  by_cases e:i=j
  ·subst e;exact h1
  ·exact lt_trans (MOk.rise h j (by omega) i (by omega)) h1
theorem MOk.apart {ms:List Me} {k:Nat} (h:MOk ms k) {i j:Nat} (hi:i<k) (hj:j<k) (e:mN ms i=mN ms j):i=j:=by
 rcases Nat.lt_trichotomy i j with h1|h1|h1
 ·have:=h.rise j hj i h1
  rw [e,lt_irrefl] at this
  cases this
 ·exact h1
 ·have:=h.rise i hi j h1
  rw [e,lt_irrefl] at this
  cases this
theorem MOk.zero (ms:List Me):MOk ms 0:=fun i h=>absurd h (by omega)
theorem COk.zero (cs:List Cr):COk cs 0:=fun i h=>absurd h (by omega)
theorem MOk.more {ms:List Me} {k:Nat} (h:MOk ms k) (h1:MRight (ms.getD k Me.zero)) (h2:0<k→lt (mN ms (k-1)) (mN ms k)=true):MOk ms (k+1):=by
 intro i hi
 by_cases e:i=k
 ·subst e;exact ⟨h1,h2⟩
 ·exact h i (by omega)
theorem COk.more {cs:List Cr} {k:Nat} (h:COk cs k) (h1:NameR.nameB (cA cs k)=true) (h3:0≤cM cs k∧cM cs k≤1000000000000) (h2:0<k→lt (cA cs (k-1)) (cA cs k)=true):COk cs (k+1):=by
 intro i hi
 by_cases e:i=k
 ·subst e;exact ⟨⟨h1,h3⟩,h2⟩
 ·exact h i (by omega)
def MOkDec (ms:List Me) (k:Nat):Decidable (MOk ms k) :=
 haveI:=MRightDec
 inferInstanceAs (Decidable (∀i,i<k→MRight (ms.getD i Me.zero)∧(0<i→lt (mN ms (i-1)) (mN ms i)=true)))
def COkDec (cs:List Cr) (k:Nat):Decidable (COk cs k):=inferInstanceAs (Decidable (∀i,i<k→(NameR.nameB (cA cs i)=true∧0≤cM cs i∧cM cs i≤1000000000000)∧(0<i→lt (cA cs (i-1)) (cA cs i)=true)))
def MsRightDec (ms:List Me):Decidable (MsRight ms) :=
 haveI:=MOkDec ms ms.length
 inferInstanceAs (Decidable (ms.length≤6∧MOk ms ms.length))
def CsRightDec (cs:List Cr):Decidable (CsRight cs) :=
 haveI:=COkDec cs cs.length
 inferInstanceAs (Decidable (cs.length≤6∧COk cs cs.length))
def msB (ms:List Me):Bool:=@decide (MsRight ms) (MsRightDec ms)
def csB (cs:List Cr):Bool:=@decide (CsRight cs) (CsRightDec cs)
def caB (c:Ca):Bool:=msB c.ms&&csB c.cs
theorem msB_no {ms:List Me} (h:¬MsRight ms):msB ms=false:=by unfold msB;exact @decide_eq_false _ (MsRightDec ms) h
theorem msB_yes {ms:List Me} (h:MsRight ms):msB ms=true:=by unfold msB;exact @decide_eq_true _ (MsRightDec ms) h
theorem csB_no {cs:List Cr} (h:¬CsRight cs):csB cs=false:=by unfold csB;exact @decide_eq_false _ (CsRightDec cs) h
theorem csB_yes {cs:List Cr} (h:CsRight cs):csB cs=true:=by unfold csB;exact @decide_eq_true _ (CsRightDec cs) h
theorem mB_iff {m:Me}:mB m=true↔MRight m:=by unfold mB;exact @decide_eq_true_iff _ (MRightDec m)
def RV (v:Value):Option (DataW Value × List MemPlace):=some (.held v,[])
def kS (n:ByteArray):Lit:=.string n.data.toList
theorem kS_inj {a b:ByteArray} (h:kS a=kS b):a=b:=by
 unfold kS at h
 simp only [Lit.string.injEq] at h
 exact ByteArray.ext (Array.ext' h)
theorem kS_key (n:ByteArray):WideAt.IsKeyLit (kS n):=by
 unfold kS
 first|trivial|exact rfl|(simp [WideAt.IsKeyLit])
def mapD (ms:List Me) (V:Nat→Value):Nat→DataW Value
 | 0=>.map []
 | k+1=>(mapD ms V k).put (kS (mN ms k)) (.held (V k))
theorem mapD_is (ms:List Me) (V:Nat→Value):∀k,Maps.IsMap (mapD ms V k)
 | 0=>Maps.isMap_empty
 | k+1=>(mapD_is ms V k).put _ _
theorem has_mapD (ms:List Me) (V:Nat→Value) (n:ByteArray):∀k,Maps.has (mapD ms V k) (kS n)=true↔∃i,i<k∧mN ms i=n
 | 0=>by
  refine ⟨fun h=>?_,fun ⟨i,hi,_⟩=>absurd hi (by omega)⟩
  rw [mapD,Maps.has_eq] at h
  simp at h
 | k+1=>by
  rw [mapD]
  by_cases e:n=mN ms k
  ·subst e
   rw [Maps.has_put_same (mapD_is ms V k) (kS_key _)]
   exact ⟨fun _=>⟨k,by omega,rfl⟩,fun _=>rfl⟩
  ·rw [Maps.has_put_other (fun h=>e (kS_inj h)),has_mapD ms V n k]
   constructor
   ·rintro ⟨i,hi,h⟩;exact ⟨i,by omega,h⟩
   ·rintro ⟨i,hi,h⟩
    refine ⟨i,?_,h⟩
    rcases Nat.lt_or_ge i k with h1|h1
    ·exact h1
    ·obtain rfl:i=k:=by omega
     exact absurd h.symm e
theorem at_mapD_some (ms:List Me) (V:Nat→Value) (n:ByteArray):∀k,(∃i,i<k∧mN ms i=n)→∃j,j<k∧∀z,(mapD ms V k).atKey (kS n) z=.held (V j)
 | 0,⟨i,hi,_⟩=>absurd hi (by omega)
 | k+1,h=>by
  by_cases e:n=mN ms k
  ·subst e
   exact ⟨k,by omega,fun z=>by rw [mapD];exact Maps.atKey_put_same (mapD_is ms V k) (kS_key _) _ _⟩
  ·obtain ⟨i,hi,he⟩:=h
   obtain ⟨j,hj,h2⟩:=at_mapD_some ms V n k ⟨i,by
    rcases Nat.lt_or_ge i k with h1|h1
    ·exact h1
    ·obtain rfl:i=k:=by omega
     exact absurd he.symm e,he⟩
   exact ⟨j,by omega,fun z=>by rw [mapD,Maps.atKey_put_other (fun h=>e (kS_inj h))];exact h2 z⟩
def delD (ms:List Me) (D:DataW Value):Nat→DataW Value
 | 0=>D
 | k+1=>(delD ms D k).del (kS (mN ms k))
theorem has_delD (ms:List Me) (D:DataW Value) (n:ByteArray):∀k,Maps.has (delD ms D k) (kS n)=true↔(Maps.has D (kS n)=true∧∀i,i<k→mN ms i≠n)
 | 0=>⟨fun h=>⟨h,fun i hi=>absurd hi (by omega)⟩,fun h=>h.1⟩
 | k+1=>by
  rw [delD]
  by_cases e:n=mN ms k
  ·subst e
   rw [Maps.has_del_same]
   exact ⟨fun h=>(by cases h),fun h=>absurd rfl (h.2 k (by omega))⟩
  ·rw [Maps.has_del_other (fun h=>e (kS_inj h)),has_delD ms D n k]
   constructor
   ·rintro ⟨h1,h2⟩
    refine ⟨h1,fun i hi h=>?_⟩
    rcases Nat.lt_or_ge i k with h3|h3
    ·exact h2 i h3 h
    ·obtain rfl:i=k:=by omega
     exact e h.symm
   ·rintro ⟨h1,h2⟩;exact ⟨h1,fun i hi=>h2 i (by omega)⟩
theorem at_delD (ms:List Me) (D:DataW Value) (n:ByteArray) (z:DataW Value):∀k,(∀i,i<k→mN ms i≠n)→(delD ms D k).atKey (kS n) z=D.atKey (kS n) z
 | 0,_=>rfl
 | k+1,h=>by
  rw [delD,Maps.atKey_del_other (fun e=>h k (by omega) (kS_inj e).symm)]
  exact at_delD ms D n z k (fun i hi=>h i (by omega))
theorem ms_alike {ms:List Me} {k i:Nat} (hk:k<ms.length) (hi:i<k) (e:mN ms i=mN ms k):msB ms=false:=msB_no (fun h=>by
 have:=h.2.apart (by omega) hk e
 omega)
theorem ms_falls {ms:List Me} {k:Nat} (hk:k<ms.length) (h0:0<k) (h:lt (mN ms k) (mN ms (k-1))=true):msB ms=false:=msB_no (fun hr=>by
 have:=lt_asymm ((hr.2 k hk).2 h0)
 rw [h] at this
 cases this)
theorem ms_flat {ms:List Me} {k:Nat} (hk:k<ms.length) (h0:0<k) (h:lt (mN ms (k-1)) (mN ms k)=false):msB ms=false:=msB_no (fun hr=>by
 have:=(hr.2 k hk).2 h0
 rw [h] at this
 cases this)
theorem ms_wrong {ms:List Me} {k:Nat} (hk:k<ms.length) (h:mB (ms.getD k Me.zero)=false):msB ms=false:=msB_no (fun hr=>by
 have:=mB_iff.2 (hr.2 k hk).1
 rw [h] at this
 cases this)
theorem ms_end {ms:List Me} (h6:ms.length≤6) (h:MOk ms ms.length):msB ms=true:=msB_yes ⟨h6,h⟩
theorem ms_many {ms:List Me} (h6:6<ms.length):msB ms=false:=msB_no (fun hr=>by have:=hr.1;omega)
theorem cs_many {cs:List Cr} (h6:6<cs.length):csB cs=false:=csB_no (fun hr=>by have:=hr.1;omega)
theorem cs_end {cs:List Cr} (h6:cs.length≤6) (h:COk cs cs.length):csB cs=true:=csB_yes ⟨h6,h⟩
theorem cs_name {cs:List Cr} {k:Nat} (hk:k<cs.length) (h:NameR.nameB (cA cs k)=false):csB cs=false:=csB_no (fun hr=>by
 have:=(hr.2 k hk).1.1
 rw [h] at this
 cases this)
theorem cs_micro {cs:List Cr} {k:Nat} (hk:k<cs.length) (h:¬(0≤cM cs k∧cM cs k≤1000000000000)):csB cs=false:=csB_no (fun hr=>h (hr.2 k hk).1.2)
theorem cs_flat {cs:List Cr} {k:Nat} (hk:k<cs.length) (h0:0<k) (h:lt (cA cs (k-1)) (cA cs k)=false):csB cs=false:=csB_no (fun hr=>by
 have:=(hr.2 k hk).2 h0
 rw [h] at this
 cases this)
end CatR
end Go.Proofs.YtnceeaccbcfopaaGreatDoor
namespace Go.Proofs.YtnceeaccbcfopaaGreatDoor
open Go.ChangeShapes Go.WideShapes Go.ChangeAt Go.RowKit
set_option linter.unusedVariables false
namespace CatR
def MesV (ao:Option Addr) (len:Nat) (ms:List Me) (V:Nat→Value) (w:World):Prop:=len=0∨∃b off,ao=some ⟨b,off,none⟩∧b<w.heap.size∧∀j,j<len→∃ta tc,V j=.agg #[.string (mN ms j),.int .i64 (ms.getD j Me.zero).g,.bool (ms.getD j Me.zero).wh,.int .i64 (ms.getD j Me.zero).f,.int .i64 (ms.getD j Me.zero).l,.slice ta (ms.getD j Me.zero).ts.length tc]∧w.cell? ⟨b,off+j*6,none⟩=some (.string (mN ms j))∧w.cell? ⟨b,off+j*6+1,none⟩=some (.int .i64 (ms.getD j Me.zero).g)∧w.cell? ⟨b,off+j*6+2,none⟩=some (.bool (ms.getD j Me.zero).wh)∧w.cell? ⟨b,off+j*6+3,none⟩=some (.int .i64 (ms.getD j Me.zero).f)∧w.cell? ⟨b,off+j*6+4,none⟩=some (.int .i64 (ms.getD j Me.zero).l)∧w.cell? ⟨b,off+j*6+5,none⟩=some (.slice ta (ms.getD j Me.zero).ts.length tc)∧Tis ta (ms.getD j Me.zero).ts.length (ms.getD j Me.zero).ts w
theorem MesV.below {ao:Option Addr} {len:Nat} {ms:List Me} {V:Nat→Value} {w w':World} (h:MesV ao len ms V w) (hb:Below w.heap.size w w'):MesV ao len ms V w':=by
 rcases h with h|⟨b,off,rfl,hl,h⟩
 ·exact .inl h
 ·refine .inr ⟨b,off,rfl,by have:=hb.size;omega,fun j hj=>?_⟩
  obtain ⟨ta,tc,hv,h0,h1,h2,h3,h4,h5,h6⟩:=h j hj
  have f:=fun k=>hb.cell (p:=⟨b,k,none⟩) hl
  exact ⟨ta,tc,hv,(f _).trans h0,(f _).trans h1,(f _).trans h2,(f _).trans h3,(f _).trans h4,(f _).trans h5,h6.below hb⟩
theorem MesV.is {ao:Option Addr} {len:Nat} {ms:List Me} {V:Nat→Value} {w:World} (h:MesV ao len ms V w) (j:Nat) (hj:j<len):IsMe (V j) (ms.getD j Me.zero) w:=by
 rcases h with h|⟨b,off,rfl,hl,h⟩
 ·omega
 ·obtain ⟨ta,tc,hv,_,_,_,_,_,_,h6⟩:=h j hj
  exact ⟨ta,tc,hv,h6⟩
theorem mes_v {ao:Option Addr} {len:Nat} {ms:List Me} {w:World} (h:Mes ao len ms w):∃V,MesV ao len ms V w:=by
 rcases h.2 with h|⟨b,off,rfl,hl,h⟩
 ·exact ⟨fun _=>undef,.inl h⟩
 ·refine ⟨fun j=>if hj:j<len then .agg #[.string (mN ms j),.int .i64 (ms.getD j Me.zero).g,.bool (ms.getD j Me.zero).wh,.int .i64 (ms.getD j Me.zero).f,.int .i64 (ms.getD j Me.zero).l,.slice (Classical.choose (h j hj)) (ms.getD j Me.zero).ts.length (Classical.choose (Classical.choose_spec (h j hj)))] else undef,.inr ⟨b,off,rfl,hl,fun j hj=>?_⟩⟩
  obtain ⟨h0,h1,h2,h3,h4,h5,h6⟩:=Classical.choose_spec (Classical.choose_spec (h j hj))
  exact ⟨_,_,by simp only [hj,dif_pos],h0,h1,h2,h3,h4,h5,h6⟩
theorem keyedS:Maps.Keyed Tryz.prog 9:=Maps.string_keyed Tryz.underlying9
theorem byName_any (ao:Option Addr) (len cap:Nat) (ms:List Me) (V:Nat→Value) (w:World) (hlen:len≤6) (hn:∀i,i<len→(mN ms i).size≤1048576) (hI:MesV ao len ms V w) :
 Calls Tryz.prog 162 #[.slice ao len cap] w fun e w'=>e=.returned (.map (some w.heap.size))∧w'.ownsMap Tryz.prog 9 RV w.heap.size len (mapD ms V len)∧Below w.heap.size w w':=by
 have HI:=H_ hI
 have HN:=H_ hn
 clear hI hn
 have HO0:Hid ((w.alloc (.map #[] 0)).ownsMap Tryz.prog 9 RV w.heap.size 0 (mapD ms V 0)):=H_ (World.ownsMap_made w Tryz.prog 9 RV)
 have HB0:Hid (Below w.heap.size w (w.alloc (.map #[] 0))):=H_ (al_ _ _)
 have hmm:=@run_makeMap Tryz.prog
 go_enter Tryz.func162,Tryz.ntmps162
 go_wp2_with fail
 go_loopw [9] (fun z wr=>∃k:Nat,k≤len∧z=.int .i64 k∧Hid (Below w.heap.size w wr)∧Hid (wr.ownsMap Tryz.prog 9 RV w.heap.size k (mapD ms V k))) (fun z _=>len-(intOf z).toNat)
 case atStart=>exact ⟨0,by omega,rfl,HB0,HO0⟩
 case round =>
  obtain ⟨k,hk,rfl,HB,HO⟩:=hrel
  by_cases hlt:k<len
  ·have hlt2:(k:Int)<(len:Int):=by omega
   rcases HI.out.below HB.out with h|⟨b,off,rfl,hbl,h⟩
   ·omega
   obtain ⟨ta,tc,hv,c0,c1,c2,c3,c4,c5,_⟩:=h k hlt
   clear h
   have HK:=H_ (Go.WideMaps.keyOf_string_mk (P:=Tryz.prog) (k:=9) Tryz.underlying9 (s:=mN ms k) (Nat.le_trans (HN.out k hlt) (by unfold maxLen;omega)))
   have HV:Hid (RV (.agg #[.string (mN ms k),.int .i64 (ms.getD k Me.zero).g,.bool (ms.getD k Me.zero).wh,.int .i64 (ms.getD k Me.zero).f,.int .i64 (ms.getD k Me.zero).l,.slice ta (ms.getD k Me.zero).ts.length tc])=some (.held (V k),[])):=H_ (by rw [hv];rfl)
   have HD:Hid (mapD ms V (k+1)=(mapD ms V k).put (kS (mN ms k)) (.held (V k))):=rfl
   have HKE:Hid (kS (mN ms k)=.string (mN ms k).data.toList):=rfl
   have HAl:=H_ (fun o=>HB.out.alloc HB.out.size o)
   have HOl:=H_ (fun o=>HO.out.alloc o)
   generalize (mapD ms V k)=D0 at *
   generalize kS (mN ms k)=K0 at *
   generalize mN ms k=n at *
   generalize V k=X at *
   generalize (ms.getD k Me.zero).ts.length=tl at *
   generalize (ms.getD k Me.zero).g=g at *
   generalize (ms.getD k Me.zero).wh=wh at *
   generalize (ms.getD k Me.zero).f=f at *
   generalize (ms.getD k Me.zero).l=l at *
   clear hv
   go_wp2_with (at_mapUpdate;refine wpList_mapUpdate_own _ rfl _ _ _ 222 rfl 9 150 keyedS Tryz.underlying222 RV w.heap.size k D0 rfl (HOl.out _) (by unfold maxLen;omega) _ _ _ rfl rfl HK.out (.held X) [] HV.out ?_;intro w1 hown1 hgrow1)
   have HO1:Hid (w1.ownsMap Tryz.prog 9 RV w.heap.size (k+1) (mapD ms V (k+1))):=H_ (by rw [HD.out,HKE.out];exact hown1)
   have HB1:Hid (Below w.heap.size w w1):=H_ ((HAl.out _).grown hgrow1 (HAl.out _).size (fun k e=>by cases e;exact Nat.le_refl _))
   clear hown1 hgrow1
   go_wp2_with fail
   go_roundw
   case rel=>exact ⟨k+1,by omega,by go_num,HB1,H_ HO1.out⟩
   case measure=>simp [intOf];omega
  ·obtain rfl:k=len:=by omega
   go_wp2_with fail
   go_ret
   exact ⟨rfl,HO.out,HB.out⟩
theorem gtr {w w1 w2:World} {g:Option Nat} (h1:w.grownBy w1 g) (h2:w1.grownBy w2 g):w.grownBy w2 g :=
 ⟨h2.os.trans h1.os,h2.tape.trans h1.tape,h2.output.trans h1.output,Nat.le_trans h1.size h2.size,fun k hk hne=>(h2.block k (by have:=h1.size;omega) hne).trans (h1.block k hk hne)⟩
theorem gnew {w wx:World} {g:Option Nat} (h:w.grownBy wx g) (o:Nat) (v:Value):w.grownBy (wx.setCell ⟨w.heap.size,o,none⟩ v) g:=by
 refine ⟨h.os,h.tape,h.output,by have:=h.size;simpa using this,fun k hk hne=>?_⟩
 have e:(wx.setCell ⟨w.heap.size,o,none⟩ v).heap[k]? = wx.heap[k]?:=by
  simp only [World.setCell]
  rw [Array.getElem?_modify,if_neg (by omega)]
 exact e.trans (h.block k hk hne)
def Laid (w:World):Prop:=0<w.heap.size∧∃a:Addr,w.cell? ⟨0,0,none⟩=some (.iface 283 (.pointer (some a)))
theorem Laid.below {w w':World} (h:Laid w) (hb:Below w.heap.size w w'):Laid w':=by
 obtain ⟨h1,a,h2⟩:=h
 exact ⟨by have:=hb.size;omega,a,(hb.cell (p:=⟨_,0,none⟩) h1).trans h2⟩
theorem zeroM (w:World):(zeroValue 150).run Tryz.prog w=.ok (.agg #[.string ⟨#[]⟩,.int .i64 0,.bool false,.int .i64 0,.int .i64 0,.slice none 0 0]) w:=by kernel_rfl
theorem take_has (b N:Nat) (D:DataW Value) (n:ByteArray) (x0:ByteArray) (x1:Int) (x2:Bool) (x3 x4:Int) (x5:Option Addr) (x6 x7:Nat) (w:World) (hn:n.size≤1048576) (hO:w.ownsMap Tryz.prog 9 RV b N D) (hh:Maps.has D (kS n)=true) (hx:∀z,D.atKey (kS n) z=.held (.agg #[.string x0,.int .i64 x1,.bool x2,.int .i64 x3,.int .i64 x4,.slice x5 x6 x7])) :
 Calls Tryz.prog 163 #[.map (some b),.string n] w fun e w'=>e=.returned (.tuple #[.agg #[.string x0,.int .i64 x1,.bool x2,.int .i64 x3,.int .i64 x4,.slice x5 x6 x7],.nilIface])∧w'.ownsMap Tryz.prog 9 RV b N (D.del (kS n))∧w.grownBy w' (some b):=by
 have HK:=H_ (Go.WideMaps.keyOf_string_mk (P:=Tryz.prog) (k:=9) Tryz.underlying9 (s:=n) (Nat.le_trans hn (by unfold maxLen;omega)))
 have HH:=H_ hh
 have HX:=H_ hx
 have HO:=H_ hO
 have hlt:=hO.lt
 clear hh hx hO
 have e:(.string n.data.toList:Lit)=kS n:=rfl
 rw [e] at HK
 generalize kS n=K0 at *
 clear e
 obtain ⟨W,hW⟩:∃W,W=w.alloc (.cells #[.string ⟨#[]⟩,.int .i64 0,.bool false,.int .i64 0,.int .i64 0,.slice none 0 0] 150):=⟨_,rfl⟩
 obtain ⟨v,ps,hrun,hv⟩:=(HO.out.alloc (.cells #[.string ⟨#[]⟩,.int .i64 0,.bool false,.int .i64 0,.int .i64 0,.slice none 0 0] 150)).look_ok keyedS Tryz.underlying222 (zeroM _) (zd:=.held (.agg #[.string ⟨#[]⟩,.int .i64 0,.bool false,.int .i64 0,.int .i64 0,.slice none 0 0])) (zp:=[]) rfl HK.out
 obtain rfl:v=.agg #[.string x0,.int .i64 x1,.bool x2,.int .i64 x3,.int .i64 x4,.slice x5 x6 x7]:=by
  rw [HX.out] at hv
  simp [RV] at hv
  exact hv.1
 rw [HH.out] at hrun
 clear hv hW W
 have HOl:=H_ (fun (o1 o2:Obj)=>(HO.out.alloc o1).alloc o2)
 have HGl:=H_ (fun (o1 o2:Obj)=>gtr (World.grownBy_alloc w o1 (some b)) (World.grownBy_alloc (w.alloc o1) o2 (some b)))
 go_enter Tryz.func163,Tryz.ntmps163
 go_wp2_with (at_delete;refine wpList_delete_own _ rfl _ _ 222 9 rfl 150 keyedS Tryz.underlying222 RV b N D rfl (HOl.out _ _) _ _ rfl HK.out ?_;intro w1 hown1 hturn1;have hgr:=hturn1.grown;have hsz:w.heap.size+2≤w1.heap.size:=(by have:=hgr.size;simp at this;omega);have E1:=fun o=>World.cell?_of_block (a:=⟨w.heap.size+1,o,none⟩) (hgr.block (w.heap.size+1) (by simp) (by simp;omega));have E2:=fun o=>World.cell?_of_block (a:=⟨w.heap.size,o,none⟩) (hgr.block w.heap.size (by simp;omega) (by simp;omega));have E3:=fun o=>World.frozen?_of_block (a:=⟨w.heap.size,o,none⟩) (hgr.block w.heap.size (by simp;omega) (by simp;omega));have m0:w1.cell? ⟨w.heap.size+1,0,none⟩=some (.string x0):=(E1 0).trans (by simp [go_sem]);have m1:w1.cell? ⟨w.heap.size+1,1,none⟩=some (.int .i64 x1):=(E1 1).trans (by simp [go_sem]);have m2:w1.cell? ⟨w.heap.size+1,2,none⟩=some (.bool x2):=(E1 2).trans (by simp [go_sem]);have m3:w1.cell? ⟨w.heap.size+1,3,none⟩=some (.int .i64 x3):=(E1 3).trans (by simp [go_sem]);have m4:w1.cell? ⟨w.heap.size+1,4,none⟩=some (.int .i64 x4):=(E1 4).trans (by simp [go_sem]);have m5:w1.cell? ⟨w.heap.size+1,5,none⟩=some (.slice x5 x6 x7):=(E1 5).trans (by simp [go_sem]);have r0:w1.cell? ⟨w.heap.size,0,none⟩=some (.string ⟨#[]⟩):=(E2 0).trans (by simp [go_sem]);have f0:w1.frozen? ⟨w.heap.size,0,none⟩=false:=(E3 0).trans (by simp [go_sem]);have r1:w1.cell? ⟨w.heap.size,1,none⟩=some (.int .i64 0):=(E2 1).trans (by simp [go_sem]);have f1:w1.frozen? ⟨w.heap.size,1,none⟩=false:=(E3 1).trans (by simp [go_sem]);have r2:w1.cell? ⟨w.heap.size,2,none⟩=some (.bool false):=(E2 2).trans (by simp [go_sem]);have f2:w1.frozen? ⟨w.heap.size,2,none⟩=false:=(E3 2).trans (by simp [go_sem]);have r3:w1.cell? ⟨w.heap.size,3,none⟩=some (.int .i64 0):=(E2 3).trans (by simp [go_sem]);have f3:w1.frozen? ⟨w.heap.size,3,none⟩=false:=(E3 3).trans (by simp [go_sem]);have r4:w1.cell? ⟨w.heap.size,4,none⟩=some (.int .i64 0):=(E2 4).trans (by simp [go_sem]);have f4:w1.frozen? ⟨w.heap.size,4,none⟩=false:=(E3 4).trans (by simp [go_sem]);have r5:w1.cell? ⟨w.heap.size,5,none⟩=some (.slice none 0 0):=(E2 5).trans (by simp [go_sem]);have f5:w1.frozen? ⟨w.heap.size,5,none⟩=false:=(E3 5).trans (by simp [go_sem]);have HG1:=H_ (gtr (HGl.out _ _) hgr);have HO1:=H_ hown1;clear E1 E2 E3 hgr hturn1 hown1)
 refine bodyPost_ret (v:=.tuple #[.agg #[.string x0,.int .i64 x1,.bool x2,.int .i64 x3,.int .i64 x4,.slice x5 x6 x7],.nilIface]) (by simp [results,Tryz.results163,go_sem,r0,r1,r2,r3,r4,r5]) rfl ⟨rfl,?_,?_⟩
 ·exact (((((HO1.out.setCell (a:=⟨w.heap.size,0,none⟩) (show b≠w.heap.size by omega) _).setCell (a:=⟨w.heap.size,1,none⟩) (show b≠w.heap.size by omega) _).setCell (a:=⟨w.heap.size,2,none⟩) (show b≠w.heap.size by omega) _).setCell (a:=⟨w.heap.size,3,none⟩) (show b≠w.heap.size by omega) _).setCell (a:=⟨w.heap.size,4,none⟩) (show b≠w.heap.size by omega) _).setCell (a:=⟨w.heap.size,5,none⟩) (show b≠w.heap.size by omega) _
 ·exact gnew (gnew (gnew (gnew (gnew (gnew HG1.out _ _) _ _) _ _) _ _) _ _) _ _
theorem take_no (b N:Nat) (D:DataW Value) (n:ByteArray) (w:World) (hn:n.size≤1048576) (hO:w.ownsMap Tryz.prog 9 RV b N D) (hh:Maps.has D (kS n)=false) (a0:Addr) (hl:0<w.heap.size) (ha:w.cell? ⟨0,0,none⟩=some (.iface 283 (.pointer (some a0)))) :
 Calls Tryz.prog 163 #[.map (some b),.string n] w fun e w'=>e=.returned (.tuple #[.agg #[.string ⟨#[]⟩,.int .i64 0,.bool false,.int .i64 0,.int .i64 0,.slice none 0 0],.iface 283 (.pointer (some a0))])∧Below w.heap.size w w':=by
 have HK:=H_ (Go.WideMaps.keyOf_string_mk (P:=Tryz.prog) (k:=9) Tryz.underlying9 (s:=n) (Nat.le_trans hn (by unfold maxLen;omega)))
 have HH:=H_ hh
 have HO:=H_ hO
 have hlt:=hO.lt
 clear hh hO
 have e:(.string n.data.toList:Lit)=kS n:=rfl
 rw [e] at HK
 generalize kS n=K0 at *
 clear e
 obtain ⟨v,ps,hrun,hv⟩:=(HO.out.alloc (.cells #[.string ⟨#[]⟩,.int .i64 0,.bool false,.int .i64 0,.int .i64 0,.slice none 0 0] 150)).look_ok keyedS Tryz.underlying222 (zeroM _) (zd:=.held (.agg #[.string ⟨#[]⟩,.int .i64 0,.bool false,.int .i64 0,.int .i64 0,.slice none 0 0])) (zp:=[]) rfl HK.out
 obtain rfl:v=.agg #[.string ⟨#[]⟩,.int .i64 0,.bool false,.int .i64 0,.int .i64 0,.slice none 0 0]:=by
  rw [Maps.atKey_of_not_has HH.out] at hv
  simp [RV] at hv
  exact hv.1
 rw [HH.out] at hrun
 clear hv
 go_enter Tryz.func163,Tryz.ntmps163
 go_wp2_with fail
 go_region
 all_goals try go_wp2
 refine bodyPost_ret (v:=.tuple #[.agg #[.string ⟨#[]⟩,.int .i64 0,.bool false,.int .i64 0,.int .i64 0,.slice none 0 0],.iface 283 (.pointer (some a0))]) (by simp [results,Tryz.results163,go_sem]) rfl ⟨rfl,?_⟩
 repeat' first|exact Below.refl _ _|apply Below.setCell|apply Below.alloc|apply Below.drew
 all_goals first|omega|(simp;done)|(simp;omega)
end CatR
namespace CatR
theorem five (b1 b2 b3 b4 b5:Bool):(b1=false)∨(b1=true∧b2=false)∨(b1=true∧b2=true∧b3=false)∨(b1=true∧b2=true∧b3=true∧b4=false)∨(b1=true∧b2=true∧b3=true∧b4=true):=by
 cases b1<;>cases b2<;>cases b3<;>cases b4<;>simp
theorem impl_meter (v:Value) (m:Me) (w:World) (hn:m.n.size≤1048576) (hl:m.ts.length≤1048576) (hM:IsMe v m w) :
 Calls Tryz.prog 165 #[v] w fun e w'=>e=.returned (.bool (mB m))∧Below w.heap.size w w':=by
 obtain ⟨ta,tc,rfl,hT⟩:=hM
 rw [mB_eq]
 obtain ⟨n,g,wh,f,l,ts⟩:=m
 simp only at *
 have H1:=H_ (fun w=>NameR.impl_any n w hn)
 have H2:=H_ (fun w=>within64 g 1 4 w)
 have H3:=H_ (fun w=>within64 f 0 1000000000 w)
 have H4:=H_ (fun w=>within64 l 0 1000000000000 w)
 have H5:Hid (∀W,Below w.heap.size w W→Calls Tryz.prog 198 #[.slice ta ts.length tc] W fun e w'=>e=.returned (.bool (tB ts))∧Below W.heap.size W w'):=H_ (fun W hW=>impl_tiers ta ts.length tc ts W hl (hT.below hW))
 have HB:Hid (Below w.heap.size w (w.alloc (.cells #[.string n,.int .i64 g,.bool wh,.int .i64 f,.int .i64 l,.slice ta ts.length tc] 150))):=H_ (al_ _ _)
 generalize NameR.nameB n=b1 at *
 generalize decide (1≤g∧g≤4)=b2 at *
 generalize decide (0≤f∧f≤1000000000)=b3 at *
 generalize decide (0≤l∧l≤1000000000000)=b4 at *
 generalize tB ts=b5 at *
 clear hT hn hl
 generalize ts.length=tl at *
 rcases five b1 b2 b3 b4 b5 with rfl|⟨rfl,rfl⟩|⟨rfl,rfl,rfl⟩|⟨rfl,rfl,rfl,rfl⟩|⟨rfl,rfl,rfl,rfl⟩
 all_goals
  go_enter Tryz.func165,Tryz.ntmps165
  go_wp2_with (first|(go_at_call 166;refine (H1.out _).mono ?_;rintro e w' ⟨rfl,rfl⟩)|(go_at_call_of 30 (Value.int .i64 g);refine (H2.out _).mono ?_;rintro e w' ⟨rfl,rfl⟩)|(go_at_call_of 30 (Value.int .i64 f);refine (H3.out _).mono ?_;rintro e w' ⟨rfl,rfl⟩)|(go_at_call_of 30 (Value.int .i64 l);refine (H4.out _).mono ?_;rintro e w' ⟨rfl,rfl⟩)|(go_at_call 198;refine (H5.out _ HB.out).mono ?_;rintro e w2 ⟨rfl,hb2⟩))
  go_ret
  exact ⟨ret_bool (by simp),by first|exact bel_alloc hb2|exact HB.out⟩
theorem spec_meter (v:Value) (m:Me) (w:World) (hn:m.n.size≤1048576) (hl:m.ts.length≤1048576) (hM:IsMe v m w) :
 Calls Tryz.prog 103 #[v] w fun e w'=>e=.returned (.bool (mB m))∧Below w.heap.size w w':=by
 obtain ⟨ta,tc,rfl,hT⟩:=hM
 rw [mB_eq]
 obtain ⟨n,g,wh,f,l,ts⟩:=m
 simp only at *
 have H1:=H_ (fun w=>NameR.spec_any n w hn)
 have H2:=H_ (fun w=>isS g 1 4 w)
 have H3:=H_ (fun w=>isS f 0 1000000000 w)
 have H4:=H_ (fun w=>isS l 0 1000000000000 w)
 have H5:Hid (∀W,Below w.heap.size w W→Calls Tryz.prog 151 #[.slice ta ts.length tc] W fun e w'=>e=.returned (.bool (tB ts))∧Below W.heap.size W w'):=H_ (fun W hW=>spec_tiers ta ts.length tc ts W hl (hT.below hW))
 have HB:Hid (Below w.heap.size w (w.alloc (.cells #[.string n,.int .i64 g,.bool wh,.int .i64 f,.int .i64 l,.slice ta ts.length tc] 150))):=H_ (al_ _ _)
 generalize NameR.nameB n=b1 at *
 generalize decide (1≤g∧g≤4)=b2 at *
 generalize decide (0≤f∧f≤1000000000)=b3 at *
 generalize decide (0≤l∧l≤1000000000000)=b4 at *
 generalize tB ts=b5 at *
 clear hT hn hl
 generalize ts.length=tl at *
 rcases five b1 b2 b3 b4 b5 with rfl|⟨rfl,rfl⟩|⟨rfl,rfl,rfl⟩|⟨rfl,rfl,rfl,rfl⟩|⟨rfl,rfl,rfl,rfl⟩
 all_goals
  go_enter Tryz.func103,Tryz.ntmps103
  go_wp2_with (first|(go_at_call 104;refine (H1.out _).mono ?_;rintro e w' ⟨rfl,rfl⟩)|(go_at_call_of 63 (Value.int .i64 g);refine (H2.out _).mono ?_;rintro e w' ⟨rfl,rfl⟩)|(go_at_call_of 63 (Value.int .i64 f);refine (H3.out _).mono ?_;rintro e w' ⟨rfl,rfl⟩)|(go_at_call_of 63 (Value.int .i64 l);refine (H4.out _).mono ?_;rintro e w' ⟨rfl,rfl⟩)|(go_at_call 151;refine (H5.out _ HB.out).mono ?_;rintro e w2 ⟨rfl,hb2⟩))
  go_ret
  exact ⟨ret_bool (by simp),by first|exact bel_alloc hb2|exact HB.out⟩
end CatR
end Go.Proofs.YtnceeaccbcfopaaGreatDoor
namespace Go.Proofs.YtnceeaccbcfopaaGreatDoor
open Go.RowKit Go.Extern.Stop Go.Stop Go.Extern
set_option linter.unusedVariables false
namespace IsR
theorem typeOfS (v:Value) (w:World):(Extern.ReflectliteType.typeOf #[.iface 283 v]).run Tryz.prog w=.ok (.iface 270 (.agg #[.pointer (some ⟨3,283,none⟩)])) w:=by kernel_rfl
def compF:TypeId→Sem Value:=fun t=>do Rtype.noPackHeld "Comparable" t;pure (.bool (←typeInfo t).comparable)
theorem compS (w:World):((Extern.ReflectliteType.method compF) #[.agg #[.pointer (some ⟨3,283,none⟩)]]).run Tryz.prog w=.ok (.bool true) w:=by kernel_rfl
theorem methodComp (v:Value) (w:World):(Go.method 421 270 v "Comparable").run Tryz.prog w=.ok (250,v) w:=by kernel_rfl
theorem isComp:(Tryz.prog.info? 283).map (·.comparable)=some true:=by kernel_rfl
theorem isSize:(Tryz.prog.info? 309).map (·.size)=some 1:=by kernel_rfl
theorem is_same (a:Addr) (w:World) :
 Calls Tryz.prog 164 #[.iface 283 (.pointer (some a)),.iface 283 (.pointer (some a))] w fun e w'=>e=.returned (.bool true)∧w'=w:=by
 obtain ⟨i,hi,hcmp⟩:=Option.map_eq_some_iff.1 isComp
 obtain ⟨j,hj,hjs⟩:=Option.map_eq_some_iff.1 isSize
 have h8:=@run_callFunc_extern Tryz.prog 196 _ Extern.ReflectliteType.typeOf Tryz.func196 (by kernel_rfl) (by kernel_rfl) (by kernel_rfl) (by kernel_rfl)
 have h32:=@run_callFunc_extern Tryz.prog 250 _ (Extern.ReflectliteType.method compF) Tryz.func250 (by kernel_rfl) (by kernel_rfl) (by kernel_rfl) (by kernel_rfl)
 have tT:=typeOfS
 have cT:=compS
 have mR:=methodComp
 have heq:=run_eql_iface_ptr_same (P:=Tryz.prog) w a Tryz.underlying175 Tryz.underlying283 hi hcmp hj
 go_enter Tryz.func164,Tryz.ntmps164
 go_wp2
 refine wp_loop_rounds 1 ?_
 rw [rounds_succ]
 go_wp2
 go_ret
 exact ⟨rfl,rfl⟩
theorem is_nil (b:Addr) (w:World) :
 Calls Tryz.prog 164 #[.nilIface,.iface 283 (.pointer (some b))] w fun e w'=>e=.returned (.bool false)∧w'=w:=by
 have hn:=run_eql_iface_nil_left (P:=Tryz.prog) w 283 (.pointer (some b)) Tryz.underlying175
 go_enter Tryz.func164,Tryz.ntmps164
 go_wp2
 go_ret
 exact ⟨rfl,rfl⟩
end IsR
end Go.Proofs.YtnceeaccbcfopaaGreatDoor
