/-
  A meter copied, on both sides: the tiers are one's own. The conditions: the tiers are a few.
-/
import Derived.Below
import Derived.Test.YtnceeaccbcfopaaGreatDoorT82
namespace Go.Proofs.YtnceeaccbcfopaaGreatDoor
open Go.ChangeShapes Go.WideShapes Go.ChangeAt Go.RowKit
set_option linter.unusedVariables false
namespace CatR
open EvtR (Pt)
def ResMO (w:World) (r:Me) (e:Ending) (w':World):Prop:=∃ta tc,e=.returned (.agg #[.string r.n,.int .i64 r.g,.bool r.wh,.int .i64 r.f,.int .i64 r.l,.slice ta r.ts.length tc])∧w'.ownsRow w.heap.size 248 2 (.slice ta r.ts.length tc) r.ts.length (tisC r.ts)∧Below w.heap.size w w'
set_option maxRecDepth 100000 in
set_option maxHeartbeats 4000000 in
theorem copy_meO (b off cap:Nat) (r:Me) (w:World) (h1:1≤r.ts.length) (h5:r.ts.length≤5) (hn:r.n.size≤1048576) (hI:Tis (some ⟨b,off,none⟩) r.ts.length r.ts w) :
 Calls Tryz.prog 132 #[.agg #[.string r.n,.int .i64 r.g,.bool r.wh,.int .i64 r.f,.int .i64 r.l,.slice (some ⟨b,off,none⟩) r.ts.length cap]] w fun e w'=>ResMO w r e w':=by
 obtain ⟨n,g,wh,f,l,ts⟩:=r
 simp only at *
 unfold ResMO
 simp only
 have H1:=H_ (fun w=>CloneR.clone_any n w (by omega))
 have H2:Hid (∀W,Below w.heap.size w W→Calls Tryz.prog 181 #[.slice (some ⟨b,off,none⟩) ts.length cap] W fun e w'=>∃ao cp,e=.returned (.slice ao ts.length cp)∧w'.ownsRow W.heap.size 248 2 (.slice ao ts.length cp) ts.length (tisC ts)∧Below W.heap.size W w'):=H_ (fun W hW=>(clone_tis b off cap ts W h1 h5 (hI.below hW)).mono fun e w' ⟨v,he,ho,hb⟩=>by
  obtain ⟨ao,cp,rfl,_,_⟩:=own_tisz ho
  exact ⟨ao,cp,he,ho,hb⟩)
 generalize tisC ts=C at *
 generalize ts.length=tl at *
 clear hI
 go_enter Tryz.func132,Tryz.ntmps132
 have HB0:Hid (Below w.heap.size w ((w.alloc (.cells #[.string n,.int .i64 g,.bool wh,.int .i64 f,.int .i64 l,.slice (some ⟨b,off,none⟩) tl cap] 150)).alloc (.cells #[.string ⟨#[]⟩,.int .i64 0,.bool false,.int .i64 0,.int .i64 0,.slice none 0 0] 150))):=H_ (((Below.refl _ _).alloc (Nat.le_refl _) _).alloc (by simp) _)
 have HP0:Hid (Pt w.heap.size 6 ((w.alloc (.cells #[.string n,.int .i64 g,.bool wh,.int .i64 f,.int .i64 l,.slice (some ⟨b,off,none⟩) tl cap] 150)).alloc (.cells #[.string ⟨#[]⟩,.int .i64 0,.bool false,.int .i64 0,.int .i64 0,.slice none 0 0] 150))):=H_ ((pt_new w [.string n,.int .i64 g,.bool wh,.int .i64 f,.int .i64 l,.slice (some ⟨b,off,none⟩) tl cap] 150).below ((Below.refl _ _).alloc (Nat.le_refl _) _))
 have HQ0:Hid (Pt (w.heap.size+1) 6 ((w.alloc (.cells #[.string n,.int .i64 g,.bool wh,.int .i64 f,.int .i64 l,.slice (some ⟨b,off,none⟩) tl cap] 150)).alloc (.cells #[.string ⟨#[]⟩,.int .i64 0,.bool false,.int .i64 0,.int .i64 0,.slice none 0 0] 150))):=H_ (by have:=pt_new (w.alloc (.cells #[.string n,.int .i64 g,.bool wh,.int .i64 f,.int .i64 l,.slice (some ⟨b,off,none⟩) tl cap] 150)) [.string ⟨#[]⟩,.int .i64 0,.bool false,.int .i64 0,.int .i64 0,.slice none 0 0] 150;simpa using this)
 go_wp2_with fail
 refine (H1.out _).mono ?_
 rintro e w1 ⟨rfl,hb1⟩
 have HB1:=H_ (HB0.out.trans (hb1.mono HB0.out.size))
 have HP1:=H_ (HP0.out.below hb1)
 have HQ1:=H_ (HQ0.out.below hb1)
 have k:=fun o=>hb1.cell (p:=⟨w.heap.size,o,none⟩) (by simp;omega)
 have c0:=k 0
 have c1:=k 1
 have c2:=k 2
 have c3:=k 3
 have c4:=k 4
 have c5:=k 5
 simp [go_sem] at c0 c1 c2 c3 c4 c5
 have f0:=HP1.out.free 0 (by omega)
 have l1:=HP1.out.lt
 have HPs:=H_ (HP1.out.set 0 (.string n))
 have HQs:=H_ (HQ1.out.far (b:=w.heap.size) (by omega) 0 (.string n))
 have HBs:Hid (Below w.heap.size w (w1.setCell ⟨w.heap.size,0,none⟩ (.string n))):=H_ (HB1.out.setCell (Nat.le_refl _) _)
 clear hb1 k
 go_wp2_with fail
 refine (H2.out _ HBs.out).mono ?_
 rintro e w2 ⟨ao,cp,rfl,hO,hb2⟩
 have HB2:=H_ (HBs.out.trans (hb2.mono HBs.out.size))
 have HO2:=H_ hO
 have HP2:=H_ (HPs.out.below hb2)
 have HQ2:=H_ (HQs.out.below hb2)
 have hs1:w.heap.size+1<w1.heap.size:=HQ1.out.lt
 have hs2:(w1.setCell ⟨w.heap.size,0,none⟩ (.string n)).heap.size=w1.heap.size:=by simp
 have k:=fun o=>hb2.cell (p:=⟨w.heap.size,o,none⟩) (by simpa using l1)
 have d0:w2.cell? ⟨w.heap.size,0,none⟩=some (.string n):=(k 0).trans (by simp [go_sem,c0])
 have d1:w2.cell? ⟨w.heap.size,1,none⟩=some (.int .i64 g):=(k 1).trans (by simp [go_sem,c1])
 have d2:w2.cell? ⟨w.heap.size,2,none⟩=some (.bool wh):=(k 2).trans (by simp [go_sem,c2])
 have d3:w2.cell? ⟨w.heap.size,3,none⟩=some (.int .i64 f):=(k 3).trans (by simp [go_sem,c3])
 have d4:w2.cell? ⟨w.heap.size,4,none⟩=some (.int .i64 l):=(k 4).trans (by simp [go_sem,c4])
 obtain ⟨v5,d5⟩:=HP2.out.has 5 (by omega)
 have g5:=HP2.out.free 5 (by omega)
 have l2:=HP2.out.lt
 have q:=HQ2.out.lt
 obtain ⟨y0,e0⟩:=HQ2.out.has 0 (by omega)
 obtain ⟨y1,e1⟩:=HQ2.out.has 1 (by omega)
 obtain ⟨y2,e2⟩:=HQ2.out.has 2 (by omega)
 obtain ⟨y3,e3⟩:=HQ2.out.has 3 (by omega)
 obtain ⟨y4,e4⟩:=HQ2.out.has 4 (by omega)
 obtain ⟨y5,e5⟩:=HQ2.out.has 5 (by omega)
 have z0:=HQ2.out.free 0 (by omega)
 have z1:=HQ2.out.free 1 (by omega)
 have z2:=HQ2.out.free 2 (by omega)
 have z3:=HQ2.out.free 3 (by omega)
 have z4:=HQ2.out.free 4 (by omega)
 have z5:=HQ2.out.free 5 (by omega)
 clear hO hb2 k c0 c1 c2 c3 c4 c5 f0
 go_wp2_with fail
 refine bodyPost_ret (v:=.agg #[.string n,.int .i64 g,.bool wh,.int .i64 f,.int .i64 l,.slice ao tl cp]) (by simp [results,Tryz.results132,go_sem,e0,e1,e2,e3,e4,e5]) rfl ⟨ao,cp,rfl,?_,?_⟩
 ·refine OwG.own_low ?_ (show w.heap.size≤(w1.setCell ⟨w.heap.size,0,none⟩ (.string n)).heap.size by rw [hs2];omega)
  have z:w.heap.size<(w1.setCell ⟨w.heap.size,0,none⟩ (.string n)).heap.size:=by rw [hs2];omega
  have z':w.heap.size+1<(w1.setCell ⟨w.heap.size,0,none⟩ (.string n)).heap.size:=by rw [hs2];omega
  exact ownsRow_setCell_below (ownsRow_setCell_below (ownsRow_setCell_below (ownsRow_setCell_below (ownsRow_setCell_below (ownsRow_setCell_below (ownsRow_setCell_below HO2.out z _) z' _) z' _) z' _) z' _) z' _) z' _
 ·exact ((((((HB2.out.setCell (Nat.le_refl _) _).setCell (by simp) _).setCell (by simp) _).setCell (by simp) _).setCell (by simp) _).setCell (by simp) _).setCell (by simp) _
set_option maxRecDepth 100000 in
set_option maxHeartbeats 4000000 in
theorem spec_meO (b off cap:Nat) (r:Me) (w:World) (h5:r.ts.length≤1048576) (hI:Tis (some ⟨b,off,none⟩) r.ts.length r.ts w) :
 Calls Tryz.prog 113 #[.agg #[.string r.n,.int .i64 r.g,.bool r.wh,.int .i64 r.f,.int .i64 r.l,.slice (some ⟨b,off,none⟩) r.ts.length cap]] w fun e w'=>ResMO w r e w':=by
 obtain ⟨n,g,wh,f,l,ts⟩:=r
 simp only at *
 unfold ResMO
 simp only
 obtain ⟨i0,hi,hz0,hz1,hz2⟩:=info_parts infoT
 have HL:=H_ (tisC_len ts)
 have H1:=H_ (tisC_one ts)
 have HTC:=H_ (fun W (hW:Below w.heap.size w W)=>tis_cells (hI.below hW))
 have HOT:=H_ (fun (W:World) base v (h:W.ownsRow base 248 2 v ts.length (tisC ts))=>own_tisz h)
 generalize tisC ts=C at *
 generalize ts.length=tl at *
 have HB0:Hid (Below w.heap.size w (((w.alloc (.cells #[.string n,.int .i64 g,.bool wh,.int .i64 f,.int .i64 l,.slice (some ⟨b,off,none⟩) tl cap] 150)).alloc (.cells #[.string ⟨#[]⟩,.int .i64 0,.bool false,.int .i64 0,.int .i64 0,.slice none 0 0] 150)).alloc (.cells #[] 248))):=H_ ((((Below.refl _ _).alloc (Nat.le_refl _) _).alloc (by simp) _).alloc (by simp;omega) _)
 have HP0:Hid (Pt w.heap.size 6 (((w.alloc (.cells #[.string n,.int .i64 g,.bool wh,.int .i64 f,.int .i64 l,.slice (some ⟨b,off,none⟩) tl cap] 150)).alloc (.cells #[.string ⟨#[]⟩,.int .i64 0,.bool false,.int .i64 0,.int .i64 0,.slice none 0 0] 150)).alloc (.cells #[] 248))):=H_ (((pt_new w [.string n,.int .i64 g,.bool wh,.int .i64 f,.int .i64 l,.slice (some ⟨b,off,none⟩) tl cap] 150).below ((Below.refl _ _).alloc (Nat.le_refl _) _)).below ((Below.refl _ _).alloc (Nat.le_refl _) _))
 have HQ0:Hid (Pt (w.heap.size+1) 6 (((w.alloc (.cells #[.string n,.int .i64 g,.bool wh,.int .i64 f,.int .i64 l,.slice (some ⟨b,off,none⟩) tl cap] 150)).alloc (.cells #[.string ⟨#[]⟩,.int .i64 0,.bool false,.int .i64 0,.int .i64 0,.slice none 0 0] 150)).alloc (.cells #[] 248))):=H_ ((show Pt (w.heap.size+1) 6 ((w.alloc (.cells #[.string n,.int .i64 g,.bool wh,.int .i64 f,.int .i64 l,.slice (some ⟨b,off,none⟩) tl cap] 150)).alloc (.cells #[.string ⟨#[]⟩,.int .i64 0,.bool false,.int .i64 0,.int .i64 0,.slice none 0 0] 150)) by have:=pt_new (w.alloc (.cells #[.string n,.int .i64 g,.bool wh,.int .i64 f,.int .i64 l,.slice (some ⟨b,off,none⟩) tl cap] 150)) [.string ⟨#[]⟩,.int .i64 0,.bool false,.int .i64 0,.int .i64 0,.slice none 0 0] 150;simpa using this).below ((Below.refl _ _).alloc (Nat.le_refl _) _))
 have HX0:Hid (Blk w.heap.size [.string n,.int .i64 g,.bool wh,.int .i64 f,.int .i64 l,.slice (some ⟨b,off,none⟩) tl cap] (((w.alloc (.cells #[.string n,.int .i64 g,.bool wh,.int .i64 f,.int .i64 l,.slice (some ⟨b,off,none⟩) tl cap] 150)).alloc (.cells #[.string ⟨#[]⟩,.int .i64 0,.bool false,.int .i64 0,.int .i64 0,.slice none 0 0] 150)).alloc (.cells #[] 248))):=H_ (((Blk.new w _ _).alloc _).alloc _)
 have HE0:Hid (((((w.alloc (.cells #[.string n,.int .i64 g,.bool wh,.int .i64 f,.int .i64 l,.slice (some ⟨b,off,none⟩) tl cap] 150)).alloc (.cells #[.string ⟨#[]⟩,.int .i64 0,.bool false,.int .i64 0,.int .i64 0,.slice none 0 0] 150)).alloc (.cells #[] 248))).ownsRow (w.heap.size+2) 248 2 (.slice (some ⟨w.heap.size+1+1,0,none⟩) 0 0) 0 []):=H_ (by
  have:=World.ownsRow_made ((w.alloc (.cells #[.string n,.int .i64 g,.bool wh,.int .i64 f,.int .i64 l,.slice (some ⟨b,off,none⟩) tl cap] 150)).alloc (.cells #[.string ⟨#[]⟩,.int .i64 0,.bool false,.int .i64 0,.int .i64 0,.slice none 0 0] 150)) (e:=248) (size:=2) (base:=w.heap.size+2) #[] 0 (by simp) (by unfold maxLen;omega) (by simp)
  simpa using this)
 have HN:Hid (∀j u,C[j]? = some u→((((w.alloc (.cells #[.string n,.int .i64 g,.bool wh,.int .i64 f,.int .i64 l,.slice (some ⟨b,off,none⟩) tl cap] 150)).alloc (.cells #[.string ⟨#[]⟩,.int .i64 0,.bool false,.int .i64 0,.int .i64 0,.slice none 0 0] 150)).alloc (.cells #[] 248))).cell? ((⟨b,off,none⟩:Addr).add j)=some u):=H_ (fun j u hj=>by rw [Addr.add_lit];exact HTC.out _ HB0.out j u hj)
 go_enter Tryz.func113,Tryz.ntmps113
 go_wp2_with (at_builtin;refine wpList_append_own _ rfl _ _ 148 rfl (w.heap.size+2) 248 i0 (.agg #[.int .i64 0,.int .i64 0]) 2 16 Tryz.underlying148 hi hz0 hz1 hz2 rfl (by decide) _ _ _ rfl HE0.out ⟨b,off,none⟩ tl cap C rfl HL.out HN.out H1.out (by unfold maxLen;omega) (by omega) (by simp) ?_)
 intro v1 w2 hown hgrow hne
 have HO:Hid (w2.ownsRow (w.heap.size+2) 248 2 v1 tl C):=H_ (by first|exact hown|simpa using hown)
 have hrow:∀k,(Value.slice (some ⟨w.heap.size+1+1,0,none⟩) 0 0).ownBlock=some k→k=w.heap.size+2:=fun k e=>by simp [Value.ownBlock] at e;omega
 have HB2:Hid (Below w.heap.size w w2):=H_ (HB0.out.grown hgrow HB0.out.size (fun k e=>by have:=hrow k e;omega))
 have HP2:=H_ (OwG.pt_row HP0.out hgrow (fun e=>by have:=hrow _ e.symm;omega))
 have HQ2:=H_ (OwG.pt_row HQ0.out hgrow (fun e=>by have:=hrow _ e.symm;omega))
 have k:=fun o=>World.cell?_of_block (a:=⟨w.heap.size,o,none⟩) (hgrow.block w.heap.size HX0.out.1 (fun e=>by have:=hrow _ e.symm;omega))
 have d0:w2.cell? ⟨w.heap.size,0,none⟩=some (.string n):=(k 0).trans (HX0.out.2 0 (by simp))
 have d1:w2.cell? ⟨w.heap.size,1,none⟩=some (.int .i64 g):=(k 1).trans (HX0.out.2 1 (by simp))
 have d2:w2.cell? ⟨w.heap.size,2,none⟩=some (.bool wh):=(k 2).trans (HX0.out.2 2 (by simp))
 have d3:w2.cell? ⟨w.heap.size,3,none⟩=some (.int .i64 f):=(k 3).trans (HX0.out.2 3 (by simp))
 have d4:w2.cell? ⟨w.heap.size,4,none⟩=some (.int .i64 l):=(k 4).trans (HX0.out.2 4 (by simp))
 obtain ⟨ao,cp,rfl,-,-⟩:=HOT.out w2 _ v1 HO.out
 obtain ⟨v5,d5⟩:=HP2.out.has 5 (by omega)
 have g5:=HP2.out.free 5 (by omega)
 have l2:=HP2.out.lt
 have q:=HQ2.out.lt
 obtain ⟨y0,e0⟩:=HQ2.out.has 0 (by omega)
 obtain ⟨y1,e1⟩:=HQ2.out.has 1 (by omega)
 obtain ⟨y2,e2⟩:=HQ2.out.has 2 (by omega)
 obtain ⟨y3,e3⟩:=HQ2.out.has 3 (by omega)
 obtain ⟨y4,e4⟩:=HQ2.out.has 4 (by omega)
 obtain ⟨y5,e5⟩:=HQ2.out.has 5 (by omega)
 have z0:=HQ2.out.free 0 (by omega)
 have z1:=HQ2.out.free 1 (by omega)
 have z2:=HQ2.out.free 2 (by omega)
 have z3:=HQ2.out.free 3 (by omega)
 have z4:=HQ2.out.free 4 (by omega)
 have z5:=HQ2.out.free 5 (by omega)
 clear hown hgrow hne k hrow hI
 go_wp2_with fail
 refine bodyPost_ret (v:=.agg #[.string n,.int .i64 g,.bool wh,.int .i64 f,.int .i64 l,.slice ao tl cp]) (by simp [results,Tryz.results113,go_sem,e0,e1,e2,e3,e4,e5]) rfl ⟨ao,cp,rfl,?_,?_⟩
 ·refine OwG.own_low ?_ (show w.heap.size≤w.heap.size+2 by omega)
  have z:w.heap.size<w.heap.size+2:=by omega
  have z':w.heap.size+1<w.heap.size+2:=by omega
  exact ownsRow_setCell_below (ownsRow_setCell_below (ownsRow_setCell_below (ownsRow_setCell_below (ownsRow_setCell_below (ownsRow_setCell_below (ownsRow_setCell_below HO.out z _) z' _) z' _) z' _) z' _) z' _) z' _
 ·exact ((((((HB2.out.setCell (Nat.le_refl _) _).setCell (by simp) _).setCell (by simp) _).setCell (by simp) _).setCell (by simp) _).setCell (by simp) _).setCell (by simp) _
end CatR
end Go.Proofs.YtnceeaccbcfopaaGreatDoor
