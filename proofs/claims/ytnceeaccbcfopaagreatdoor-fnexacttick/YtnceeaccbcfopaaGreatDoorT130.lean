/-
  The model's copy of documents: spec.l09Copy. The conditions: sizes of at most 1048576.
-/
import Derived.Test.YtnceeaccbcfopaaGreatDoorT129
namespace Go.Proofs.YtnceeaccbcfopaaGreatDoor
open Go.ChangeShapes Go.WideShapes Go.ChangeAt Go.RowKit
set_option linter.unusedVariables false
namespace LedR
open LinR DocR NetR OwG
open RowG (cellsAll cellsAll_len H_ take_more)
theorem dso_snoc {base:Nat} {v v':Value} {xs:List DA} {ds:List D} {d:D} {la:Option Addr} {lc:Nat} {w2 w9:World} (hds:xs.map DA.d=ds) (hLn:∀x∈xs,LnO base x w2) (hPw:xs.Pairwise Apt) (hn:LnO base ⟨d,la,lc⟩ w2) (hap:∀x∈xs,Apt x ⟨d,la,lc⟩)
 (hO:w2.ownsRow base 122 4 v ds.length (cellsAll DA.cells xs)) (hgrow:w2.grownBy w9 v.ownBlock)
 (hown:w9.ownsRow base 122 4 v' (ds.length+1) (cellsAll DA.cells xs ++ [.string d.a,.int .i64 d.mo,.int .i64 d.sq,.slice la d.ls.length lc])) :
 (xs ++ [(⟨d,la,lc⟩:DA)]).map DA.d=ds ++ [d]∧w9.ownsRow base 122 4 v' (ds ++ [d]).length (cellsAll DA.cells (xs ++ [(⟨d,la,lc⟩:DA)]))∧(∀x∈xs ++ [(⟨d,la,lc⟩:DA)],LnO base x w9)∧(xs ++ [(⟨d,la,lc⟩:DA)]).Pairwise Apt:=by
 have hk:∀x:DA,LnO base x w2→LnO base x w9:=fun x hx=>hx.grown hgrow (own_apart hx hO (by decide))
 refine ⟨by rw [List.map_append,hds];rfl,?_,?_,?_⟩
 ·rw [cellsAll_snoc,List.length_append]
  exact hown
 ·intro x hx
  rcases List.mem_append.1 hx with h|h
  ·exact hk x (hLn x h)
  ·rw [List.mem_singleton] at h
   subst h
   exact hk _ hn
 ·refine List.pairwise_append.2 ⟨hPw,List.pairwise_singleton _ _,fun x hx y hy=>?_⟩
  rw [List.mem_singleton] at hy
  subst hy
  exact hap x hx
theorem new_cells4 (W:World) (cs:List Value) (T:TypeId):∀(j:Nat) u,cs[j]? = some u→(W.alloc (.cells cs.toArray T)).cell? ((⟨W.heap.size,0,none⟩:Addr).add j)=some u:=by
 intro j u hx
 have hb:=(BlkW.new W cs T).1
 rw [Addr.add_lit,Nat.zero_add,hb.2 j (List.getElem?_eq_some_iff.1 hx).1]
 exact hx
set_option maxRecDepth 100000 in
set_option maxHeartbeats 4000000 in
theorem scopy (ao:Option Addr) (cap:Nat) (ds:List D) (w:World) (hlen:ds.length≤1048575) (hL:∀d∈ds,d.ls.length≤1048576) (hI:Dcs ao ds w) :
 Calls Tryz.prog 61 #[.slice ao ds.length cap] w fun e w'=>∃v,e=.returned v∧DsO w.heap.size v ds w'∧Below w.heap.size w w':=by
 obtain ⟨i0,hi,hz0,hz1,hz2⟩:=info_parts infoD
 have HI:=H_ hI
 have HL:=H_ hL
 obtain ⟨len,hl⟩:∃len,len=ds.length:=⟨_,rfl⟩
 have HLN:=H_ hl
 have HEND:Hid (ds.take len=ds):=H_ (by rw [hl];exact List.take_length)
 rw [←hl] at hlen ⊢
 have HE0:=H_ (own_empty w w.heap.size 122 4 (Nat.le_refl _))
 clear hI hL hl
 go_enter Tryz.func61,Tryz.ntmps61
 go_wp2_with fail
 go_loopw [3,4] (fun v z wr=>∃k:Nat,k≤len∧z=.int .i64 k∧Hid (DsO w.heap.size v (ds.take k) wr)∧Hid (Below w.heap.size w wr)) (fun v z _=>len-(intOf z).toNat)
 case atStart=>exact ⟨0,by omega,rfl,H_ ⟨[],rfl,HE0.out,(fun x h=>by cases h),List.Pairwise.nil⟩,H_ ((Below.refl _ _).alloc (Nat.le_refl _) _)⟩
 case round =>
  obtain ⟨k,hk,rfl,HO,HB⟩:=hrel
  by_cases hlt:k<len
  ·have hlt2:(k:Int)<(len:Int):=by omega
   have hkl:k<ds.length:=by have:=HLN.out;omega
   obtain ⟨b,off,la,lc,rfl,hbl,c0,c1,c2,c3,hLi⟩:=(HI.out.below HB.out).at k hkl
   have hdl:=HL.out _ (RowG.getD_mem (z:=D.zero) ds k hkl)
   have HT:=H_ (take_more (z:=D.zero) ds k hkl)
   have HDK:Hid ((ds.take k).length=k):=H_ (by rw [List.length_take];omega)
   generalize ds.getD k D.zero=X at *
   obtain ⟨xs,hx1,hx2,hx3,hx4⟩:=HO.out
   have HX1:=H_ hx1
   have HX2:=H_ hx2
   have HX3:=H_ hx3
   have HX4:=H_ hx4
   have HSD:=H_ (fun W (hb:Below wr.heap.size wr W)=>sdoc X la lc W hdl (hLi.below hb))
   obtain ⟨a,mo,sq,ls⟩:=X
   dsimp only at c0 c1 c2 c3 HSD hdl
   obtain ⟨nl,hnl⟩:∃nl,nl=ls.length:=⟨_,rfl⟩
   rw [←hnl] at c3 HSD hdl
   have HNL:=H_ hnl
   clear hx1 hx2 hx3 hx4 hLi hnl HO
   go_wp2_with fail
   refine (HSD.out _ (Below.refl _ _)).mono ?_
   rintro e w1 ⟨no,nc,rfl,hnew,hb1⟩
   have HN1:=H_ hnew
   have HB1:=H_ hb1
   have HS1:Hid (w.heap.size≤wr.heap.size):=H_ HB.out.size
   obtain ⟨w2,hw2⟩:∃z,z=w1.alloc (.cells #[.string a,.int .i64 mo,.int .i64 sq,.slice no nl nc] 122):=⟨_,rfl⟩
   have al:Below w1.heap.size w1 w2:=by rw [hw2];exact (Below.refl _ _).alloc (Nat.le_refl _) _
   have HAL:=H_ al
   have HO2:=H_ (RowG.own_below (RowG.own_below HX2.out hb1) al)
   have HNW:Hid (∀j u,([.string a,.int .i64 mo,.int .i64 sq,.slice no nl nc]:List Value)[j]? = some u→w2.cell? ((⟨w1.heap.size,0,none⟩:Addr).add j)=some u):=H_ (by rw [hw2];exact new_cells4 w1 [.string a,.int .i64 mo,.int .i64 sq,.slice no nl nc] 122)
   have HS2:Hid (w.heap.size≤w2.heap.size):=H_ (by have:=al.size;have:=hb1.size;have:=HB.out.size;omega)
   have HW2:=H_ hw2
   have HDO:Hid (∀u∈([.string a,.int .i64 mo,.int .i64 sq,.slice no nl nc]:List Value),u.oneCell'=true):=H_ (by intro u hu;simp at hu;rcases hu with rfl|rfl|rfl|rfl<;>rfl)
   rw [HDK.out] at HO2
   have hsz1:k+1≤maxLen:=by unfold maxLen;omega
   have hsz2:(k+1)*56≤140737488355328:=by omega
   clear hnew hb1 al hw2 HSD
   go_wp2_with (at_builtin;rw [←HW2.out];refine wpList_append_own _ rfl _ _ 40 rfl w.heap.size 122 i0 (.agg #[.string ⟨#[]⟩,.int .i64 0,.int .i64 0,.slice none 0 0]) 4 56 Tryz.underlying40 hi hz0 hz1 hz2 rfl (by decide) _ _ _ rfl HO2.out ⟨w1.heap.size,0,none⟩ 1 1 [.string a,.int .i64 mo,.int .i64 sq,.slice no nl nc] rfl rfl HNW.out HDO.out hsz1 hsz2 HS2.out ?_)
   intro v' w9 hown hgrow hne
   have HD9:Hid (DsO w.heap.size v' (ds.take (k+1)) w9):=H_ (by
    rw [HT.out]
    have e:=HNL.out
    subst e
    have h:=dso_snoc (d:=⟨a,mo,sq,ls⟩) (la:=no) (lc:=nc) HX1.out (fun x hx=>RowG.own_below (RowG.own_below (HX3.out x hx) HB1.out) HAL.out) HX4.out (RowG.own_below (OwG.own_low HN1.out HS1.out) HAL.out) (fun x hx b h1 h2=>by
     have p1:=((HX3.out x hx).lt b h1).2
     have p2:=(HN1.out.lt b h2).1
     omega) (by rw [HDK.out];exact HO2.out) hgrow (by rw [HDK.out];exact hown)
    exact ⟨_,h.1,h.2.1,h.2.2.1,h.2.2.2⟩)
   have HB9:Hid (Below w.heap.size w w9):=H_ (((HB.out.trans (HB1.out.mono HB.out.size)).trans (HAL.out.mono (Nat.le_trans HB.out.size HB1.out.size))).grown hgrow HS2.out (fun k e=>by have:=(HO2.out.lt k e).1;omega))
   clear hown hgrow hne
   go_wp2_with fail
   go_roundw
   case rel=>exact ⟨k+1,by omega,by go_num,HD9,HB9⟩
   case measure=>simp [intOf];omega
  ·have hlt2:¬(k:Int)<(len:Int):=by omega
   obtain rfl:k=len:=by omega
   rw [HEND.out] at HO
   go_wp2_with fail
   go_ret
   exact ⟨_,rfl,HO.out,HB.out⟩
end LedR
end Go.Proofs.YtnceeaccbcfopaaGreatDoor
