/-
  The program's nets: a map of numbers by Meters, to which lines are added, and of which is asked whether one runs beyond. The conditions: lines of at most 1048576, their Meters of at most 1048576 bytes, the numbers far from running over.
-/
import Derived.Maps.RangeWalk
import Derived.Maps.OwnOps
import Derived.Carry
import Derived.Test.YtnceeaccbcfopaaGreatDoorT113
namespace Go.Proofs.YtnceeaccbcfopaaGreatDoor
open Go.ChangeShapes Go.WideShapes Go.ChangeAt Go.RowKit
set_option linter.unusedVariables false
namespace NetR
open LinR RowG LtR
theorem keyedS:Maps.Keyed Tryz.prog 9:=Maps.string_keyed Tryz.underlying9
theorem zeroI (w:World):(zeroValue 2).run Tryz.prog w=.ok (.int .i64 0) w:=by kernel_rfl
theorem wf_of {x:Int} (h:-9223372036854775808≤x∧x≤9223372036854775807):(Lit.int .i64 x).wf=true:=by
 have h1:IntKind.i64.min=-9223372036854775808:=by decide
 have h2:IntKind.i64.max=9223372036854775807:=by decide
 simp only [Lit.wf,h1,h2,Bool.and_eq_true,decide_eq_true_eq]
 exact h
theorem ri_of {x:Int} (h:-9223372036854775808≤x∧x≤9223372036854775807):(plainElem (H:=Value) Tryz.prog 2) (.int .i64 x)=some (.lit (.int .i64 x),[]):=plainElem_int Tryz.underlying2 (wf_of h)
theorem gtr {w w1 w2:World} {g:Option Nat} (h1:w.grownBy w1 g) (h2:w1.grownBy w2 g):w.grownBy w2 g :=
 ⟨h2.os.trans h1.os,h2.tape.trans h1.tape,h2.output.trans h1.output,Nat.le_trans h1.size h2.size,fun k hk hne=>(h2.block k (by have:=h1.size;omega) hne).trans (h1.block k hk hne)⟩
theorem grefl (w:World) (g:Option Nat):w.grownBy w g:=⟨rfl,rfl,rfl,Nat.le_refl _,fun _ _ _=>rfl⟩
theorem map_cell {P:Program} {k:TypeId} {R:Value→Option (DataW Value × List MemPlace)} {w:World} {b n:Nat} {D:DataW Value} (h:w.ownsMap P k R b n D) (o:Nat):w.cell? ⟨b,o,none⟩=none:=by
 obtain ⟨es,clock,hb,_⟩:=h
 simp [World.cell?,hb]
theorem lis_ne {P:Program} {k:TypeId} {R:Value→Option (DataW Value × List MemPlace)} {w:World} {b n:Nat} {D:DataW Value} (h:w.ownsMap P k R b n D) {ao:Option Addr} {es:List N} (hI:Lis ao es w):es.length=0∨∀b' off,ao=some ⟨b',off,none⟩→some b'≠some b:=by
 rcases Nat.eq_zero_or_pos es.length with h0|h0
 ·exact .inl h0
 ·refine .inr (fun b' off e1 e2=>?_)
  obtain ⟨b2,off2,e3,_,c0,_⟩:=hI.at 0 h0
  rw [e1] at e3
  simp only [Option.some.injEq,Addr.mk.injEq,and_true] at e3 e2
  obtain ⟨rfl,rfl⟩:=e3
  subst e2
  rw [map_cell h] at c0
  cases c0
theorem mul_w {s n:Int} (hs:s=1∨s=-1) (hn:-1000000000000000≤n∧n≤1000000000000000):wrap64 (s*n)=s*n∧-1000000000000000≤s*n∧s*n≤1000000000000000:=by
 rcases hs with rfl|rfl
 ·rw [Int.one_mul];exact ⟨by unfold wrap64;omega,hn⟩
 ·rw [Int.neg_mul,Int.one_mul];exact ⟨by unfold wrap64;omega,by omega,by omega⟩
theorem add_w {a b:Int} (ha:-4000000000000000000≤a∧a≤4000000000000000000) (hb:-1000000000000000≤b∧b≤1000000000000000):wrap64 (a+b)=a+b:=by unfold wrap64;omega
theorem val_bd {L:List N} {B:Int} (hB:0≤B) (h:∀y∈L,-B≤y.n∧y.n≤B) (n:ByteArray):-B≤val L n∧val L n≤B:=by
 induction L with
 | nil=>simp only [val];omega
 | cons y l ih =>
  simp only [val]
  split
  ·exact h y (by simp)
  ·exact ih (fun y hy=>h y (by simp [hy]))
set_option maxRecDepth 100000 in
set_option maxHeartbeats 4000000 in
theorem bring_any (ao:Option Addr) (cap:Nat) (es:List N) (s:Int) (b M:Nat) (D:DataW Value) (L:List N) (B:Int) (w:World) (hs:s=1∨s=-1) (hlen:es.length≤400) (hS:∀e∈es,e.i.size≤1048576) (hE:∀e∈es,-1000000000000000≤e.n∧e.n≤1000000000000000)
 (hO:w.ownsMap Tryz.prog 9 (plainElem (H:=Value) Tryz.prog 2) b M D) (hM:M≤1048576) (hN:NetM D L) (hB:0≤B∧B≤3000000000000000000) (hL:∀y∈L,-B≤y.n∧y.n≤B) (hI:Lis ao es w) :
 Calls Tryz.prog 169 #[.map (some b),.slice ao es.length cap,.int .i64 s] w fun e w'=>e=.returned (.tuple #[])∧(∃D',w'.ownsMap Tryz.prog 9 (plainElem (H:=Value) Tryz.prog 2) b (M+es.length) D'∧NetM D' (all L es s))∧(∀y∈all L es s,-(B+es.length*1000000000000000)≤y.n∧y.n≤B+es.length*1000000000000000)∧w.grownBy w' (some b):=by
 have HI:=H_ hI
 have HS:=H_ hS
 have HE:=H_ hE
 have HNE:=H_ (lis_ne hO hI)
 have HO:=H_ hO
 have HN:=H_ hN
 have HL:=H_ hL
 have HSS:=H_ hs
 have HB:=H_ hB
 obtain ⟨len,hl⟩:∃len,len=es.length:=⟨_,rfl⟩
 have HEND:Hid (all L (es.take len) s=all L es s):=H_ (by rw [hl,List.take_length])
 rw [←hl] at hlen ⊢
 have HLn:=H_ hl
 clear hI hS hE hO hN hL hl hs hB
 go_enter Tryz.func169,Tryz.ntmps169
 go_wp2_with fail
 go_loopw [10] (fun z wr=>∃k:Nat,k≤len∧z=.int .i64 k∧Hid (∃D',wr.ownsMap Tryz.prog 9 (plainElem (H:=Value) Tryz.prog 2) b (M+k) D'∧NetM D' (all L (es.take k) s))∧Hid (∀y∈all L (es.take k) s,-(B+k*1000000000000000)≤y.n∧y.n≤B+k*1000000000000000)∧Hid (w.grownBy wr (some b))) (fun z _=>len-(intOf z).toNat)
 case atStart=>exact ⟨0,by omega,rfl,H_ ⟨D,HO.out,by simpa [all] using HN.out⟩,H_ (by simpa [all] using HL.out),H_ (grefl _ _)⟩
 case round =>
  obtain ⟨k,hk,rfl,HD,HBD,HG⟩:=hrel
  by_cases hlt:k<len
  ·have hlt2:(k:Int)<(len:Int):=by omega
   have hkl:k<es.length:=by have:=HLn.out;omega
   obtain ⟨b0,off,rfl,hbl,c0,c1⟩:=Lis.at (Rws.grown HI.out HG.out HNE.out) k hkl
   have hsz:=HS.out _ (getD_mem (z:=N.zero) es k hkl)
   have hnb:=HE.out _ (getD_mem (z:=N.zero) es k hkl)
   have HM1:=H_ (all_more L es s k hkl)
   obtain ⟨D1,hO1,hN1⟩:=HD.out
   have HO1:=H_ hO1
   have HN1:=H_ hN1
   have HB1:Hid (0≤B+(k:Int)*1000000000000000∧B+(k:Int)*1000000000000000≤3500000000000000000):=H_ (by have:=HB.out;omega)
   generalize all L (es.take k) s=L1 at *
   generalize es.getD k N.zero=X at *
   obtain ⟨xi,xn⟩:=X
   dsimp only at c0 c1 hsz hnb HM1
   obtain ⟨hm1,hm2⟩:=mul_w HSS.out hnb
   have HK:=H_ (Go.WideMaps.keyOf_string_mk (P:=Tryz.prog) (k:=9) Tryz.underlying9 (s:=xi) (Nat.le_trans hsz (by unfold maxLen;omega)))
   have HKE:Hid (kS xi=.string xi.data.toList):=rfl
   have hvb:=val_bd HB1.out.1 HBD.out xi
   have HLK:=H_ (HN1.out.look xi)
   have HP:=H_ (HN1.out.put ⟨xi,s*xn⟩)
   have HPB:=H_ (put_bd (x:=⟨xi,s*xn⟩) HB1.out.1 HBD.out (C:=1000000000000000) (by omega) hm2)
   have hw2:=add_w (a:=val L1 xi) (b:=s*xn) (by have:=HB1.out;omega) hm2
   have HV:Hid ((plainElem (H:=Value) Tryz.prog 2) (.int .i64 (val L1 xi+s*xn))=some (.lit (.int .i64 (val L1 xi+s*xn)),[])):=H_ (ri_of (by have:=HB1.out;omega))
   have HOl:=H_ (fun o=>HO1.out.alloc o)
   have HGl:=H_ (fun o=>gtr HG.out (World.grownBy_alloc wr o (some b)))
   dsimp only at HP
   have HM2:Hid (all L (es.take (k+1)) s=put L1 ⟨xi,s*xn⟩):=HM1
   clear HM1 hO1 hN1 HD HBD hvb hm2 hnb
   generalize val L1 xi=V at *
   generalize put L1 ⟨xi,s*xn⟩=L2 at *
   obtain ⟨Y,hY⟩:∃Y,s*xn=Y:=⟨_,rfl⟩
   replace hm1:wrap64 (s*xn)=Y:=hm1.trans hY
   rw [hY] at HP hw2 HV
   replace HV:=H_ (show (plainElem (H:=Value) Tryz.prog 2) (.int .i64 (wrap64 (V+Y)))=some (.lit (.int .i64 (V+Y)),[]) by rw [hw2];exact HV.out)
   clear hY hw2
   rw [←HKE.out] at HK
   generalize kS xi=K0 at *
   clear HKE
   go_wp2_with (first|(at_lookup;go_loud (refine wpList_lookup_own_int _ rfl _ _ 233 rfl 9 2 .i64 keyedS Tryz.underlying233 Tryz.underlying2 (zeroI _) b (M+k) D1 rfl (HOl.out _) _ _ rfl HK.out ?_;intro c hat hwc;obtain rfl:V=c:=(by have h:=HLK.out.symm.trans hat;simpa using h);clear hat hwc))|(at_mapUpdate;go_loud (refine wpList_mapUpdate_own _ rfl _ _ _ 233 rfl 9 2 keyedS Tryz.underlying233 (plainElem (H:=Value) Tryz.prog 2) b (M+k) D1 rfl (HOl.out _) (by unfold maxLen;omega) _ _ _ rfl rfl HK.out (.lit (.int .i64 (V+Y))) [] HV.out ?_;intro w1 hown1 hgrow1)))
   have HO2:=H_ hown1
   have HG2:=H_ (gtr (HGl.out _) hgrow1)
   clear hown1 hgrow1
   go_wp2_with fail
   go_roundw
   case rel=>exact ⟨k+1,by omega,by go_num,H_ ⟨_,HO2.out,by rw [HM2.out];exact HP.out⟩,H_ (by rw [HM2.out];intro y hy;have:=HPB.out y hy;omega),HG2⟩
   case measure=>simp [intOf];omega
  ·have hlt2:¬(k:Int)<(len:Int):=by omega
   obtain rfl:k=len:=by omega
   rw [HEND.out] at HD HBD
   go_wp2_with fail
   go_end0
   exact ⟨rfl,HD.out,HBD.out,HG.out⟩
end NetR
end Go.Proofs.YtnceeaccbcfopaaGreatDoor
