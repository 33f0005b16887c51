/-
  Marks upon lists of tiers and of credits, from any number on, and their reading. The condition: at most 1048576 of them.
-/
import Derived.Deep.RegionHeld3
import Derived.Test.YtnceeaccbcfopaaGreatDoorT14
namespace Go.Proofs.YtnceeaccbcfopaaGreatDoor
open Go.ChangeShapes Go.WideShapes Go.ChangeAt Go.RowKit
set_option linter.unusedVariables false
namespace CatR
open RowG (grown_set)
open EvtR (Pt cell_put cell_far)
open MarkR (mk mT mark_any H_)
def TM (K n g:Nat) (w:World):Prop:=g<w.heap.size∧∀i,i<n→w.cell? ⟨g,i*2,none⟩=some (.int .i64 ((K:Int)+2*(i:Int)))∧w.cell? ⟨g,i*2+1,none⟩=some (.int .i64 ((K:Int)+2*(i:Int)+1))
theorem TM.block {K n g:Nat} {w w':World} (h:TM K n g w) (hs:w.heap.size≤w'.heap.size) (hb:w'.heap[g]? = w.heap[g]?):TM K n g w' :=
 ⟨Nat.lt_of_lt_of_le h.1 hs,fun i hi=>⟨(World.cell?_of_block (a:=⟨g,i*2,none⟩) hb).trans (h.2 i hi).1,(World.cell?_of_block (a:=⟨g,i*2+1,none⟩) hb).trans (h.2 i hi).2⟩⟩
theorem TM.below {K n g:Nat} {w w':World} (h:TM K n g w) (hb:Below w.heap.size w w'):TM K n g w':=h.block hb.size (hb.block g h.1)
theorem TM.more {K i g m:Nat} {w:World} (h:TM K i g w) (hp:Pt g m w) (hm:i*2+1<m):TM K (i+1) g ((w.setCell ⟨g,i*2,none⟩ (.int .i64 ((K:Int)+2*(i:Int)))).setCell ⟨g,i*2+1,none⟩ (.int .i64 ((K:Int)+2*(i:Int)+1))):=by
 have p1:=hp.set (i*2) (.int .i64 ((K:Int)+2*(i:Int)))
 refine ⟨by have:=h.1;simpa using this,fun j hj=>?_⟩
 by_cases e:j=i
 ·subst e
  exact ⟨by rw [cell_far _ _ (by omega),cell_put hp _ (by omega)],cell_put p1 _ hm _⟩
 ·obtain ⟨h1,h2⟩:=h.2 j (by omega)
  exact ⟨by rw [cell_far _ _ (by omega),cell_far _ _ (by omega)];exact h1,by rw [cell_far _ _ (by omega),cell_far _ _ (by omega)];exact h2⟩
set_option maxRecDepth 100000 in
set_option maxHeartbeats 4000000 in
theorem tierM (K:Nat) (hK0:1≤K) (hK:K≤6000000) (g n cap:Nat) (w:World) (hn:n≤1048576) (h0:Pt g (n*2) w) :
 Calls Tryz.prog 144 #[.slice (some ⟨g,0,none⟩) n cap,.int .i64 K] w fun e w'=>e=.returned (.int .i64 (K+2*n:Nat))∧w.grownBy w' (some g)∧(∀n',Pt g n' w→Pt g n' w')∧TM K n g w':=by
 have HP:=H_ h0
 have HM0:Hid (TM K 0 g w):=H_ ⟨h0.lt,fun i hi=>absurd hi (by omega)⟩
 clear h0
 go_enter Tryz.func144,Tryz.ntmps144
 go_wp2_with fail
 go_loopw [5,1] (fun x z wr=>∃i:Nat,x=.int .i64 (i:Int)∧z=.int .i64 ((K:Int)+2*(i:Int))∧i≤n∧Hid (Pt g (n*2) wr)∧Hid (w.grownBy wr (some g))∧Hid (∀n',Pt g n' w→Pt g n' wr)∧Hid (TM K i g wr)) (fun x _ _=>n-(intOf x).toNat)
 case atStart=>exact ⟨0,rfl,by go_num,by omega,HP,H_ ⟨rfl,rfl,rfl,Nat.le_refl _,fun _ _ _=>rfl⟩,H_ (fun _ h=>h),HM0⟩
 case round =>
  clear HM0
  obtain ⟨i,rfl,rfl,hi,HP,HG,HA,HM⟩:=hrel
  by_cases hin:i=n
  ·subst hin
   go_wp2_with fail
   go_ret
   exact ⟨by go_num,HG.out,HA.out,HM.out⟩
  ·have h1:(i:Int)<(n:Int):=by omega
   have HA2:Hid (∀n',Pt g n' w→Pt g n' ((wr.setCell ⟨g,i*2,none⟩ (.int .i64 ((K:Int)+2*(i:Int)))).setCell ⟨g,i*2+1,none⟩ (.int .i64 ((K:Int)+2*(i:Int)+1)))):=H_ (fun n' h=>((HA.out n' h).set _ _).set _ _)
   have HM2:=H_ (HM.out.more HP.out (by omega))
   have hl:=HP.out.lt
   obtain ⟨v0,c0⟩:=HP.out.has (i*2) (by omega)
   have f0:=HP.out.free (i*2) (by omega)
   obtain ⟨v1,c1⟩:=HP.out.has (i*2+1) (by omega)
   have f1:=HP.out.free (i*2+1) (by omega)
   have HS:=H_ (OwG.gtransO (OwG.gtransO HG.out (grown_set _ g (i*2) (.int .i64 ((K:Int)+2*(i:Int))))) (grown_set _ g (i*2+1) (.int .i64 ((K:Int)+2*(i:Int)+1))))
   have HP2:=H_ ((HP.out.set (i*2) (.int .i64 ((K:Int)+2*(i:Int)))).set (i*2+1) (.int .i64 ((K:Int)+2*(i:Int)+1)))
   clear HP HG HA HM
   go_wp2_with fail
   go_roundw
   case rel=>exact ⟨i+1,by go_num,by go_num,by omega,HP2,HS,HA2,HM2⟩
   case measure=>simp [intOf];omega
set_option maxRecDepth 100000 in
set_option maxHeartbeats 4000000 in
theorem tierH (K:Nat) (hK0:1≤K) (hK:K≤6000000) (g n cap:Nat) (w:World) (hn:n≤1048576) (hm:TM K n g w) :
 Calls Tryz.prog 190 #[.slice (some ⟨g,0,none⟩) n cap,.int .i64 K] w fun e w'=>e=.returned (.int .i64 (K+2*n:Nat))∧Below w.heap.size w w':=by
 have HM:=H_ hm
 clear hm
 go_enter Tryz.func190,Tryz.ntmps190
 go_wp2_with fail
 go_loopw [5,1] (fun x z wr=>∃i:Nat,x=.int .i64 (i:Int)∧z=.int .i64 ((K:Int)+2*(i:Int))∧i≤n∧Hid (Below w.heap.size w wr)) (fun x _ _=>n-(intOf x).toNat)
 case atStart=>exact ⟨0,rfl,by go_num,by omega,H_ (Below.refl _ _)⟩
 case round =>
  obtain ⟨i,rfl,rfl,hi,HB⟩:=hrel
  by_cases hin:i=n
  ·subst hin
   go_wp2_with fail
   go_ret
   exact ⟨by go_num,HB.out⟩
  ·have h1:(i:Int)<(n:Int):=by omega
   obtain ⟨q0,q1⟩:=(HM.out.below HB.out).2 i (by omega)
   have hl:=(HM.out.below HB.out).1
   go_wp2_with fail
   go_roundw
   case rel=>exact ⟨i+1,by go_num,by go_num,by omega,HB⟩
   case measure=>simp [intOf];omega
set_option maxHeartbeats 4000000 in
theorem tierM0 (K:Int) (ao:Option Addr) (cap:Nat) (w:World):Calls Tryz.prog 144 #[.slice ao 0 cap,.int .i64 K] w fun e w'=>e=.returned (.int .i64 K)∧Below w.heap.size w w':=by
 go_enter Tryz.func144,Tryz.ntmps144
 go_wp2_with fail
 go_loopw [5,1] (fun x z wr=>x=.int .i64 0∧z=.int .i64 K∧Hid (Below w.heap.size w wr)) (fun x _ _=>0)
 case atStart=>exact ⟨rfl,rfl,H_ (Below.refl _ _)⟩
 case round =>
  obtain ⟨rfl,rfl,HB⟩:=hrel
  go_wp2_with fail
  go_ret
  exact ⟨rfl,HB.out⟩
set_option maxHeartbeats 4000000 in
theorem tierH0 (K:Int) (ao:Option Addr) (cap:Nat) (w:World):Calls Tryz.prog 190 #[.slice ao 0 cap,.int .i64 K] w fun e w'=>e=.returned (.int .i64 K)∧Below w.heap.size w w':=by
 go_enter Tryz.func190,Tryz.ntmps190
 go_wp2_with fail
 go_loopw [5,1] (fun x z wr=>x=.int .i64 0∧z=.int .i64 K∧Hid (Below w.heap.size w wr)) (fun x _ _=>0)
 case atStart=>exact ⟨rfl,rfl,H_ (Below.refl _ _)⟩
 case round =>
  obtain ⟨rfl,rfl,HB⟩:=hrel
  go_wp2_with fail
  go_ret
  exact ⟨rfl,HB.out⟩
def BoxC (w:World) (g o:Nat) (t0:ByteArray) (n:Int) (w':World):Prop:=Below w.heap.size w w'∧g<w'.heap.size∧w'.cell? ⟨g,o,none⟩=some (.string t0)∧w'.cell? ⟨g,o+1,none⟩=some (.int .i64 n)
theorem BoxC.below {w w1 w2:World} {g o:Nat} {t0:ByteArray} {n:Int} (h:BoxC w g o t0 n w1) (hb:Below w1.heap.size w1 w2):BoxC w g o t0 n w2:=by
 obtain ⟨h0,hl,c0,c1⟩:=h
 have c:=fun x=>hb.cell (p:=⟨g,x,none⟩) hl
 exact ⟨h0.trans (hb.mono h0.size),by have:=hb.size;omega,(c _).trans c0,(c _).trans c1⟩
theorem BoxC.drew {w w1:World} {g o:Nat} {t0:ByteArray} {n:Int} (h:BoxC w g o t0 n w1):BoxC w g o t0 n w1.drew:=⟨h.1.drew,h.2⟩
def CM (K n g:Nat) (w:World):Prop:=g<w.heap.size∧∀i,i<n→w.cell? ⟨g,i*2,none⟩=some (.string (mT (K+2*i)))∧w.cell? ⟨g,i*2+1,none⟩=some (.int .i64 ((K:Int)+2*(i:Int)+1))
theorem CM.block {K n g:Nat} {w w':World} (h:CM K n g w) (hs:w.heap.size≤w'.heap.size) (hb:w'.heap[g]? = w.heap[g]?):CM K n g w' :=
 ⟨Nat.lt_of_lt_of_le h.1 hs,fun i hi=>⟨(World.cell?_of_block (a:=⟨g,i*2,none⟩) hb).trans (h.2 i hi).1,(World.cell?_of_block (a:=⟨g,i*2+1,none⟩) hb).trans (h.2 i hi).2⟩⟩
theorem CM.below {K n g:Nat} {w w':World} (h:CM K n g w) (hb:Below w.heap.size w w'):CM K n g w':=h.block hb.size (hb.block g h.1)
theorem CM.more {K i g m:Nat} {w:World} (h:CM K i g w) (hp:Pt g m w) (hm:i*2+1<m):CM K (i+1) g ((w.setCell ⟨g,i*2,none⟩ (.string (mT (K+2*i)))).setCell ⟨g,i*2+1,none⟩ (.int .i64 ((K:Int)+2*(i:Int)+1))):=by
 have p1:=hp.set (i*2) (.string (mT (K+2*i)))
 refine ⟨by have:=h.1;simpa using this,fun j hj=>?_⟩
 by_cases e:j=i
 ·subst e
  exact ⟨by rw [cell_far _ _ (by omega),cell_put hp _ (by omega)],cell_put p1 _ hm _⟩
 ·obtain ⟨h1,h2⟩:=h.2 j (by omega)
  exact ⟨by rw [cell_far _ _ (by omega),cell_far _ _ (by omega)];exact h1,by rw [cell_far _ _ (by omega),cell_far _ _ (by omega)];exact h2⟩
set_option maxRecDepth 100000 in
set_option maxHeartbeats 4000000 in
theorem credM (K:Nat) (hK0:1≤K) (hK:K≤6000000) (g n cap:Nat) (w:World) (hn:n≤1048576) (h0:Pt g (n*2) w) :
 Calls Tryz.prog 88 #[.slice (some ⟨g,0,none⟩) n cap,.int .i64 K] w fun e w'=>e=.returned (.int .i64 (K+2*n:Nat))∧w.grownBy w' (some g)∧(∀n',Pt g n' w→Pt g n' w')∧CM K n g w':=by
 have HP:=H_ h0
 have HT:Hid (∀(z:Int) (K:Nat),z=K→1≤K→K<100000000→∀w,Calls Tryz.prog 89 #[.int .i64 z] w fun e w'=>e=.returned (.string (mT K))∧Below w.heap.size w w'):=H_ (fun z K e h0 h w=>by subst e;exact mark_any K h0 h w)
 have HM0:Hid (CM K 0 g w):=H_ ⟨h0.lt,fun i hi=>absurd hi (by omega)⟩
 clear h0
 go_enter Tryz.func88,Tryz.ntmps88
 go_wp2_with fail
 go_loopw [5,1] (fun x z wr=>∃i:Nat,x=.int .i64 (i:Int)∧z=.int .i64 ((K:Int)+2*(i:Int))∧i≤n∧Hid (Pt g (n*2) wr)∧Hid (w.grownBy wr (some g))∧Hid (∀n',Pt g n' w→Pt g n' wr)∧Hid (CM K i g wr)) (fun x _ _=>n-(intOf x).toNat)
 case atStart=>exact ⟨0,rfl,by go_num,by omega,HP,H_ ⟨rfl,rfl,rfl,Nat.le_refl _,fun _ _ _=>rfl⟩,H_ (fun _ h=>h),HM0⟩
 case round =>
  clear HM0
  obtain ⟨i,rfl,rfl,hi,HP,HG,HA,HM⟩:=hrel
  by_cases hin:i=n
  ·subst hin
   go_wp2_with fail
   go_ret
   exact ⟨by go_num,HG.out,HA.out,HM.out⟩
  ·have h1:(i:Int)<(n:Int):=by omega
   go_wp2_with fail
   refine (HT.out _ (K+2*i) (by push_cast;omega) (by omega) (by omega) _).mono ?_
   rintro e w1 ⟨rfl,hb⟩
   have HP1:=H_ (HP.out.below hb)
   have HG1:=H_ (OwG.gtransO HG.out (OwG.rgrownO hb _))
   have HA2:Hid (∀n',Pt g n' w→Pt g n' ((w1.setCell ⟨g,i*2,none⟩ (.string (mT (K+2*i)))).setCell ⟨g,i*2+1,none⟩ (.int .i64 ((K:Int)+2*(i:Int)+1)))):=H_ (fun n' h=>(((HA.out n' h).below hb).set _ _).set _ _)
   have HM2:=H_ ((HM.out.below hb).more HP1.out (by omega))
   obtain ⟨v0,c0⟩:=HP1.out.has (i*2) (by omega)
   have f0:=HP1.out.free (i*2) (by omega)
   obtain ⟨v1,c1⟩:=HP1.out.has (i*2+1) (by omega)
   have f1:=HP1.out.free (i*2+1) (by omega)
   have HS:=H_ (OwG.gtransO (OwG.gtransO HG1.out (grown_set _ g (i*2) (.string (mT (K+2*i))))) (grown_set _ g (i*2+1) (.int .i64 ((K:Int)+2*(i:Int)+1))))
   have HP2:=H_ ((HP1.out.set (i*2) (.string (mT (K+2*i)))).set (i*2+1) (.int .i64 ((K:Int)+2*(i:Int)+1)))
   clear hb HP HG HG1 HP1 HA HM
   go_wp2_with fail
   go_roundw
   case rel=>exact ⟨i+1,by go_num,by go_num,by omega,HP2,HS,HA2,HM2⟩
   case measure=>simp [intOf];omega
set_option maxRecDepth 100000 in
set_option maxHeartbeats 4000000 in
theorem credH (K:Nat) (hK0:1≤K) (hK:K≤6000000) (g n cap:Nat) (w:World) (hn:n≤1048576) (hm:CM K n g w) :
 Calls Tryz.prog 146 #[.slice (some ⟨g,0,none⟩) n cap,.int .i64 K] w fun e w'=>e=.returned (.int .i64 (K+2*n:Nat))∧Below w.heap.size w w':=by
 have HM:=H_ hm
 have HT:Hid (∀(z:Int) (K:Nat),z=K→1≤K→K<100000000→∀w,Calls Tryz.prog 89 #[.int .i64 z] w fun e w'=>e=.returned (.string (mT K))∧Below w.heap.size w w'):=H_ (fun z K e h0 h w=>by subst e;exact mark_any K h0 h w)
 clear hm
 go_enter Tryz.func146,Tryz.ntmps146
 go_wp2_with fail
 go_loopw [5,1] (fun x z wr=>∃i:Nat,x=.int .i64 (i:Int)∧z=.int .i64 ((K:Int)+2*(i:Int))∧i≤n∧Hid (Below w.heap.size w wr)) (fun x _ _=>n-(intOf x).toNat)
 case atStart=>exact ⟨0,rfl,by go_num,by omega,H_ (Below.refl _ _)⟩
 case round =>
  obtain ⟨i,rfl,rfl,hi,HB⟩:=hrel
  by_cases hin:i=n
  ·subst hin
   go_wp2_with fail
   go_ret
   exact ⟨by go_num,HB.out⟩
  ·have h1:(i:Int)<(n:Int):=by omega
   obtain ⟨q0,q1⟩:=(HM.out.below HB.out).2 i (by omega)
   have HT0:=H_ (fun w=>HT.out ((K:Int)+2*(i:Int)) (K+2*i) (by push_cast;omega) (by omega) (by omega) w)
   generalize mT (K+2*i)=T0 at *
   have HS0:Hid (BoxC w g (i*2) T0 ((K:Int)+2*(i:Int)+1) wr):=H_ ⟨HB.out,by have:=HB.out.size;have:=HM.out.1;omega,q0,q1⟩
   have HS1:=H_ HS0.out.drew
   go_wp2_with fail
   go_region_held3 (fun w'=>Below w.heap.size w w'∧g<w'.heap.size∧w'.cell? ⟨g,i*2,none⟩=some (.string T0)∧w'.cell? ⟨g,i*2+1,none⟩=some (.int .i64 ((K:Int)+2*(i:Int)+1))) (first|assumption|(exact HS0.out)|(exact HS1.out)|(exact BoxC.below (w:=w) (g:=g) (o:=i*2) (t0:=T0) (n:=(K:Int)+2*(i:Int)+1) (by assumption) hb))
    (first|(go_at_call 89;refine (HT0.out _).mono ?_;rintro e w' ⟨rfl,hb⟩))
   rename_i hS
   replace HS0:=H_ hS
   have q0:=HS0.out.2.2.1
   have q1:=HS0.out.2.2.2
   clear hS HS1
   have HB2:=H_ HS0.out.1
   go_wp2_with fail
   go_roundw
   case rel=>exact ⟨i+1,by go_num,by go_num,by omega,HB2⟩
   case measure=>simp [intOf];omega
set_option maxHeartbeats 4000000 in
theorem credH0 (K:Int) (ao:Option Addr) (cap:Nat) (w:World):Calls Tryz.prog 146 #[.slice ao 0 cap,.int .i64 K] w fun e w'=>e=.returned (.int .i64 K)∧Below w.heap.size w w':=by
 go_enter Tryz.func146,Tryz.ntmps146
 go_wp2_with fail
 go_loopw [5,1] (fun x z wr=>x=.int .i64 0∧z=.int .i64 K∧Hid (Below w.heap.size w wr)) (fun x _ _=>0)
 case atStart=>exact ⟨rfl,rfl,H_ (Below.refl _ _)⟩
 case round =>
  obtain ⟨rfl,rfl,HB⟩:=hrel
  go_wp2_with fail
  go_ret
  exact ⟨rfl,HB.out⟩
set_option maxHeartbeats 4000000 in
theorem credM0 (K:Int) (ao:Option Addr) (cap:Nat) (w:World):Calls Tryz.prog 88 #[.slice ao 0 cap,.int .i64 K] w fun e w'=>e=.returned (.int .i64 K)∧Below w.heap.size w w':=by
 go_enter Tryz.func88,Tryz.ntmps88
 go_wp2_with fail
 go_loopw [5,1] (fun x z wr=>x=.int .i64 0∧z=.int .i64 K∧Hid (Below w.heap.size w wr)) (fun x _ _=>0)
 case atStart=>exact ⟨rfl,rfl,H_ (Below.refl _ _)⟩
 case round =>
  obtain ⟨rfl,rfl,HB⟩:=hrel
  go_wp2_with fail
  go_ret
  exact ⟨rfl,HB.out⟩
end CatR
end Go.Proofs.YtnceeaccbcfopaaGreatDoor
