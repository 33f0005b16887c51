/-
  Marks upon lists of tiers and of credits, from any number on, and their reading.
  Marks upon a list of meters of one's own, and their reading.
  Lists of meters and of credits of one's own, marked, and their marks read later on.
  Lists of texts that the law is given: how many letters, the law's own copies, held against each other, marked.
  The conditions stand in what each theorem says.
-/
import Derived.Deep.RegionHeld3
import Derived.Deep.RegionWith
import Derived.Deep.QuietTactic
import Derived.Test.YtnceeaccbcfopaaGreatDoorT2
set_option maxRecDepth 100000
set_option maxHeartbeats 16000000
namespace Go.Proofs.YtnceeaccbcfopaaGreatDoor
open Go.ChangeShapes Go.WideShapes Go.ChangeAt Go.RowKit
set_option linter.unusedVariables false
namespace CatR
open RowG (grown_set)
open EvtR (Pt cell_put cell_far)
open MarkR (mk mT mark_any H_)
def TM (K n g:Nat) (w:World):Prop:=g<w.heap.size∧∀i,i<n→w.cell? ⟨g,i*2,none⟩=some (.int .i64 ((K:Int)+2*(i:Int)))∧w.cell? ⟨g,i*2+1,none⟩=some (.int .i64 ((K:Int)+2*(i:Int)+1))
theorem TM.block {K n g:Nat} {w w':World} (h:TM K n g w) (hs:w.heap.size≤w'.heap.size) (hb:w'.heap[g]? = w.heap[g]?):TM K n g w' :=
 ⟨Nat.lt_of_lt_of_le h.1 hs,fun i hi=>⟨(World.cell?_of_block (a:=⟨g,i*2,none⟩) hb).trans (h.2 i hi).1,(World.cell?_of_block (a:=⟨g,i*2+1,none⟩) hb).trans (h.2 i hi).2⟩⟩
theorem TM.below {K n g:Nat} {w w':World} (h:TM K n g w) (hb:Below w.heap.size w w'):TM K n g w':=h.block hb.size (hb.block g h.1)
theorem TM.more {K i g m:Nat} {w:World} (h:TM K i g w) (hp:Pt g m w) (hm:i*2+1<m):TM K (i+1) g ((w.setCell ⟨g,i*2,none⟩ (.int .i64 ((K:Int)+2*(i:Int)))).setCell ⟨g,i*2+1,none⟩ (.int .i64 ((K:Int)+2*(i:Int)+1))):=by
 have p1:=hp.set (i*2) (.int .i64 ((K:Int)+2*(i:Int)))
 refine ⟨by have:=h.1;simpa using this,fun j hj=>?_⟩
 by_cases e:j=i
 ·subst e
  exact ⟨by rw [cell_far _ _ (by omega),cell_put hp _ (by omega)],cell_put p1 _ hm _⟩
 ·obtain ⟨h1,h2⟩:=h.2 j (by omega)
  exact ⟨by rw [cell_far _ _ (by omega),cell_far _ _ (by omega)];exact h1,by rw [cell_far _ _ (by omega),cell_far _ _ (by omega)];exact h2⟩
theorem tierM (K:Nat) (hK0:1≤K) (hK:K≤6000000) (g n cap:Nat) (w:World) (hn:n≤1048576) (h0:Pt g (n*2) w) :
 Calls Tryz.prog 144 #[.slice (some ⟨g,0,none⟩) n cap,.int .i64 K] w fun e w'=>e=.returned (.int .i64 (K+2*n:Nat))∧w.grownBy w' (some g)∧(∀n',Pt g n' w→Pt g n' w')∧TM K n g w':=by
 have HP:=H_ h0
 have HM0:Hid (TM K 0 g w):=H_ ⟨h0.lt,fun i hi=>absurd hi (by omega)⟩
 clear h0
 go_enter Tryz.func144,Tryz.ntmps144
 go_wp2_with fail
 go_loopw [5,1] (fun x z wr=>∃i:Nat,x=.int .i64 (i:Int)∧z=.int .i64 ((K:Int)+2*(i:Int))∧i≤n∧Hid (Pt g (n*2) wr)∧Hid (w.grownBy wr (some g))∧Hid (∀n',Pt g n' w→Pt g n' wr)∧Hid (TM K i g wr)) (fun x _ _=>n-(intOf x).toNat)
 case atStart=>exact ⟨0,rfl,by go_num,by omega,HP,H_ ⟨rfl,rfl,rfl,Nat.le_refl _,fun _ _ _=>rfl⟩,H_ (fun _ h=>h),HM0⟩
 case round =>
  clear HM0
  obtain ⟨i,rfl,rfl,hi,HP,HG,HA,HM⟩:=hrel
  by_cases hin:i=n
  ·subst hin
   go_wp2_with fail
   go_ret
   exact ⟨by go_num,HG.out,HA.out,HM.out⟩
  ·have h1:(i:Int)<(n:Int):=by omega
   have HA2:Hid (∀n',Pt g n' w→Pt g n' ((wr.setCell ⟨g,i*2,none⟩ (.int .i64 ((K:Int)+2*(i:Int)))).setCell ⟨g,i*2+1,none⟩ (.int .i64 ((K:Int)+2*(i:Int)+1)))):=H_ (fun n' h=>((HA.out n' h).set _ _).set _ _)
   have HM2:=H_ (HM.out.more HP.out (by omega))
   have hl:=HP.out.lt
   obtain ⟨v0,c0⟩:=HP.out.has (i*2) (by omega)
   have f0:=HP.out.free (i*2) (by omega)
   obtain ⟨v1,c1⟩:=HP.out.has (i*2+1) (by omega)
   have f1:=HP.out.free (i*2+1) (by omega)
   have HS:=H_ (OwG.gtransO (OwG.gtransO HG.out (grown_set _ g (i*2) (.int .i64 ((K:Int)+2*(i:Int))))) (grown_set _ g (i*2+1) (.int .i64 ((K:Int)+2*(i:Int)+1))))
   have HP2:=H_ ((HP.out.set (i*2) (.int .i64 ((K:Int)+2*(i:Int)))).set (i*2+1) (.int .i64 ((K:Int)+2*(i:Int)+1)))
   clear HP HG HA HM
   go_wp2_with fail
   go_roundw
   case rel=>exact ⟨i+1,by go_num,by go_num,by omega,HP2,HS,HA2,HM2⟩
   case measure=>simp [intOf];omega
theorem tierH (K:Nat) (hK0:1≤K) (hK:K≤6000000) (g n cap:Nat) (w:World) (hn:n≤1048576) (hm:TM K n g w) :
 Calls Tryz.prog 190 #[.slice (some ⟨g,0,none⟩) n cap,.int .i64 K] w fun e w'=>e=.returned (.int .i64 (K+2*n:Nat))∧Below w.heap.size w w':=by
 have HM:=H_ hm
 clear hm
 go_enter Tryz.func190,Tryz.ntmps190
 go_wp2_with fail
 go_loopw [5,1] (fun x z wr=>∃i:Nat,x=.int .i64 (i:Int)∧z=.int .i64 ((K:Int)+2*(i:Int))∧i≤n∧Hid (Below w.heap.size w wr)) (fun x _ _=>n-(intOf x).toNat)
 case atStart=>exact ⟨0,rfl,by go_num,by omega,H_ (Below.refl _ _)⟩
 case round =>
  obtain ⟨i,rfl,rfl,hi,HB⟩:=hrel
  by_cases hin:i=n
  ·subst hin
   go_wp2_with fail
   go_ret
   exact ⟨by go_num,HB.out⟩
  ·have h1:(i:Int)<(n:Int):=by omega
   obtain ⟨q0,q1⟩:=(HM.out.below HB.out).2 i (by omega)
   have hl:=(HM.out.below HB.out).1
   go_wp2_with fail
   go_roundw
   case rel=>exact ⟨i+1,by go_num,by go_num,by omega,HB⟩
   case measure=>simp [intOf];omega
theorem tierM0 (K:Int) (ao:Option Addr) (cap:Nat) (w:World):Calls Tryz.prog 144 #[.slice ao 0 cap,.int .i64 K] w fun e w'=>e=.returned (.int .i64 K)∧Below w.heap.size w w':=by
 go_enter Tryz.func144,Tryz.ntmps144
 go_wp2_with fail
 go_loopw [5,1] (fun x z wr=>x=.int .i64 0∧z=.int .i64 K∧Hid (Below w.heap.size w wr)) (fun x _ _=>0)
 case atStart=>exact ⟨rfl,rfl,H_ (Below.refl _ _)⟩
 case round =>
  obtain ⟨rfl,rfl,HB⟩:=hrel
  go_wp2_with fail
  go_ret
  exact ⟨rfl,HB.out⟩
theorem tierH0 (K:Int) (ao:Option Addr) (cap:Nat) (w:World):Calls Tryz.prog 190 #[.slice ao 0 cap,.int .i64 K] w fun e w'=>e=.returned (.int .i64 K)∧Below w.heap.size w w':=by
 go_enter Tryz.func190,Tryz.ntmps190
 go_wp2_with fail
 go_loopw [5,1] (fun x z wr=>x=.int .i64 0∧z=.int .i64 K∧Hid (Below w.heap.size w wr)) (fun x _ _=>0)
 case atStart=>exact ⟨rfl,rfl,H_ (Below.refl _ _)⟩
 case round =>
  obtain ⟨rfl,rfl,HB⟩:=hrel
  go_wp2_with fail
  go_ret
  exact ⟨rfl,HB.out⟩
def BoxC (w:World) (g o:Nat) (t0:ByteArray) (n:Int) (w':World):Prop:=Below w.heap.size w w'∧g<w'.heap.size∧w'.cell? ⟨g,o,none⟩=some (.string t0)∧w'.cell? ⟨g,o+1,none⟩=some (.int .i64 n)
theorem BoxC.below {w w1 w2:World} {g o:Nat} {t0:ByteArray} {n:Int} (h:BoxC w g o t0 n w1) (hb:Below w1.heap.size w1 w2):BoxC w g o t0 n w2:=by
 obtain ⟨h0,hl,c0,c1⟩:=h
 have c:=fun x=>hb.cell (p:=⟨g,x,none⟩) hl
 exact ⟨h0.trans (hb.mono h0.size),by have:=hb.size;omega,(c _).trans c0,(c _).trans c1⟩
theorem BoxC.drew {w w1:World} {g o:Nat} {t0:ByteArray} {n:Int} (h:BoxC w g o t0 n w1):BoxC w g o t0 n w1.drew:=⟨h.1.drew,h.2⟩
def CM (K n g:Nat) (w:World):Prop:=g<w.heap.size∧∀i,i<n→w.cell? ⟨g,i*2,none⟩=some (.string (mT (K+2*i)))∧w.cell? ⟨g,i*2+1,none⟩=some (.int .i64 ((K:Int)+2*(i:Int)+1))
theorem CM.block {K n g:Nat} {w w':World} (h:CM K n g w) (hs:w.heap.size≤w'.heap.size) (hb:w'.heap[g]? = w.heap[g]?):CM K n g w' :=
 ⟨Nat.lt_of_lt_of_le h.1 hs,fun i hi=>⟨(World.cell?_of_block (a:=⟨g,i*2,none⟩) hb).trans (h.2 i hi).1,(World.cell?_of_block (a:=⟨g,i*2+1,none⟩) hb).trans (h.2 i hi).2⟩⟩
theorem CM.below {K n g:Nat} {w w':World} (h:CM K n g w) (hb:Below w.heap.size w w'):CM K n g w':=h.block hb.size (hb.block g h.1)
theorem CM.more {K i g m:Nat} {w:World} (h:CM K i g w) (hp:Pt g m w) (hm:i*2+1<m):CM K (i+1) g ((w.setCell ⟨g,i*2,none⟩ (.string (mT (K+2*i)))).setCell ⟨g,i*2+1,none⟩ (.int .i64 ((K:Int)+2*(i:Int)+1))):=by
 have p1:=hp.set (i*2) (.string (mT (K+2*i)))
 refine ⟨by have:=h.1;simpa using this,fun j hj=>?_⟩
 by_cases e:j=i
 ·subst e
  exact ⟨by rw [cell_far _ _ (by omega),cell_put hp _ (by omega)],cell_put p1 _ hm _⟩
 ·obtain ⟨h1,h2⟩:=h.2 j (by omega)
  exact ⟨by rw [cell_far _ _ (by omega),cell_far _ _ (by omega)];exact h1,by rw [cell_far _ _ (by omega),cell_far _ _ (by omega)];exact h2⟩
theorem credM (K:Nat) (hK0:1≤K) (hK:K≤6000000) (g n cap:Nat) (w:World) (hn:n≤1048576) (h0:Pt g (n*2) w) :
 Calls Tryz.prog 88 #[.slice (some ⟨g,0,none⟩) n cap,.int .i64 K] w fun e w'=>e=.returned (.int .i64 (K+2*n:Nat))∧w.grownBy w' (some g)∧(∀n',Pt g n' w→Pt g n' w')∧CM K n g w':=by
 have HP:=H_ h0
 have HT:Hid (∀(z:Int) (K:Nat),z=K→1≤K→K<100000000→∀w,Calls Tryz.prog 89 #[.int .i64 z] w fun e w'=>e=.returned (.string (mT K))∧Below w.heap.size w w'):=H_ (fun z K e h0 h w=>by subst e;exact mark_any K h0 h w)
 have HM0:Hid (CM K 0 g w):=H_ ⟨h0.lt,fun i hi=>absurd hi (by omega)⟩
 clear h0
 go_enter Tryz.func88,Tryz.ntmps88
 go_wp2_with fail
 go_loopw [5,1] (fun x z wr=>∃i:Nat,x=.int .i64 (i:Int)∧z=.int .i64 ((K:Int)+2*(i:Int))∧i≤n∧Hid (Pt g (n*2) wr)∧Hid (w.grownBy wr (some g))∧Hid (∀n',Pt g n' w→Pt g n' wr)∧Hid (CM K i g wr)) (fun x _ _=>n-(intOf x).toNat)
 case atStart=>exact ⟨0,rfl,by go_num,by omega,HP,H_ ⟨rfl,rfl,rfl,Nat.le_refl _,fun _ _ _=>rfl⟩,H_ (fun _ h=>h),HM0⟩
 case round =>
  clear HM0
  obtain ⟨i,rfl,rfl,hi,HP,HG,HA,HM⟩:=hrel
  by_cases hin:i=n
  ·subst hin
   go_wp2_with fail
   go_ret
   exact ⟨by go_num,HG.out,HA.out,HM.out⟩
  ·have h1:(i:Int)<(n:Int):=by omega
   go_wp2_with fail
   refine (HT.out _ (K+2*i) (by push_cast;omega) (by omega) (by omega) _).mono ?_
   rintro e w1 ⟨rfl,hb⟩
   have HP1:=H_ (HP.out.below hb)
   have HG1:=H_ (OwG.gtransO HG.out (OwG.rgrownO hb _))
   have HA2:Hid (∀n',Pt g n' w→Pt g n' ((w1.setCell ⟨g,i*2,none⟩ (.string (mT (K+2*i)))).setCell ⟨g,i*2+1,none⟩ (.int .i64 ((K:Int)+2*(i:Int)+1)))):=H_ (fun n' h=>(((HA.out n' h).below hb).set _ _).set _ _)
   have HM2:=H_ ((HM.out.below hb).more HP1.out (by omega))
   obtain ⟨v0,c0⟩:=HP1.out.has (i*2) (by omega)
   have f0:=HP1.out.free (i*2) (by omega)
   obtain ⟨v1,c1⟩:=HP1.out.has (i*2+1) (by omega)
   have f1:=HP1.out.free (i*2+1) (by omega)
   have HS:=H_ (OwG.gtransO (OwG.gtransO HG1.out (grown_set _ g (i*2) (.string (mT (K+2*i))))) (grown_set _ g (i*2+1) (.int .i64 ((K:Int)+2*(i:Int)+1))))
   have HP2:=H_ ((HP1.out.set (i*2) (.string (mT (K+2*i)))).set (i*2+1) (.int .i64 ((K:Int)+2*(i:Int)+1)))
   clear hb HP HG HG1 HP1 HA HM
   go_wp2_with fail
   go_roundw
   case rel=>exact ⟨i+1,by go_num,by go_num,by omega,HP2,HS,HA2,HM2⟩
   case measure=>simp [intOf];omega
theorem credH (K:Nat) (hK0:1≤K) (hK:K≤6000000) (g n cap:Nat) (w:World) (hn:n≤1048576) (hm:CM K n g w) :
 Calls Tryz.prog 146 #[.slice (some ⟨g,0,none⟩) n cap,.int .i64 K] w fun e w'=>e=.returned (.int .i64 (K+2*n:Nat))∧Below w.heap.size w w':=by
 have HM:=H_ hm
 have HT:Hid (∀(z:Int) (K:Nat),z=K→1≤K→K<100000000→∀w,Calls Tryz.prog 89 #[.int .i64 z] w fun e w'=>e=.returned (.string (mT K))∧Below w.heap.size w w'):=H_ (fun z K e h0 h w=>by subst e;exact mark_any K h0 h w)
 clear hm
 go_enter Tryz.func146,Tryz.ntmps146
 go_wp2_with fail
 go_loopw [5,1] (fun x z wr=>∃i:Nat,x=.int .i64 (i:Int)∧z=.int .i64 ((K:Int)+2*(i:Int))∧i≤n∧Hid (Below w.heap.size w wr)) (fun x _ _=>n-(intOf x).toNat)
 case atStart=>exact ⟨0,rfl,by go_num,by omega,H_ (Below.refl _ _)⟩
 case round =>
  obtain ⟨i,rfl,rfl,hi,HB⟩:=hrel
  by_cases hin:i=n
  ·subst hin
   go_wp2_with fail
   go_ret
   exact ⟨by go_num,HB.out⟩
  ·have h1:(i:Int)<(n:Int):=by omega
   obtain ⟨q0,q1⟩:=(HM.out.below HB.out).2 i (by omega)
   have HT0:=H_ (fun w=>HT.out ((K:Int)+2*(i:Int)) (K+2*i) (by push_cast;omega) (by omega) (by omega) w)
   generalize mT (K+2*i)=T0 at *
   have HS0:Hid (BoxC w g (i*2) T0 ((K:Int)+2*(i:Int)+1) wr):=H_ ⟨HB.out,by have:=HB.out.size;have:=HM.out.1;omega,q0,q1⟩
   have HS1:=H_ HS0.out.drew
   go_wp2_with fail
   go_region_held3 (fun w'=>Below w.heap.size w w'∧g<w'.heap.size∧w'.cell? ⟨g,i*2,none⟩=some (.string T0)∧w'.cell? ⟨g,i*2+1,none⟩=some (.int .i64 ((K:Int)+2*(i:Int)+1))) (first|assumption|(exact HS0.out)|(exact HS1.out)|(exact BoxC.below (w:=w) (g:=g) (o:=i*2) (t0:=T0) (n:=(K:Int)+2*(i:Int)+1) (by assumption) hb))
    (first|(go_at_call 89;refine (HT0.out _).mono ?_;rintro e w' ⟨rfl,hb⟩))
   rename_i hS
   replace HS0:=H_ hS
   have q0:=HS0.out.2.2.1
   have q1:=HS0.out.2.2.2
   clear hS HS1
   have HB2:=H_ HS0.out.1
   go_wp2_with fail
   go_roundw
   case rel=>exact ⟨i+1,by go_num,by go_num,by omega,HB2⟩
   case measure=>simp [intOf];omega
theorem credH0 (K:Int) (ao:Option Addr) (cap:Nat) (w:World):Calls Tryz.prog 146 #[.slice ao 0 cap,.int .i64 K] w fun e w'=>e=.returned (.int .i64 K)∧Below w.heap.size w w':=by
 go_enter Tryz.func146,Tryz.ntmps146
 go_wp2_with fail
 go_loopw [5,1] (fun x z wr=>x=.int .i64 0∧z=.int .i64 K∧Hid (Below w.heap.size w wr)) (fun x _ _=>0)
 case atStart=>exact ⟨rfl,rfl,H_ (Below.refl _ _)⟩
 case round =>
  obtain ⟨rfl,rfl,HB⟩:=hrel
  go_wp2_with fail
  go_ret
  exact ⟨rfl,HB.out⟩
theorem credM0 (K:Int) (ao:Option Addr) (cap:Nat) (w:World):Calls Tryz.prog 88 #[.slice ao 0 cap,.int .i64 K] w fun e w'=>e=.returned (.int .i64 K)∧Below w.heap.size w w':=by
 go_enter Tryz.func88,Tryz.ntmps88
 go_wp2_with fail
 go_loopw [5,1] (fun x z wr=>x=.int .i64 0∧z=.int .i64 K∧Hid (Below w.heap.size w wr)) (fun x _ _=>0)
 case atStart=>exact ⟨rfl,rfl,H_ (Below.refl _ _)⟩
 case round =>
  obtain ⟨rfl,rfl,HB⟩:=hrel
  go_wp2_with fail
  go_ret
  exact ⟨rfl,HB.out⟩
end CatR
namespace CatR
open RowG (grown_set)
open ChG
open EvtR (Pt cell_put cell_far)
open MarkR (mk mT mark_any H_)
def wBk (K:Nat):Bool:=(((K:Int)+1+1) % 3==0)
theorem pt_anyM {p q n o:Nat} {W:World} {v:Value} (h:Pt p n W):Pt p n (W.setCell ⟨q,o,none⟩ v):=by
 by_cases e:p=q
 ·subst e;exact h.set _ _
 ·exact OwG.pt_row h (grown_set W q o v) (by simp;exact e)
structure MsB (base g n:Nat) (la:Nat→Option Addr) (ln lc lb:Nat→Nat) (w:World):Prop where
 low:base≤g
 pt:Pt g (n*6) w
 cell:∀j,j<n→w.cell? ⟨g,j*6+5,none⟩=some (.slice (la j) (ln j) (lc j))
 own:∀j,j<n→ln j=0∨(la j=some ⟨lb j,0,none⟩∧base≤lb j∧lb j≠g∧Pt (lb j) (ln j*2) w)
 apart:∀i j,i<n→j<n→i≠j→ln i≠0→ln j≠0→lb i≠lb j
def FtM (g n:Nat) (ln lb:Nat→Nat) (b:Nat):Prop:=b=g∨∃j,j<n∧ln j≠0∧b=lb j
def MkM (g n:Nat) (la:Nat→Option Addr) (ln lc lb Kx:Nat→Nat) (w:World):Prop:=g<w.heap.size∧∀j,j<n→(w.cell? ⟨g,j*6,none⟩=some (.string (mT (Kx j)))∧w.cell? ⟨g,j*6+1,none⟩=some (.int .i64 ((Kx j:Int)+1))∧w.cell? ⟨g,j*6+2,none⟩=some (.bool (wBk (Kx j)))∧w.cell? ⟨g,j*6+3,none⟩=some (.int .i64 ((Kx j:Int)+1+1+1))∧w.cell? ⟨g,j*6+4,none⟩=some (.int .i64 ((Kx j:Int)+1+1+1+1)))∧w.cell? ⟨g,j*6+5,none⟩=some (.slice (la j) (ln j) (lc j))∧(ln j=0∨(la j=some ⟨lb j,0,none⟩∧TM (Kx j+5) (ln j) (lb j) w))
section
variable {base g n:Nat} {la:Nat→Option Addr} {ln lc lb Kx:Nat→Nat} {W W':World}
theorem MsB.below (h:MsB base g n la ln lc lb W) (hb:Below W.heap.size W W'):MsB base g n la ln lc lb W' :=
 ⟨h.low,h.pt.below hb,fun j hj=>(hb.cell (p:=⟨g,j*6+5,none⟩) h.pt.lt).trans (h.cell j hj),fun j hj=>(h.own j hj).imp id (fun ⟨e1,e2,e3,e4⟩=>⟨e1,e2,e3,e4.below hb⟩),h.apart⟩
theorem MsB.put (h:MsB base g n la ln lc lb W) (o:Nat) (ho:o % 6≠5) (v:Value):MsB base g n la ln lc lb (W.setCell ⟨g,o,none⟩ v) :=
 ⟨h.low,h.pt.set _ _,fun j hj=>(cell_far _ _ (by omega) v).trans (h.cell j hj),fun j hj=>(h.own j hj).imp id (fun ⟨e1,e2,e3,e4⟩=>⟨e1,e2,e3,pt_anyM e4⟩),h.apart⟩
theorem MsB.grown (h:MsB base g n la ln lc lb W) {x:Nat} (hg:W.grownBy W' (some x)) (hx:x≠g) (ha:∀n',Pt x n' W→Pt x n' W'):MsB base g n la ln lc lb W':=by
 have eb:=hg.block g h.pt.lt (by simp;exact fun e=>hx e.symm)
 refine ⟨h.low,OwG.pt_row h.pt hg (by simp;exact fun e=>hx e.symm),fun j hj=>(World.cell?_of_block (a:=⟨g,j*6+5,none⟩) eb).trans (h.cell j hj),fun j hj=>(h.own j hj).imp id (fun ⟨e1,e2,e3,e4⟩=>⟨e1,e2,e3,?_⟩),h.apart⟩
 by_cases e:lb j=x
 ·subst e;exact ha _ e4
 ·exact OwG.pt_row e4 hg (by simp;exact e)
theorem MkM.below (h:MkM g n la ln lc lb Kx W) (hb:Below W.heap.size W W'):MkM g n la ln lc lb Kx W':=by
 refine ⟨by have:=hb.size;have:=h.1;omega,fun j hj=>?_⟩
 obtain ⟨⟨h0,h1,h2,h3,h4⟩,h5,h6⟩:=h.2 j hj
 have f:=fun o=>hb.cell (p:=⟨g,o,none⟩) h.1
 exact ⟨⟨(f _).trans h0,(f _).trans h1,(f _).trans h2,(f _).trans h3,(f _).trans h4⟩,(f _).trans h5,h6.imp id (fun ⟨e1,e2⟩=>⟨e1,e2.below hb⟩)⟩
theorem MkM.chg {S:Nat→Prop} (h:MkM g n la ln lc lb Kx W) (hc:Chg S W W') (hg:¬S g) (hl:∀j,j<n→ln j≠0→¬S (lb j)):MkM g n la ln lc lb Kx W':=by
 refine ⟨by have:=hc.size;have:=h.1;omega,fun j hj=>?_⟩
 obtain ⟨⟨h0,h1,h2,h3,h4⟩,h5,h6⟩:=h.2 j hj
 have eb:=hc.block g h.1 hg
 have f:=fun o=>World.cell?_of_block (a:=⟨g,o,none⟩) eb
 refine ⟨⟨(f _).trans h0,(f _).trans h1,(f _).trans h2,(f _).trans h3,(f _).trans h4⟩,(f _).trans h5,?_⟩
 by_cases e0:ln j=0
 ·exact .inl e0
 ·rcases h6 with h6|⟨e1,e2⟩
  ·exact absurd h6 e0
  ·exact .inr ⟨e1,e2.block hc.size (hc.block _ e2.1 (hl j hj e0))⟩
theorem MkM.put (h:MkM g n la ln lc lb Kx W) (hlb:∀j,j<n→ln j≠0→lb j≠g) (o:Nat) (ho:n*6≤o) (v:Value):MkM g n la ln lc lb Kx (W.setCell ⟨g,o,none⟩ v):=by
 refine ⟨by have:=h.1;simpa using this,fun j hj=>?_⟩
 obtain ⟨⟨h0,h1,h2,h3,h4⟩,h5,h6⟩:=h.2 j hj
 refine ⟨⟨(cell_far _ _ (by omega) v).trans h0,(cell_far _ _ (by omega) v).trans h1,(cell_far _ _ (by omega) v).trans h2,(cell_far _ _ (by omega) v).trans h3,(cell_far _ _ (by omega) v).trans h4⟩,(cell_far _ _ (by omega) v).trans h5,?_⟩
 by_cases e0:ln j=0
 ·exact .inl e0
 ·rcases h6 with h6|⟨e1,e2⟩
  ·exact absurd h6 e0
  ·have eb:=(grown_set W g o v).block (lb j) e2.1 (by simp;exact hlb j hj e0)
   exact .inr ⟨e1,e2.block (by simp) eb⟩
end
theorem markMB (base g n cap:Nat) (la:Nat→Option Addr) (ln lc lb Kx:Nat→Nat) (w:World) (hn:n≤1048576) (hKM:∀j,j<n→Kx (j+1)=Kx j+5+2*ln j) (hK:∀j,j≤n→1≤Kx j∧Kx j≤5300001) (hln:∀j,j<n→ln j≤1048576) (hD:MsB base g n la ln lc lb w) :
 Calls Tryz.prog 87 #[.slice (some ⟨g,0,none⟩) n cap,.int .i64 (Kx 0:Nat)] w fun e w'=>e=.returned (.int .i64 (Kx n:Nat))∧MkM g n la ln lc lb Kx w'∧Chg (FtM g n ln lb) w w':=by
 have HT:Hid (∀(z:Int) (K:Nat),z=K→1≤K→K<100000000→∀w,Calls Tryz.prog 89 #[.int .i64 z] w fun e w'=>e=.returned (.string (mT K))∧Below w.heap.size w w'):=H_ (fun z K e h0 h w=>by subst e;exact mark_any K h0 h w)
 have HKM:=H_ hKM
 have HK:=H_ hK
 have HLN:=H_ hln
 have HD:=H_ hD
 have HM0:Hid (MkM g 0 la ln lc lb Kx w):=H_ ⟨hD.pt.lt,fun j hj=>absurd hj (by omega)⟩
 clear hKM hK hln hD
 go_enter Tryz.func87,Tryz.ntmps87
 go_wp2_with fail
 go_loopw [5,1] (fun x z wr=>∃(i:Nat),x=.int .i64 (i:Int)∧z=.int .i64 ((Kx i:Nat):Int)∧i≤n∧Hid (MsB base g n la ln lc lb wr)∧Hid (MkM g i la ln lc lb Kx wr)∧Hid (Chg (FtM g n ln lb) w wr)) (fun x _ _=>n-(intOf x).toNat)
 case atStart=>exact ⟨0,rfl,rfl,by omega,HD,HM0,H_ (Chg.refl _ _)⟩
 case round =>
  clear HD HM0
  obtain ⟨i,rfl,rfl,hi,HD,HM,HC⟩:=hrel
  by_cases hin:i=n
  ·subst hin
   go_wp2_with fail
   go_ret
   exact ⟨rfl,HM.out,HC.out⟩
  ·have h1:(i:Int)<(n:Int):=by omega
   have hil:i<n:=by omega
   obtain ⟨k0,k1⟩:=HK.out i (by omega)
   have k2:=(HK.out (i+1) (by omega)).2
   have km:=HKM.out i hil
   have hll:=HLN.out i hil
   have hgl:=HD.out.pt.lt
   have HLB:Hid (∀j,j<i→ln j≠0→lb j≠g):=H_ (fun j hj e0=>by
    rcases HD.out.own j (by omega) with h|⟨_,_,h,_⟩
    ·exact absurd h e0
    ·exact h)
   go_wp2_with fail
   refine (HT.out _ (Kx i) rfl (by omega) (by omega) _).mono ?_
   rintro e w1 ⟨rfl,hb⟩
   replace HD:=H_ (HD.out.below hb)
   replace HM:=H_ (HM.out.below hb)
   replace HC:=H_ (HC.out.below hb)
   clear hb hgl
   obtain ⟨v0,c0⟩:=HD.out.pt.has (i*6) (by omega)
   have f0:=HD.out.pt.free (i*6) (by omega)
   obtain ⟨v1,c1⟩:=HD.out.pt.has (i*6+1) (by omega)
   have f1:=HD.out.pt.free (i*6+1) (by omega)
   obtain ⟨v2,c2⟩:=HD.out.pt.has (i*6+2) (by omega)
   have f2:=HD.out.pt.free (i*6+2) (by omega)
   obtain ⟨v3,c3⟩:=HD.out.pt.has (i*6+3) (by omega)
   have f3:=HD.out.pt.free (i*6+3) (by omega)
   obtain ⟨v4,c4⟩:=HD.out.pt.has (i*6+4) (by omega)
   have f4:=HD.out.pt.free (i*6+4) (by omega)
   have c5:=HD.out.cell i hil
   have hgl:=HD.out.pt.lt
   have hSg:FtM g n ln lb g:=.inl rfl
   have HWK:Hid (wBk (Kx i)=((((Kx i:Nat):Int)+1+1) % 3==0)):=rfl
   generalize hwb:wBk (Kx i)=wb at *
   generalize hKi:Kx i=K at *
   have hw3:(((K:Int)+1+1) % 3==0)=wb:=HWK.out.symm
   obtain ⟨W3,hW3⟩:∃W3,W3=(((((w1.setCell ⟨g,i*6,none⟩ (.string (mT K))).setCell ⟨g,i*6+1,none⟩ (.int .i64 ((K:Int)+1))).setCell ⟨g,i*6+2,none⟩ (.bool wb)).setCell ⟨g,i*6+3,none⟩ (.int .i64 ((K:Int)+1+1+1))).setCell ⟨g,i*6+4,none⟩ (.int .i64 ((K:Int)+1+1+1+1))):=⟨_,rfl⟩
   have HD3:Hid (MsB base g n la ln lc lb W3):=H_ (by rw [hW3];exact (((((HD.out.put _ (by omega) _).put _ (by omega) _).put _ (by omega) _).put _ (by omega) _).put _ (by omega) _))
   have HM3:Hid (MkM g i la ln lc lb Kx W3):=H_ (by rw [hW3];exact (((((HM.out.put HLB.out _ (by omega) _).put HLB.out _ (by omega) _).put HLB.out _ (by omega) _).put HLB.out _ (by omega) _).put HLB.out _ (by omega) _))
   have HC3:Hid (Chg (FtM g n ln lb) w W3):=H_ (by rw [hW3];exact (((((HC.out.grown (grown_set _ g _ _) hSg).grown (grown_set _ g _ _) hSg).grown (grown_set _ g _ _) hSg).grown (grown_set _ g _ _) hSg).grown (grown_set _ g _ _) hSg))
   have p0:=HD.out.pt
   have p1:=p0.set (i*6) (.string (mT K))
   have p2:=p1.set (i*6+1) (.int .i64 ((K:Int)+1))
   have p3:=p2.set (i*6+2) (.bool wb)
   have p4:=p3.set (i*6+3) (.int .i64 ((K:Int)+1+1+1))
   have HX3:Hid (W3.cell? ⟨g,i*6,none⟩=some (.string (mT K))∧W3.cell? ⟨g,i*6+1,none⟩=some (.int .i64 ((K:Int)+1))∧W3.cell? ⟨g,i*6+2,none⟩=some (.bool wb)∧W3.cell? ⟨g,i*6+3,none⟩=some (.int .i64 ((K:Int)+1+1+1))∧W3.cell? ⟨g,i*6+4,none⟩=some (.int .i64 ((K:Int)+1+1+1+1))):=H_ (by
    rw [hW3]
    refine ⟨?_,?_,?_,?_,cell_put p4 _ (by omega) _⟩
    ·rw [cell_far _ _ (by omega),cell_far _ _ (by omega),cell_far _ _ (by omega),cell_far _ _ (by omega),cell_put p0 _ (by omega)]
    ·rw [cell_far _ _ (by omega),cell_far _ _ (by omega),cell_far _ _ (by omega),cell_put p1 _ (by omega)]
    ·rw [cell_far _ _ (by omega),cell_far _ _ (by omega),cell_put p2 _ (by omega)]
    ·rw [cell_far _ _ (by omega),cell_put p3 _ (by omega)])
   clear p0 p1 p2 p3 p4
   have HTK:Hid (mT (Kx i)=mT K):=H_ (by rw [hKi])
   have HKi:=H_ hKi
   have HWB:=H_ hwb
   generalize mT K=T0 at *
   clear HD HM HC hKi HWK hwb
   by_cases hz:ln i=0
   ·rw [hz] at c5
    have HMK0:=H_ (fun z=>tierM0 z (la i) (lc i) W3)
    have HL0:=H_ hz
    go_wp2_with fail
    rw [←hW3]
    refine (HMK0.out _).mono ?_
    rintro e w4 ⟨rfl,hb⟩
    have HX4:=H_ (show MkM g (i+1) la ln lc lb Kx w4 from ⟨by have:=hb.size;have:=HD3.out.pt.lt;omega,fun j hj=>by
     by_cases e:j=i
     ·subst e
      have f:=fun o=>hb.cell (p:=⟨g,o,none⟩) HD3.out.pt.lt
      rw [HTK.out,HKi.out,HWB.out]
      obtain ⟨x0,x1,x2,x3,x4⟩:=HX3.out
      exact ⟨⟨(f _).trans x0,(f _).trans x1,(f _).trans x2,(f _).trans x3,(f _).trans x4⟩,(f _).trans (HD3.out.cell j hil),.inl HL0.out⟩
     ·exact (HM3.out.below hb).2 j (by omega)⟩)
    replace HD3:=H_ (HD3.out.below hb)
    replace HC3:=H_ (HC3.out.below hb)
    have hkk:((Kx (i+1):Nat):Int)=(K:Int)+1+1+1+1+1:=by rw [km,hz];omega
    clear hb hW3
    go_wp2_with fail
    go_roundw
    case rel=>exact ⟨i+1,by go_num,by rw [hkk],by omega,HD3,HX4,HC3⟩
    case measure=>simp [intOf];omega
   ·rcases HD3.out.own i hil with h0|⟨e1,e2,e3,e4⟩
    ·exact absurd h0 hz
    have HMK:Hid (∀z:Int,z=((K+5:Nat):Int)→Calls Tryz.prog 144 #[.slice (some ⟨lb i,0,none⟩) (ln i) (lc i),.int .i64 z] W3 fun e w'=>e=.returned (.int .i64 ((K+5)+2*ln i:Nat))∧W3.grownBy w' (some (lb i))∧(∀n',Pt (lb i) n' W3→Pt (lb i) n' w')∧TM (K+5) (ln i) (lb i) w'):=H_ (fun z hz=>by subst hz;exact tierM (K+5) (by omega) (by omega) (lb i) (ln i) (lc i) W3 hll e4)
    have HE1:=H_ e1
    have HE3:=H_ e3
    have HSl:Hid (FtM g n ln lb (lb i)):=H_ (.inr ⟨i,hil,hz,rfl⟩)
    rw [e1] at c5
    clear e4 e1
    go_wp2_with fail
    rw [←hW3]
    refine (HMK.out _ (by push_cast;omega)).mono ?_
    rintro e w4 ⟨rfl,hg4,ha4,hm4⟩
    have HX4:=H_ (show MkM g (i+1) la ln lc lb Kx w4 from ⟨by have:=hg4.size;have:=HD3.out.pt.lt;omega,fun j hj=>by
     by_cases e:j=i
     ·subst e
      have eb:=hg4.block g HD3.out.pt.lt (by simp;exact fun e=>HE3.out e.symm)
      have f:=fun o=>World.cell?_of_block (a:=⟨g,o,none⟩) eb
      rw [HTK.out,HKi.out,HWB.out]
      obtain ⟨x0,x1,x2,x3,x4⟩:=HX3.out
      exact ⟨⟨(f _).trans x0,(f _).trans x1,(f _).trans x2,(f _).trans x3,(f _).trans x4⟩,(f _).trans (HD3.out.cell j hil),.inr ⟨HE1.out,hm4⟩⟩
     ·have hc:Chg (fun b=>b=lb i) W3 w4:=(Chg.refl _ _).grown hg4 rfl
      exact (HM3.out.chg hc (fun q=>HE3.out q.symm) (fun j2 hj2 hn2 q=>HD3.out.apart j2 i (by omega) hil (by omega) hn2 hz q)).2 j (by omega)⟩)
    replace HD3:=H_ (HD3.out.grown hg4 HE3.out ha4)
    replace HC3:=H_ (HC3.out.grown hg4 HSl.out)
    have hkk:((Kx (i+1):Nat):Int)=((K+5+2*ln i:Nat):Int):=by rw [km]
    clear hg4 ha4 hm4 hW3
    go_wp2_with fail
    go_roundw
    case rel=>exact ⟨i+1,by go_num,by rw [hkk];go_num,by omega,HD3,HX4,HC3⟩
    case measure=>simp [intOf];omega
def BoxN (w:World) (g o:Nat) (t0:ByteArray) (n1:Int) (b2:Bool) (n3 n4:Int) (v:Value) (w':World):Prop:=Below w.heap.size w w'∧g<w'.heap.size∧w'.cell? ⟨g,o,none⟩=some (.string t0)∧w'.cell? ⟨g,o+1,none⟩=some (.int .i64 n1)∧w'.cell? ⟨g,o+2,none⟩=some (.bool b2)∧w'.cell? ⟨g,o+3,none⟩=some (.int .i64 n3)∧w'.cell? ⟨g,o+4,none⟩=some (.int .i64 n4)∧w'.cell? ⟨g,o+5,none⟩=some v
theorem bn_below {w wr w1 w2:World} {g o:Nat} {t0:ByteArray} {n1 n3 n4:Int} {b2:Bool} {v:Value} (h:Below wr.heap.size wr w1∧BoxN w g o t0 n1 b2 n3 n4 v w1) (hb:Below w1.heap.size w1 w2):Below wr.heap.size wr w2∧BoxN w g o t0 n1 b2 n3 n4 v w2:=by
 obtain ⟨h8,h0,hl,c0,c1,c2,c3,c4,c5⟩:=h
 have c:=fun x=>hb.cell (p:=⟨g,x,none⟩) hl
 exact ⟨h8.trans (hb.mono h8.size),h0.trans (hb.mono h0.size),by have:=hb.size;omega,(c _).trans c0,(c _).trans c1,(c _).trans c2,(c _).trans c3,(c _).trans c4,(c _).trans c5⟩
theorem heldMB (g n cap:Nat) (la:Nat→Option Addr) (ln lc lb Kx:Nat→Nat) (w:World) (hn:n≤1048576) (hKM:∀j,j<n→Kx (j+1)=Kx j+5+2*ln j) (hK:∀j,j≤n→1≤Kx j∧Kx j≤5300001) (hln:∀j,j<n→ln j≤1048576) (hM:MkM g n la ln lc lb Kx w) :
 Calls Tryz.prog 145 #[.slice (some ⟨g,0,none⟩) n cap,.int .i64 (Kx 0:Nat)] w fun e w'=>e=.returned (.int .i64 (Kx n:Nat))∧Below w.heap.size w w':=by
 have HT:Hid (∀(z:Int) (K:Nat),z=K→1≤K→K<100000000→∀w,Calls Tryz.prog 89 #[.int .i64 z] w fun e w'=>e=.returned (.string (mT K))∧Below w.heap.size w w'):=H_ (fun z K e h0 h w=>by subst e;exact mark_any K h0 h w)
 have HKM:=H_ hKM
 have HK:=H_ hK
 have HLN:=H_ hln
 have HM:=H_ hM
 clear hKM hK hln hM
 go_enter Tryz.func145,Tryz.ntmps145
 go_wp2_with fail
 go_loopw [5,1] (fun x z wr=>∃(i:Nat),x=.int .i64 (i:Int)∧z=.int .i64 ((Kx i:Nat):Int)∧i≤n∧Hid (Below w.heap.size w wr)) (fun x _ _=>n-(intOf x).toNat)
 case atStart=>exact ⟨0,rfl,rfl,by omega,H_ (Below.refl _ _)⟩
 case round =>
  obtain ⟨i,rfl,rfl,hi,HB⟩:=hrel
  by_cases hin:i=n
  ·subst hin
   go_wp2_with fail
   go_ret
   exact ⟨rfl,HB.out⟩
  ·have h1:(i:Int)<(n:Int):=by omega
   have hil:i<n:=by omega
   obtain ⟨k0,k1⟩:=HK.out i (by omega)
   have k2:=(HK.out (i+1) (by omega)).2
   have km:=HKM.out i hil
   have hll:=HLN.out i hil
   have HMW:=H_ (HM.out.below HB.out)
   have hgl:=HMW.out.1
   obtain ⟨⟨c0,c1,c2,c3,c4⟩,c5,hL⟩:=HMW.out.2 i hil
   have HT0:=H_ (fun w=>HT.out ((Kx i:Nat):Int) (Kx i) rfl (by omega) (by omega) w)
   have HLW:Hid (∀W,Below wr.heap.size wr W→(ln i=0∨(la i=some ⟨lb i,0,none⟩∧TM (Kx i+5) (ln i) (lb i) W))):=H_ (fun W hW=>hL.imp id (fun ⟨e1,e2⟩=>⟨e1,e2.below hW⟩))
   have HWK:Hid (wBk (Kx i)=((((Kx i:Nat):Int)+1+1) % 3==0)):=rfl
   clear hL HMW
   generalize wBk (Kx i)=wb at *
   generalize Kx i=K at *
   have hw3:(((K:Int)+1+1) % 3==0)=wb:=HWK.out.symm
   generalize mT K=T0 at *
   have HS2:Hid (Below wr.heap.size wr wr∧BoxN w g (i*6) T0 ((K:Int)+1) wb ((K:Int)+1+1+1) ((K:Int)+1+1+1+1) (.slice (la i) (ln i) (lc i)) wr):=H_ ⟨Below.refl _ _,HB.out,hgl,c0,c1,c2,c3,c4,c5⟩
   have HS3:Hid (Below wr.heap.size wr wr.drew∧BoxN w g (i*6) T0 ((K:Int)+1) wb ((K:Int)+1+1+1) ((K:Int)+1+1+1+1) (.slice (la i) (ln i) (lc i)) wr.drew):=H_ (bn_below HS2.out (Below.refl _ _).drew)
   go_wp2_with fail
   go_region_held3 (fun w'=>Below wr.heap.size wr w'∧Below w.heap.size w w'∧g<w'.heap.size∧w'.cell? ⟨g,i*6,none⟩=some (.string T0)∧w'.cell? ⟨g,i*6+1,none⟩=some (.int .i64 ((K:Int)+1))∧w'.cell? ⟨g,i*6+2,none⟩=some (.bool wb)∧w'.cell? ⟨g,i*6+3,none⟩=some (.int .i64 ((K:Int)+1+1+1))∧w'.cell? ⟨g,i*6+4,none⟩=some (.int .i64 ((K:Int)+1+1+1+1))∧w'.cell? ⟨g,i*6+5,none⟩=some (.slice (la i) (ln i) (lc i))) (first|assumption|(exact HS2.out)|(exact HS3.out)|(exact bn_below (by assumption) hb))
    (first|(go_at_call 89;refine (HT0.out _).mono ?_;rintro e w' ⟨rfl,hb⟩))
   rename_i hS
   have HBW:=H_ hS.1
   have HB2:=H_ hS.2.1
   have HLX:=H_ (HLW.out _ hS.1)
   obtain ⟨_,_,gl2,d0,d1,d2,d3,d4,d5⟩:=hS
   clear HS2 HS3 c0 c1 c2 c3 c4 c5 hgl HLW
   by_cases h0:ln i=0
   ·rw [h0] at d5
    have HMK:=H_ (fun z W=>tierH0 z (la i) (lc i) W)
    have hkk:((Kx (i+1):Nat):Int)=(K:Int)+1+1+1+1+1:=by rw [km,h0];omega
    have hkn:¬(K:Int)+1+1+1+1+1<0:=by omega
    go_wp2_with fail
    refine (HMK.out _ _).mono ?_
    rintro e w4 ⟨rfl,hb⟩
    replace HB2:=HT_ HB2 hb
    clear hb
    go_wp2_with fail
    go_roundw
    case rel=>exact ⟨i+1,by go_num,by rw [hkk],by omega,HB2⟩
    case measure=>simp [intOf];omega
   ·rcases HLX.out with q|⟨e1,e2⟩
    ·exact absurd q h0
    rw [e1] at d5
    have HMK:=H_ (fun (z:Int) (hz:z=((K+5:Nat):Int))=>by subst hz;exact tierH (K+5) (by omega) (by omega) (lb i) (ln i) (lc i) _ hll e2)
    have hkk:((Kx (i+1):Nat):Int)=((K+5+2*ln i:Nat):Int):=by rw [km]
    have hkn:¬((K+5+2*ln i:Nat):Int)<0:=by omega
    clear e2 HLX
    go_wp2_with fail
    refine (HMK.out ((K:Int)+1+1+1+1+1) (by push_cast;omega)).mono ?_
    rintro e w4 ⟨rfl,hb⟩
    replace HB2:=HT_ HB2 hb
    clear hb
    generalize ((K+5+2*ln i:Nat):Int)=Z at *
    go_wp2_with fail
    go_roundw
    case rel=>exact ⟨i+1,by go_num,by rw [hkk],by omega,HB2⟩
    case measure=>simp [intOf];omega
end CatR
namespace CatR
open ChG
open RowG (cellsAll)
open EvtR (Pt cell_put cell_far)
open MarkR (mk mT mark_any H_)
def totM (ms:List Me):Nat:=(ms.map (fun m=>5+2*m.ts.length)).sum
def KxM (K:Nat) (xs:List MA) (j:Nat):Nat:=K+totM ((xs.take j).map MA.m)
theorem kxM_more (K:Nat) (xs:List MA) (j:Nat) (h:j<xs.length):KxM K xs (j+1)=KxM K xs j+5+2*(xs.getD j MA.zero).m.ts.length:=by
 unfold KxM
 have e:(xs.take (j+1)).map MA.m=(xs.take j).map MA.m ++ [(xs.getD j MA.zero).m]:=by
  rw [RowG.take_more (z:=MA.zero) xs j h,List.map_append]
  rfl
 rw [e]
 simp only [totM,List.map_append,List.sum_append,List.map_cons,List.map_nil,List.sum_cons,List.sum_nil]
 omega
theorem totM_take:∀(ms:List Me) (j:Nat),totM (ms.take j)≤totM ms
 | [],j=>by simp
 | m::ms,0=>by simp [totM]
 | m::ms,j+1=>by
  have:=totM_take ms j
  simp only [totM,List.take_succ_cons,List.map_cons,List.sum_cons] at *
  omega
theorem kxM_le (K:Nat) (xs:List MA) (j:Nat):KxM K xs j≤K+totM (xs.map MA.m):=by
 unfold KxM
 have h:=totM_take (xs.map MA.m) j
 rw [←List.map_take] at h
 omega
theorem markM0 (K:Int) (ao:Option Addr) (cap:Nat) (w:World):Calls Tryz.prog 87 #[.slice ao 0 cap,.int .i64 K] w fun e w'=>e=.returned (.int .i64 K)∧Below w.heap.size w w':=by
 go_enter Tryz.func87,Tryz.ntmps87
 go_wp2_with fail
 go_loopw [5,1] (fun x z wr=>x=.int .i64 0∧z=.int .i64 K∧Hid (Below w.heap.size w wr)) (fun x _ _=>0)
 case atStart=>exact ⟨rfl,rfl,H_ (Below.refl _ _)⟩
 case round =>
  obtain ⟨rfl,rfl,HB⟩:=hrel
  go_wp2_with fail
  go_ret
  exact ⟨rfl,HB.out⟩
theorem heldM0 (K:Int) (ao:Option Addr) (cap:Nat) (w:World):Calls Tryz.prog 145 #[.slice ao 0 cap,.int .i64 K] w fun e w'=>e=.returned (.int .i64 K)∧Below w.heap.size w w':=by
 go_enter Tryz.func145,Tryz.ntmps145
 go_wp2_with fail
 go_loopw [5,1] (fun x z wr=>x=.int .i64 0∧z=.int .i64 K∧Hid (Below w.heap.size w wr)) (fun x _ _=>0)
 case atStart=>exact ⟨rfl,rfl,H_ (Below.refl _ _)⟩
 case round =>
  obtain ⟨rfl,rfl,HB⟩:=hrel
  go_wp2_with fail
  go_ret
  exact ⟨rfl,HB.out⟩
theorem msB_of {base:Nat} {v:Value} {xs:List MA} {W:World} (h2:W.ownsRow base 150 6 v xs.length (cellsAll MA.cells xs)) (h3:∀x∈xs,TnO base x W) (h4:xs.Pairwise AptM) (h0:xs.length≠0):∃g cap lb,v=.slice (some ⟨g,0,none⟩) xs.length cap∧v.ownBlock=some g∧(∀j,j<xs.length→(xs.getD j MA.zero).m.ts.length≠0→(xs.getD j MA.zero).v.ownBlock=some (lb j))∧MsB base g xs.length (fun j=>(xs.getD j MA.zero).ta) (fun j=>(xs.getD j MA.zero).m.ts.length) (fun j=>(xs.getD j MA.zero).tc) lb W:=by
 have hap:=fun j (hj:j<xs.length)=>OwG.own_apart (h3 _ (RowG.getD_mem (z:=MA.zero) xs j hj)) h2 (by decide)
 obtain ⟨ao,cap,rfl,hm⟩:=RowG.own_made (z:=MA.zero) MA.len h2
 rcases hm.own with q|⟨g,rfl,hg,hp⟩
 ·exact absurd q h0
 have hl:∀j,j<xs.length→(xs.getD j MA.zero).m.ts.length=0∨∃b,(xs.getD j MA.zero).ta=some ⟨b,0,none⟩∧base≤b∧Pt b ((xs.getD j MA.zero).m.ts.length*2) W:=by
  intro j hj
  have h:=h3 _ (RowG.getD_mem (z:=MA.zero) xs j hj)
  obtain ⟨ao',cap',e',hm'⟩:=RowG.own_made (z:=Ti.zero) Ti.len h
  unfold MA.v at e'
  cases e'
  exact hm'.own
 refine ⟨g,cap,fun j=>match (xs.getD j MA.zero).ta with|some a=>a.block|none=>0,rfl,rfl,?_,hg,hp,?_,?_,?_⟩
 ·intro j hj hn
  rcases hl j hj with q|⟨b,e1,_⟩
  ·exact absurd q hn
  ·dsimp only
   unfold MA.v
   rw [e1]
   rfl
 ·intro j hj
  rcases hm.rws with q|⟨b,off,e,hb,hc⟩
  ·exact absurd q h0
  ·simp only [Option.some.injEq,Addr.mk.injEq,and_true] at e
   obtain ⟨rfl,rfl⟩:=e
   have:=hc j hj 5 (by omega)
   rw [Nat.zero_add] at this
   exact this
 ·intro j hj
  rcases hl j hj with q|⟨b,e1,e2,e3⟩
  ·exact .inl q
  ·by_cases hn:(xs.getD j MA.zero).m.ts.length=0
   ·exact .inl hn
   refine .inr ?_
   rw [e1]
   refine ⟨rfl,e2,?_,e3⟩
   have:=hap j hj b (by unfold MA.v;rw [e1];rfl)
   simp [Value.ownBlock] at this
   exact this
 ·intro i j hi hj hne n1 n2 q
  rcases hl i hi with q1|⟨b1,e1,_⟩
  ·exact n1 q1
  rcases hl j hj with q2|⟨b2,e2,_⟩
  ·exact n2 q2
  rw [e1,e2] at q
  have q3:b1=b2:=q
  subst q3
  have eb1:(xs.getD i MA.zero).v.ownBlock=some b1:=by unfold MA.v;rw [e1];rfl
  have eb2:(xs.getD j MA.zero).v.ownBlock=some b1:=by unfold MA.v;rw [e2];rfl
  have gi:xs.getD i MA.zero=xs[i]:=by simp [List.getD,hi]
  have gj:xs.getD j MA.zero=xs[j]:=by simp [List.getD,hj]
  rw [gi] at eb1
  rw [gj] at eb2
  rcases Nat.lt_or_gt_of_ne hne with lt|gt
  ·exact List.pairwise_iff_getElem.1 h4 i j hi hj lt b1 eb1 eb2
  ·exact List.pairwise_iff_getElem.1 h4 j i hj hi gt b1 eb2 eb1
theorem markMsO (base K:Nat) (vm:Value) (xs:List MA) (w:World) (hK0:1≤K) (hlen:xs.length≤1048576) (hln:∀y∈xs,y.m.ts.length≤1048576) (ht:K+totM (xs.map MA.m)≤5300001) (h2:w.ownsRow base 150 6 vm xs.length (cellsAll MA.cells xs)) (h3:∀x∈xs,TnO base x w) (h4:xs.Pairwise AptM) :
 Calls Tryz.prog 87 #[vm,.int .i64 K] w fun e w'=>e=.returned (.int .i64 (K+totM (xs.map MA.m):Nat))∧(∃S:Nat→Prop,Chg S w w'∧(∀b,S b→base≤b∧(vm.ownBlock=some b∨∃y∈xs,y.v.ownBlock=some b)) ∧
  (∀(S':Nat→Prop) w2,Chg S' w' w2→(∀b,S' b→¬S b)→Calls Tryz.prog 145 #[vm,.int .i64 K] w2 fun e w3=>e=.returned (.int .i64 (K+totM (xs.map MA.m):Nat))∧Below w2.heap.size w2 w3)):=by
 by_cases h0:xs.length=0
 ·obtain rfl:xs=[]:=List.length_eq_zero_iff.1 h0
  obtain ⟨ao,cap,rfl,hm⟩:=RowG.own_made (z:=MA.zero) MA.len h2
  refine (markM0 K ao cap w).mono ?_
  rintro e w' ⟨rfl,hb⟩
  exact ⟨rfl,fun _=>False,Chg.of_below hb,fun b q=>q.elim,fun S' w2 _ _=>heldM0 K ao cap w2⟩
 ·obtain ⟨g,cap,lb,rfl,hob,hlb,hD⟩:=msB_of h2 h3 h4 h0
  have hK:∀j,j≤xs.length→1≤KxM K xs j∧KxM K xs j≤5300001:=fun j _=>⟨by unfold KxM;omega,by have:=kxM_le K xs j;omega⟩
  have hL:∀j,j<xs.length→(xs.getD j MA.zero).m.ts.length≤1048576:=fun j hj=>hln _ (RowG.getD_mem (z:=MA.zero) xs j hj)
  have hz:KxM K xs 0=K:=by simp [KxM,totM]
  have hN:KxM K xs xs.length=K+totM (xs.map MA.m):=by unfold KxM;rw [List.take_length]
  have hm:=markMB base g xs.length cap _ _ _ lb (KxM K xs) w hlen (fun j hj=>kxM_more K xs j hj) hK hL hD
  rw [hz,hN] at hm
  refine hm.mono ?_
  rintro e w' ⟨rfl,hM,hC⟩
  refine ⟨rfl,_,hC,?_,?_⟩
  ·rintro b (rfl|⟨j,hj,hn,rfl⟩)
   ·exact ⟨hD.low,.inl hob⟩
   ·refine ⟨?_,.inr ⟨_,RowG.getD_mem (z:=MA.zero) xs j hj,hlb j hj hn⟩⟩
    rcases hD.own j hj with q|⟨_,q,_⟩
    ·exact absurd q hn
    ·exact q
  ·intro S' w2 hc hS
   have hM2:=hM.chg hc (fun q=>hS g q (.inl rfl)) (fun j hj hn q=>hS _ q (.inr ⟨j,hj,hn,rfl⟩))
   have hh:=heldMB g xs.length cap _ _ _ lb (KxM K xs) w2 hlen (fun j hj=>kxM_more K xs j hj) hK hL hM2
   rw [hz,hN] at hh
   exact hh
end CatR
namespace StxR
open RowG
open EvtR (Pt)
open MarkR (mk mT)
theorem bdN {B:Nat} {a w:World} (h:Below B a w) (n:Nat):Below B a (w.drewN n):=⟨h.os,h.tape,h.output,h.size,h.block⟩
def tz:ByteArray:=⟨#[]⟩
def tcells (t:ByteArray):List Value:=[.string t]
theorem t_len (t:ByteArray):(tcells t).length=1:=rfl
def Tgs (ao:Option Addr) (ts:List ByteArray) (w:World):Prop:=Rws 1 tcells tz ao ts w
theorem Tgs.below {ao:Option Addr} {ts:List ByteArray} {w w':World} (h:Tgs ao ts w) (hb:Below w.heap.size w w'):Tgs ao ts w':=Rws.below h hb
theorem Tgs.at {ao:Option Addr} {ts:List ByteArray} {w:World} (h:Tgs ao ts w) (j:Nat) (hj:j<ts.length):∃b off,ao=some ⟨b,off,none⟩∧b<w.heap.size∧w.cell? ⟨b,off+j,none⟩=some (.string (ts.getD j tz)):=by
 obtain ⟨b,off,h1,h2,h3⟩:=Rws.at h j hj
 have:=h3 0 (by omega)
 rw [Nat.mul_one] at this
 exact ⟨b,off,h1,h2,this⟩
def tsz (ts:List ByteArray):Int:=(ts.map (fun t=>(t.size:Int))).sum
theorem tsz_nn (ts:List ByteArray):0≤tsz ts:=by
 unfold tsz
 induction ts with
 | nil=>simp
 | cons e es ih=>simp only [List.map_cons,List.sum_cons];omega
theorem tsz_take (ts:List ByteArray) (k:Nat) (h:k<ts.length):tsz (ts.take (k+1))=tsz (ts.take k)+((ts.getD k tz).size:Int):=by
 unfold tsz
 rw [take_more (z:=tz) ts k h,List.map_append,List.sum_append]
 simp
theorem tsz_le (ts:List ByteArray) (k:Nat):tsz (ts.take k)≤tsz ts:=by
 have:=tsz_nn (ts.drop k)
 have e:tsz ts=tsz (ts.take k)+tsz (ts.drop k):=by
  unfold tsz
  rw [←List.sum_append,←List.map_append,List.take_append_drop]
 omega
theorem tsz_mem {ts:List ByteArray} {t:ByteArray} (h:t∈ts):(t.size:Int)≤tsz ts:=by
 unfold tsz
 induction ts with
 | nil=>simp at h
 | cons e es ih =>
  have:=tsz_nn es
  unfold tsz at this
  simp only [List.map_cons,List.sum_cons]
  rcases List.mem_cons.1 h with rfl|h
  ·omega
  ·have:=ih h;omega
def tszR (ts:List ByteArray) (left:Int):Int:=if (ts.length:Int)+tsz ts≤left then left-(ts.length:Int)-tsz ts else -1
theorem szT_any (ao:Option Addr) (cap:Nat) (ts:List ByteArray) (left:Int) (w:World) (hm:ts.length≤maxLen) (h0:0≤left) (h1:left≤1048576) (hI:Tgs ao ts w) (hw:∀t∈ts,t.size≤maxLen) :
 Calls Tryz.prog 100 #[.slice ao ts.length cap,.int .i64 left] w fun e w'=>e=.returned (.int .i64 (tszR ts left))∧Below w.heap.size w w':=by
 obtain ⟨len,hlen⟩:∃len,len=ts.length:=⟨_,rfl⟩
 rw [←hlen] at hm ⊢
 have HZ:=H_ hlen
 have HI:=H_ hI
 have HW:=H_ hw
 have HR:Hid (tszR ts left=if (ts.length:Int)+tsz ts≤left then left-(ts.length:Int)-tsz ts else -1):=rfl
 generalize tszR ts left=R at *
 unfold maxLen at hm
 clear hI hw hlen
 by_cases hbig:left<(len:Int)
 ·have hl2:left-(len:Int)<0:=by omega
  have HN:Hid (R=-1):=H_ (by rw [HR.out,if_neg];have:=tsz_nn ts;have:=HZ.out;omega)
  go_enter Tryz.func100,Tryz.ntmps100
  go_wp2_with fail
  go_ret
  exact ⟨ret_int HN.out.symm,Below.refl _ _⟩
 have hl:(len:Int)≤1048576:=by omega
 have hl2:¬left-(len:Int)<0:=by omega
 go_enter Tryz.func100,Tryz.ntmps100
 go_wp2_with fail
 go_loopw [5,1] (fun x y w'=>∃(j:Nat) (L:Int),j≤len∧x=.int .i64 j∧y=.int .i64 L∧0≤L∧L≤1048576∧Hid (L=left-(len:Int)-tsz (ts.take j))∧Hid (Below w.heap.size w w')) (fun x y w'=>len-(intOf x).toNat)
 case atStart=>exact ⟨0,left-(len:Int),Nat.zero_le _,rfl,rfl,by omega,by omega,H_ (by simp [tsz]),H_ (Below.refl _ _)⟩
 case round =>
  obtain ⟨j,L,hj,rfl,rfl,l0,l1,HL,HB⟩:=hrel
  by_cases hlt:j<len
  ·obtain ⟨b,off,rfl,hbl,c0⟩:=(HI.out.below HB.out).at j (by have:=HZ.out;omega)
   have HS:=H_ (tsz_take ts j (by have:=HZ.out;omega))
   have q1:=HW.out _ (getD_mem (z:=tz) ts j (by have:=HZ.out;omega))
   unfold maxLen at q1
   generalize ts.getD j tz=X at *
   have hlt2:(j:Int)<(len:Int):=by omega
   by_cases hs:(X.size:Int)≤L
   ·have HN:Hid (L-(X.size:Int)=left-(len:Int)-tsz (ts.take (j+1))):=H_ (by rw [HS.out,HL.out];omega)
    have r2:¬L-(X.size:Int)<0:=by omega
    go_wp2_with fail
    go_roundw
    case rel=>exact ⟨j+1,_,by omega,by go_num,rfl,by omega,by omega,HN,HB⟩
    case measure=>simp [intOf];omega
   ·have HN:Hid (R=-1):=H_ (by rw [HR.out,if_neg];have:=tsz_le ts (j+1);have:=HS.out;have:=HL.out;have:=HZ.out;omega)
    have r2:L-(X.size:Int)<0:=by omega
    go_wp2_with fail
    go_ret
    exact ⟨ret_int HN.out.symm,HB.out⟩
  ·obtain rfl:j=len:=by omega
   have hlt2:¬(j:Int)<(j:Int):=by omega
   have HN:Hid (R=L):=H_ (by
    have e:=HL.out
    rw [List.take_of_length_le (by have:=HZ.out;omega)] at e
    rw [HR.out,if_pos (by have:=HZ.out;omega)];have:=HZ.out;omega)
   go_wp2_with fail
   go_ret
   exact ⟨ret_int HN.out.symm,HB.out⟩
theorem infoT:(Tryz.prog.info? 9).map (fun i=>(i.zero,i.size,i.bytes))=some (some (.string ⟨#[]⟩),1,16):=by kernel_rfl
theorem row_full {w:World} {base e g n s:Nat} {xs:List Value} (h:w.ownsRow base e s (.slice (some ⟨g,0,none⟩) n n) n xs):Pt g (n*s) w:=by
 rcases h.2 with ⟨h1,_⟩|⟨g',cap,cur,h1,_,hg,_,_,hs,_⟩
 ·simp at h1
 ·simp at h1
  obtain ⟨rfl,rfl⟩:=h1
  refine ⟨(Array.getElem?_eq_some_iff.1 hg).1,fun o ho=>⟨cur[o]'(by omega),?_⟩,fun o ho=>?_⟩
  ·have:o<cur.size:=by omega
   simp [World.cell?,hg,this]
  ·simp [World.frozen?,hg]
theorem fill_step {f:Nat→Option Value} {w wr:World} {m j:Nat} (hb:Below w.heap.size w wr) (hp:Pt w.heap.size m wr) (hw:Wr f j w.heap.size wr) (hj:j<m) (v:Value) (hv:f j=some v) :
 Below w.heap.size w (wr.setCell ⟨w.heap.size,j,none⟩ v)∧Pt w.heap.size m (wr.setCell ⟨w.heap.size,j,none⟩ v)∧Wr f (j+1) w.heap.size (wr.setCell ⟨w.heap.size,j,none⟩ v) :=
 ⟨hb.setCell (Nat.le_refl _) _,hp.set _ _,hw.more hp hj v hv⟩
theorem cellT (ts:List ByteArray) (o:Nat):cellAt 1 tcells tz ts o=some (.string (ts.getD o tz)):=by
 unfold cellAt
 rw [Nat.div_one,Nat.mod_one]
 rfl
theorem toTs_any (ao:Option Addr) (cap:Nat) (ts:List ByteArray) (w:World) (hlen:ts.length≤1048576) (hI:Tgs ao ts w) :
 Calls Tryz.prog 117 #[.slice ao ts.length cap] w fun e w'=>e=.returned (.slice (some ⟨w.heap.size,0,none⟩) ts.length ts.length)∧Tgs (some ⟨w.heap.size,0,none⟩) ts w'∧Pt w.heap.size ts.length w'∧Below w.heap.size w w':=by
 obtain ⟨i0,hi,hz0,hz1,hz2⟩:=info_parts infoT
 have HI:=H_ hI
 have HWS:Hid (∀wr,Wr (cellAt 1 tcells tz ts) (ts.length*1) w.heap.size wr→w.heap.size<wr.heap.size→Tgs (some ⟨w.heap.size,0,none⟩) ts wr):=H_ (fun wr h hl=>Wr.rws h hl)
 obtain ⟨len,hl⟩:∃len,len=ts.length:=⟨_,rfl⟩
 rw [←hl] at hlen HWS ⊢
 have HL:=H_ hl
 clear hI hl
 go_enter Tryz.func117,Tryz.ntmps117
 go_wp2_with (at_make;refine wpList_make_full _ rfl _ _ 92 rfl w.heap.size 9 i0 (.string ⟨#[]⟩) 1 Tryz.underlying92 hi hz0 hz1 .i64 .i64 _ _ len rfl rfl rfl rfl ?b2 ?b3 ?b4 ?_)
 case b2=>rw [hz2];omega
 case b3=>unfold maxLen;omega
 case b4=>exact Nat.le_refl _
 intro wm hown hgrow
 have HB0:Hid (Below w.heap.size w wm):=H_ ((Below.refl _ _).grown hgrow (Nat.le_refl _) (fun k e=>by cases e))
 have HP0:=H_ (row_full hown)
 clear hown hgrow hi hz0 hz1 hz2
 go_wp2_with fail
 go_loopw [4] (fun z wr=>∃k:Nat,k≤len∧z=.int .i64 k∧Hid (Below w.heap.size w wr)∧Hid (Pt w.heap.size (len*1) wr)∧Hid (Wr (cellAt 1 tcells tz ts) k w.heap.size wr)) (fun z _=>len-(intOf z).toNat)
 case atStart=>exact ⟨0,by omega,rfl,HB0,HP0,H_ (fun o ho=>absurd ho (by omega))⟩
 case round =>
  obtain ⟨k,hk,rfl,HB,HP,HW⟩:=hrel
  by_cases hlt:k<len
  ·have hlt2:(k:Int)<(len:Int):=by omega
   obtain ⟨b,off,rfl,hbl,c0⟩:=(HI.out.below HB.out).at k (by have:=HL.out;omega)
   have HS0:=H_ (fill_step HB.out HP.out HW.out (by omega) (.string (ts.getD k tz)) (cellT ts k))
   generalize ts.getD k tz=X at *
   obtain ⟨v0,d0⟩:=HP.out.has k (by omega)
   have z0:=HP.out.free k (by omega)
   go_wp2_with fail
   go_roundw
   case rel=>exact ⟨k+1,by omega,by go_num,H_ HS0.out.1,H_ HS0.out.2.1,H_ HS0.out.2.2⟩
   case measure=>simp [intOf];omega
  ·have hlt2:¬(k:Int)<(len:Int):=by omega
   obtain rfl:k=len:=by omega
   go_wp2_with fail
   go_ret
   exact ⟨rfl,HWS.out _ (by rw [Nat.mul_one];exact HW.out) HP.out.lt,(by have h:=HP.out;rwa [Nat.mul_one] at h),HB.out⟩
theorem eqTs_any (ao bo:Option Addr) (cap cap':Nat) (ts:List ByteArray) (w:World) (hlen:ts.length≤1048576) (hI:Tgs ao ts w) (hJ:Tgs bo ts w) :
 Calls Tryz.prog 142 #[.slice ao ts.length cap,.slice bo ts.length cap'] w fun e w'=>e=.returned (.bool true)∧Below w.heap.size w w':=by
 have HI:=H_ hI
 have HJ:=H_ hJ
 obtain ⟨len,hl⟩:∃len,len=ts.length:=⟨_,rfl⟩
 rw [←hl] at hlen ⊢
 have HL:=H_ hl
 clear hI hJ hl
 go_enter Tryz.func142,Tryz.ntmps142
 go_wp2_with fail
 go_loopw [5] (fun z wr=>∃k:Nat,k≤len∧z=.int .i64 k∧Hid (Below w.heap.size w wr)) (fun z _=>len-(intOf z).toNat)
 case atStart=>exact ⟨0,by omega,rfl,H_ (Below.refl _ _)⟩
 case round =>
  obtain ⟨k,hk,rfl,HW⟩:=hrel
  by_cases hlt:k<len
  ·have hlt2:(k:Int)<(len:Int):=by omega
   obtain ⟨b,off,rfl,_,c0⟩:=(HI.out.below HW.out).at k (by have:=HL.out;omega)
   obtain ⟨b',off',rfl,_,e0⟩:=(HJ.out.below HW.out).at k (by have:=HL.out;omega)
   generalize ts.getD k tz=X at *
   go_wp2_with fail
   try (go_quiet (fail);go_wp2_with fail)
   go_roundw
   case rel=>exact ⟨k+1,by omega,by go_num,H_ (by first|exact HW.out|exact bdN HW.out _)⟩
   case measure=>simp [intOf];omega
  ·have hlt2:¬(k:Int)<(len:Int):=by omega
   go_wp2_with fail
   go_ret
   exact ⟨rfl,HW.out⟩
def mtC (K o:Nat):Option Value:=some (.string (mT (K+o)))
theorem mark_st {f:Nat→Option Value} {g m j:Nat} {w0 w:World} (hp:Pt g m w) (hm:Wr f j g w) (hg:w0.grownBy w (some g)) (hj:j<m) (v:Value) (hv:f j=some v) :
 Pt g m (w.setCell ⟨g,j,none⟩ v)∧Wr f (j+1) g (w.setCell ⟨g,j,none⟩ v)∧w0.grownBy (w.setCell ⟨g,j,none⟩ v) (some g) :=
 ⟨hp.set _ _,hm.more hp hj v hv,OwG.gtransO hg (grown_set _ g _ _)⟩
theorem markT (g n cap K:Nat) (w:World) (hn:n≤1048576) (hK:1≤K∧K≤10000000) (h0:Pt g n w) :
 Calls Tryz.prog 90 #[.slice (some ⟨g,0,none⟩) n cap,.int .i64 K] w fun e w'=>e=.returned (.int .i64 (K+n:Nat))∧Pt g n w'∧Wr (mtC K) n g w'∧w.grownBy w' (some g):=by
 have HP:=H_ h0
 obtain ⟨k1,k2⟩:=hK
 have HT:Hid (∀(z:Int) (L:Nat),z=L→1≤L→L<100000000→∀w,Calls Tryz.prog 89 #[.int .i64 z] w fun e w'=>e=.returned (.string (mT L))∧Below w.heap.size w w'):=H_ (fun z L e h0 h w=>by subst e;exact MarkR.mark_any L h0 h w)
 clear h0
 go_enter Tryz.func90,Tryz.ntmps90
 go_wp2_with fail
 go_loopw [5,1] (fun x z wr=>∃i:Nat,x=.int .i64 (i:Int)∧z=.int .i64 ((K:Int)+(i:Int))∧i≤n∧Hid (Pt g n wr)∧Hid (Wr (mtC K) i g wr)∧Hid (w.grownBy wr (some g))) (fun x _ _=>n-(intOf x).toNat)
 case atStart=>exact ⟨0,rfl,by simp,by omega,HP,H_ (fun o ho=>absurd ho (by omega)),H_ ⟨rfl,rfl,rfl,Nat.le_refl _,fun _ _ _=>rfl⟩⟩
 case round =>
  obtain ⟨i,rfl,rfl,hi,HP,HM,HG⟩:=hrel
  by_cases hin:i=n
  ·subst hin
   go_wp2_with fail
   go_ret
   exact ⟨by go_num,HP.out,HM.out,HG.out⟩
  ·have h1:(i:Int)<(n:Int):=by omega
   go_wp2_with fail
   refine (HT.out _ (K+i) (by push_cast;omega) (by omega) (by omega) _).mono ?_
   rintro e w1 ⟨rfl,hb⟩
   have HP1:=H_ (HP.out.below hb)
   have HM1:=H_ (HM.out.below HP.out hb)
   have HG1:=H_ (OwG.gtransO HG.out (OwG.rgrownO hb _))
   obtain ⟨v0,c0⟩:=HP1.out.has i (by omega)
   have f0:=HP1.out.free i (by omega)
   have HS:=H_ (mark_st HP1.out HM1.out HG1.out (by omega) (.string (mT (K+i))) rfl)
   clear hb HP HM HG HP1 HM1 HG1
   go_wp2_with fail
   go_roundw
   case rel=>exact ⟨i+1,by go_num,by (congr 1)<;>omega,by omega,H_ HS.out.1,H_ HS.out.2.1,H_ HS.out.2.2⟩
   case measure=>simp [intOf];omega
end StxR
end Go.Proofs.YtnceeaccbcfopaaGreatDoor
