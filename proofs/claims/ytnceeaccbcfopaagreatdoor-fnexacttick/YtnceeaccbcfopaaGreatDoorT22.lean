/-
  A list of sources marked, its marks read; and what marking promises of lists of meters, of credits, of sources of one's own, and of lists that are none. The conditions: at most 1048576 of each, the marks below 5300001.
-/
import Derived.Test.YtnceeaccbcfopaaGreatDoorT21
namespace Go.Proofs.YtnceeaccbcfopaaGreatDoor
open Go.ChangeShapes Go.WideShapes Go.ChangeAt Go.RowKit
set_option linter.unusedVariables false
namespace CatR
open ChG
open RowG (cellsAll grown_set)
open EvtR (Pt cell_put cell_far)
open MarkR (mk mT mark_any H_)
set_option maxRecDepth 100000 in
set_option maxHeartbeats 4000000 in
theorem srcM (K:Nat) (hK0:1≤K) (hK:K≤6000000) (g n cap:Nat) (w:World) (hn:n≤1048576) (h0:Pt g (n*2) w) :
 Calls Tryz.prog 39 #[.slice (some ⟨g,0,none⟩) n cap,.int .i64 K] w fun e w'=>e=.returned (.int .i64 (K+2*n:Nat))∧w.grownBy w' (some g)∧(∀n',Pt g n' w→Pt g n' w')∧CM K n g w':=by
 have HP:=H_ h0
 have HT:Hid (∀(z:Int) (K:Nat),z=K→1≤K→K<100000000→∀w,Calls Tryz.prog 89 #[.int .i64 z] w fun e w'=>e=.returned (.string (mT K))∧Below w.heap.size w w'):=H_ (fun z K e h0 h w=>by subst e;exact mark_any K h0 h w)
 have HM0:Hid (CM K 0 g w):=H_ ⟨h0.lt,fun i hi=>absurd hi (by omega)⟩
 clear h0
 go_enter Tryz.func39,Tryz.ntmps39
 go_wp2_with fail
 go_loopw [5,1] (fun x z wr=>∃i:Nat,x=.int .i64 (i:Int)∧z=.int .i64 ((K:Int)+2*(i:Int))∧i≤n∧Hid (Pt g (n*2) wr)∧Hid (w.grownBy wr (some g))∧Hid (∀n',Pt g n' w→Pt g n' wr)∧Hid (CM K i g wr)) (fun x _ _=>n-(intOf x).toNat)
 case atStart=>exact ⟨0,rfl,by go_num,by omega,HP,H_ ⟨rfl,rfl,rfl,Nat.le_refl _,fun _ _ _=>rfl⟩,H_ (fun _ h=>h),HM0⟩
 case round =>
  clear HM0
  obtain ⟨i,rfl,rfl,hi,HP,HG,HA,HM⟩:=hrel
  by_cases hin:i=n
  ·subst hin
   go_wp2_with fail
   go_ret
   exact ⟨by go_num,HG.out,HA.out,HM.out⟩
  ·have h1:(i:Int)<(n:Int):=by omega
   go_wp2_with fail
   refine (HT.out _ (K+2*i) (by push_cast;omega) (by omega) (by omega) _).mono ?_
   rintro e w1 ⟨rfl,hb⟩
   have HP1:=H_ (HP.out.below hb)
   have HG1:=H_ (OwG.gtransO HG.out (OwG.rgrownO hb _))
   have HA2:Hid (∀n',Pt g n' w→Pt g n' ((w1.setCell ⟨g,i*2,none⟩ (.string (mT (K+2*i)))).setCell ⟨g,i*2+1,none⟩ (.int .i64 ((K:Int)+2*(i:Int)+1)))):=H_ (fun n' h=>(((HA.out n' h).below hb).set _ _).set _ _)
   have HM2:=H_ ((HM.out.below hb).more HP1.out (by omega))
   obtain ⟨v0,c0⟩:=HP1.out.has (i*2) (by omega)
   have f0:=HP1.out.free (i*2) (by omega)
   obtain ⟨v1,c1⟩:=HP1.out.has (i*2+1) (by omega)
   have f1:=HP1.out.free (i*2+1) (by omega)
   have HS:=H_ (OwG.gtransO (OwG.gtransO HG1.out (grown_set _ g (i*2) (.string (mT (K+2*i))))) (grown_set _ g (i*2+1) (.int .i64 ((K:Int)+2*(i:Int)+1))))
   have HP2:=H_ ((HP1.out.set (i*2) (.string (mT (K+2*i)))).set (i*2+1) (.int .i64 ((K:Int)+2*(i:Int)+1)))
   clear hb HP HG HG1 HP1 HA HM
   go_wp2_with fail
   go_roundw
   case rel=>exact ⟨i+1,by go_num,by go_num,by omega,HP2,HS,HA2,HM2⟩
   case measure=>simp [intOf];omega
set_option maxRecDepth 100000 in
set_option maxHeartbeats 4000000 in
theorem srcH (K:Nat) (hK0:1≤K) (hK:K≤6000000) (g n cap:Nat) (w:World) (hn:n≤1048576) (hm:CM K n g w) :
 Calls Tryz.prog 94 #[.slice (some ⟨g,0,none⟩) n cap,.int .i64 K] w fun e w'=>e=.returned (.int .i64 (K+2*n:Nat))∧Below w.heap.size w w':=by
 have HM:=H_ hm
 have HT:Hid (∀(z:Int) (K:Nat),z=K→1≤K→K<100000000→∀w,Calls Tryz.prog 89 #[.int .i64 z] w fun e w'=>e=.returned (.string (mT K))∧Below w.heap.size w w'):=H_ (fun z K e h0 h w=>by subst e;exact mark_any K h0 h w)
 clear hm
 go_enter Tryz.func94,Tryz.ntmps94
 go_wp2_with fail
 go_loopw [5,1] (fun x z wr=>∃i:Nat,x=.int .i64 (i:Int)∧z=.int .i64 ((K:Int)+2*(i:Int))∧i≤n∧Hid (Below w.heap.size w wr)) (fun x _ _=>n-(intOf x).toNat)
 case atStart=>exact ⟨0,rfl,by go_num,by omega,H_ (Below.refl _ _)⟩
 case round =>
  obtain ⟨i,rfl,rfl,hi,HB⟩:=hrel
  by_cases hin:i=n
  ·subst hin
   go_wp2_with fail
   go_ret
   exact ⟨by go_num,HB.out⟩
  ·have h1:(i:Int)<(n:Int):=by omega
   obtain ⟨q0,q1⟩:=(HM.out.below HB.out).2 i (by omega)
   have HT0:=H_ (fun w=>HT.out ((K:Int)+2*(i:Int)) (K+2*i) (by push_cast;omega) (by omega) (by omega) w)
   generalize mT (K+2*i)=T0 at *
   have HS0:Hid (BoxC w g (i*2) T0 ((K:Int)+2*(i:Int)+1) wr):=H_ ⟨HB.out,by have:=HB.out.size;have:=HM.out.1;omega,q0,q1⟩
   have HS1:=H_ HS0.out.drew
   go_wp2_with fail
   go_region_held3 (fun w'=>Below w.heap.size w w'∧g<w'.heap.size∧w'.cell? ⟨g,i*2,none⟩=some (.string T0)∧w'.cell? ⟨g,i*2+1,none⟩=some (.int .i64 ((K:Int)+2*(i:Int)+1))) (first|assumption|(exact HS0.out)|(exact HS1.out)|(exact BoxC.below (w:=w) (g:=g) (o:=i*2) (t0:=T0) (n:=(K:Int)+2*(i:Int)+1) (by assumption) hb))
    (first|(go_at_call 89;refine (HT0.out _).mono ?_;rintro e w' ⟨rfl,hb⟩))
   rename_i hS
   replace HS0:=H_ hS
   have q0:=HS0.out.2.2.1
   have q1:=HS0.out.2.2.2
   clear hS HS1
   have HB2:=H_ HS0.out.1
   go_wp2_with fail
   go_roundw
   case rel=>exact ⟨i+1,by go_num,by go_num,by omega,HB2⟩
   case measure=>simp [intOf];omega
set_option maxHeartbeats 4000000 in
theorem srcH0 (K:Int) (ao:Option Addr) (cap:Nat) (w:World):Calls Tryz.prog 94 #[.slice ao 0 cap,.int .i64 K] w fun e w'=>e=.returned (.int .i64 K)∧Below w.heap.size w w':=by
 go_enter Tryz.func94,Tryz.ntmps94
 go_wp2_with fail
 go_loopw [5,1] (fun x z wr=>x=.int .i64 0∧z=.int .i64 K∧Hid (Below w.heap.size w wr)) (fun x _ _=>0)
 case atStart=>exact ⟨rfl,rfl,H_ (Below.refl _ _)⟩
 case round =>
  obtain ⟨rfl,rfl,HB⟩:=hrel
  go_wp2_with fail
  go_ret
  exact ⟨rfl,HB.out⟩
set_option maxHeartbeats 4000000 in
theorem srcM0 (K:Int) (ao:Option Addr) (cap:Nat) (w:World):Calls Tryz.prog 39 #[.slice ao 0 cap,.int .i64 K] w fun e w'=>e=.returned (.int .i64 K)∧Below w.heap.size w w':=by
 go_enter Tryz.func39,Tryz.ntmps39
 go_wp2_with fail
 go_loopw [5,1] (fun x z wr=>x=.int .i64 0∧z=.int .i64 K∧Hid (Below w.heap.size w wr)) (fun x _ _=>0)
 case atStart=>exact ⟨rfl,rfl,H_ (Below.refl _ _)⟩
 case round =>
  obtain ⟨rfl,rfl,HB⟩:=hrel
  go_wp2_with fail
  go_ret
  exact ⟨rfl,HB.out⟩
theorem own_two {w:World} {base T n:Nat} {a:Option Addr} {c:Nat} {xs:List Value} (h:w.ownsRow base T 2 (.slice a n c) n xs):n=0∨∃g,a=some ⟨g,0,none⟩∧base≤g∧Pt g (n*2) w:=by
 rcases h.2 with ⟨h0,h1⟩|⟨g,cap,cur,hv,hg,hh,hc,_,hz,hcur⟩
 ·exact .inl h1
 ·have hl:=(h.lt g (by rw [hv];rfl)).2
  cases hv
  have hm:n*2≤cur.size:=by rw [hz];exact Nat.mul_le_mul_right _ hc
  refine .inr ⟨g,rfl,hg,hl,fun o ho=>?_,fun o ho=>?_⟩
  ·exact ⟨cur[o]'(by omega),by simp [World.cell?,hh,show o<cur.size by omega]⟩
  ·simp [World.frozen?,hh]
def T1 (v:Value) (b:Nat):Prop:=v.ownBlock=some b
theorem mkh_cred {w:World} {base T n K:Nat} {a:Option Addr} {c:Nat} {xs:List Value} (h:w.ownsRow base T 2 (.slice a n c) n xs) (hK0:1≤K) (hK:K≤5300001) (hn:n≤1048576):MkH 88 146 (.slice a n c) K (K+2*n) (T1 (.slice a n c)) w:=by
 intro S W hc hS
 rcases own_two h with h0|⟨g,rfl,hg,hp⟩
 ·subst h0
  refine (credM0 K a c W).mono ?_
  rintro e w' ⟨rfl,hb⟩
  exact ⟨rfl,Chg.of_below hb,fun S' Y _ _=>credH0 K a c Y⟩
 ·have hp2:=hc.pt hp (fun q=>hS g q rfl)
  refine (credM K hK0 (by omega) g n c W hn hp2).mono ?_
  rintro e w' ⟨rfl,hg2,_,hM⟩
  refine ⟨rfl,(Chg.refl _ _).grown hg2 rfl,fun S' Y hc2 hS2=>?_⟩
  exact credH K hK0 (by omega) g n c Y hn (hM.block hc2.size (hc2.block g hM.1 (fun q=>hS2 g q rfl)))
theorem mkh_src {w:World} {base T n K:Nat} {a:Option Addr} {c:Nat} {xs:List Value} (h:w.ownsRow base T 2 (.slice a n c) n xs) (hK0:1≤K) (hK:K≤5300001) (hn:n≤1048576):MkH 39 94 (.slice a n c) K (K+2*n) (T1 (.slice a n c)) w:=by
 intro S W hc hS
 rcases own_two h with h0|⟨g,rfl,hg,hp⟩
 ·subst h0
  refine (srcM0 K a c W).mono ?_
  rintro e w' ⟨rfl,hb⟩
  exact ⟨rfl,Chg.of_below hb,fun S' Y _ _=>srcH0 K a c Y⟩
 ·have hp2:=hc.pt hp (fun q=>hS g q rfl)
  refine (srcM K hK0 (by omega) g n c W hn hp2).mono ?_
  rintro e w' ⟨rfl,hg2,_,hM⟩
  refine ⟨rfl,(Chg.refl _ _).grown hg2 rfl,fun S' Y hc2 hS2=>?_⟩
  exact srcH K hK0 (by omega) g n c Y hn (hM.block hc2.size (hc2.block g hM.1 (fun q=>hS2 g q rfl)))
def TMs (vm:Value) (xs:List MA) (b:Nat):Prop:=vm.ownBlock=some b∨∃y∈xs,y.v.ownBlock=some b
theorem own_chg {S:Nat→Prop} {W W':World} {base e size n:Nat} {v:Value} {xs:List Value} (h:W.ownsRow base e size v n xs) (hc:Chg S W W') (hS:∀b,v.ownBlock=some b→¬S b):W'.ownsRow base e size v n xs:=by
 have hl:=h.lt
 refine ⟨h.1,?_⟩
 rcases h.2 with hn|⟨g,cap,cur,e1,e2,hg,rest⟩
 ·exact .inl hn
 ·have ob:v.ownBlock=some g:=by rw [e1];rfl
  exact .inr ⟨g,cap,cur,e1,e2,(hc.block g (hl g ob).2 (hS g ob)).trans hg,rest⟩
theorem mkh_mes {w:World} {base K:Nat} {vm:Value} {xs:List MA} (hK0:1≤K) (hlen:xs.length≤1048576) (hln:∀y∈xs,y.m.ts.length≤1048576) (ht:K+totM (xs.map MA.m)≤5300001) (h2:w.ownsRow base 150 6 vm xs.length (cellsAll MA.cells xs)) (h3:∀x∈xs,TnO base x w) (h4:xs.Pairwise AptM):MkH 87 145 vm K (K+totM (xs.map MA.m)) (TMs vm xs) w:=by
 intro S W hc hS
 have h2':=own_chg h2 hc (fun b q q2=>hS b q2 (.inl q))
 have h3':∀x∈xs,TnO base x W:=fun x hx=>own_chg (h3 x hx) hc (fun b q q2=>hS b q2 (.inr ⟨x,hx,q⟩))
 refine (markMsO base K vm xs W hK0 hlen hln ht h2' h3' h4).mono ?_
 rintro e w' ⟨rfl,S2,hc2,hS2,hH⟩
 exact ⟨rfl,hc2.wide (fun b q=>(hS2 b q).2),fun S3 Y hc3 hS3=>hH S3 Y hc3 (fun b q q2=>hS3 b q (hS2 b q2).2)⟩
set_option maxHeartbeats 4000000 in
theorem ensM0 (K:Int) (ao:Option Addr) (cap:Nat) (w:World):Calls Tryz.prog 40 #[.slice ao 0 cap,.int .i64 K] w fun e w'=>e=.returned (.int .i64 K)∧Below w.heap.size w w':=by
 go_enter Tryz.func40,Tryz.ntmps40
 go_wp2_with fail
 go_loopw [5,1] (fun x z wr=>x=.int .i64 0∧z=.int .i64 K∧Hid (Below w.heap.size w wr)) (fun x _ _=>0)
 case atStart=>exact ⟨rfl,rfl,H_ (Below.refl _ _)⟩
 case round =>
  obtain ⟨rfl,rfl,HB⟩:=hrel
  go_wp2_with fail
  go_ret
  exact ⟨rfl,HB.out⟩
set_option maxHeartbeats 4000000 in
theorem ensH0 (K:Int) (ao:Option Addr) (cap:Nat) (w:World):Calls Tryz.prog 95 #[.slice ao 0 cap,.int .i64 K] w fun e w'=>e=.returned (.int .i64 K)∧Below w.heap.size w w':=by
 go_enter Tryz.func95,Tryz.ntmps95
 go_wp2_with fail
 go_loopw [5,1] (fun x z wr=>x=.int .i64 0∧z=.int .i64 K∧Hid (Below w.heap.size w wr)) (fun x _ _=>0)
 case atStart=>exact ⟨rfl,rfl,H_ (Below.refl _ _)⟩
 case round =>
  obtain ⟨rfl,rfl,HB⟩:=hrel
  go_wp2_with fail
  go_ret
  exact ⟨rfl,HB.out⟩
theorem mkh_ens0 (K:Nat) (ao:Option Addr) (cap:Nat) (w:World):MkH 40 95 (.slice ao 0 cap) K K (fun _=>False) w:=mkh_none (fun W=>ensM0 K ao cap W) (fun W=>ensH0 K ao cap W)
set_option maxHeartbeats 4000000 in
theorem wdsM0 (K:Int) (ao:Option Addr) (cap:Nat) (w:World):Calls Tryz.prog 41 #[.slice ao 0 cap,.int .i64 K] w fun e w'=>e=.returned (.int .i64 K)∧Below w.heap.size w w':=by
 go_enter Tryz.func41,Tryz.ntmps41
 go_wp2_with fail
 go_loopw [5,1] (fun x z wr=>x=.int .i64 0∧z=.int .i64 K∧Hid (Below w.heap.size w wr)) (fun x _ _=>0)
 case atStart=>exact ⟨rfl,rfl,H_ (Below.refl _ _)⟩
 case round =>
  obtain ⟨rfl,rfl,HB⟩:=hrel
  go_wp2_with fail
  go_ret
  exact ⟨rfl,HB.out⟩
set_option maxHeartbeats 4000000 in
theorem wdsH0 (K:Int) (ao:Option Addr) (cap:Nat) (w:World):Calls Tryz.prog 96 #[.slice ao 0 cap,.int .i64 K] w fun e w'=>e=.returned (.int .i64 K)∧Below w.heap.size w w':=by
 go_enter Tryz.func96,Tryz.ntmps96
 go_wp2_with fail
 go_loopw [5,1] (fun x z wr=>x=.int .i64 0∧z=.int .i64 K∧Hid (Below w.heap.size w wr)) (fun x _ _=>0)
 case atStart=>exact ⟨rfl,rfl,H_ (Below.refl _ _)⟩
 case round =>
  obtain ⟨rfl,rfl,HB⟩:=hrel
  go_wp2_with fail
  go_ret
  exact ⟨rfl,HB.out⟩
theorem mkh_wds0 (K:Nat) (ao:Option Addr) (cap:Nat) (w:World):MkH 41 96 (.slice ao 0 cap) K K (fun _=>False) w:=mkh_none (fun W=>wdsM0 K ao cap W) (fun W=>wdsH0 K ao cap W)
set_option maxHeartbeats 4000000 in
theorem dcsM0 (K:Int) (ao:Option Addr) (cap:Nat) (w:World):Calls Tryz.prog 42 #[.slice ao 0 cap,.int .i64 K] w fun e w'=>e=.returned (.int .i64 K)∧Below w.heap.size w w':=by
 go_enter Tryz.func42,Tryz.ntmps42
 go_wp2_with fail
 go_loopw [5,1] (fun x z wr=>x=.int .i64 0∧z=.int .i64 K∧Hid (Below w.heap.size w wr)) (fun x _ _=>0)
 case atStart=>exact ⟨rfl,rfl,H_ (Below.refl _ _)⟩
 case round =>
  obtain ⟨rfl,rfl,HB⟩:=hrel
  go_wp2_with fail
  go_ret
  exact ⟨rfl,HB.out⟩
set_option maxHeartbeats 4000000 in
theorem dcsH0 (K:Int) (ao:Option Addr) (cap:Nat) (w:World):Calls Tryz.prog 44 #[.slice ao 0 cap,.int .i64 K] w fun e w'=>e=.returned (.int .i64 K)∧Below w.heap.size w w':=by
 go_enter Tryz.func44,Tryz.ntmps44
 go_wp2_with fail
 go_loopw [5,1] (fun x z wr=>x=.int .i64 0∧z=.int .i64 K∧Hid (Below w.heap.size w wr)) (fun x _ _=>0)
 case atStart=>exact ⟨rfl,rfl,H_ (Below.refl _ _)⟩
 case round =>
  obtain ⟨rfl,rfl,HB⟩:=hrel
  go_wp2_with fail
  go_ret
  exact ⟨rfl,HB.out⟩
theorem mkh_dcs0 (K:Nat) (ao:Option Addr) (cap:Nat) (w:World):MkH 42 44 (.slice ao 0 cap) K K (fun _=>False) w:=mkh_none (fun W=>dcsM0 K ao cap W) (fun W=>dcsH0 K ao cap W)
end CatR
end Go.Proofs.YtnceeaccbcfopaaGreatDoor
