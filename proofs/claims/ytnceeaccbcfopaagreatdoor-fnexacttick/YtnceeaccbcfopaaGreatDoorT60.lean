/-
  The law's own marks in a window's lists: written, and found again. The conditions: lists of at most 1048576, marks from 1 to 10000000 on.
-/
import Derived.Deep.RegionHeld3
import Derived.Test.YtnceeaccbcfopaaGreatDoorT59
namespace Go.Proofs.YtnceeaccbcfopaaGreatDoor
open Go.ChangeShapes Go.WideShapes Go.ChangeAt Go.RowKit
set_option linter.unusedVariables false
namespace WinR
open RowG (Wr MadeG grown_set)
open EvtR (Pt)
open CatR (Blk Blk.new)
open MarkR (mk mT mark_any)
structure Outs (base top:Nat) (w w':World):Prop where
 os:w'.os=w.os
 tape:w'.tape=w.tape
 output:w'.output=w.output
 size:w.heap.size≤w'.heap.size
 block:∀k,k<w.heap.size→k<base∨top≤k→w'.heap[k]? = w.heap[k]?
theorem Outs.refl (base top:Nat) (w:World):Outs base top w w:=⟨rfl,rfl,rfl,Nat.le_refl _,fun _ _ _=>rfl⟩
theorem Outs.trans {base top:Nat} {w w1 w2:World} (h:Outs base top w w1) (h2:Outs base top w1 w2):Outs base top w w2 :=
 ⟨h2.os.trans h.os,h2.tape.trans h.tape,h2.output.trans h.output,Nat.le_trans h.size h2.size,fun k hk hn=>(h2.block k (Nat.lt_of_lt_of_le hk h.size) hn).trans (h.block k hk hn)⟩
theorem Outs.below {base top:Nat} {w w1 w2:World} (h:Outs base top w w1) (hb:Below w1.heap.size w1 w2):Outs base top w w2 :=
 h.trans ⟨hb.os,hb.tape,hb.output,hb.size,fun k hk _=>hb.block k hk⟩
theorem Outs.grown {base top:Nat} {w w1 w2:World} {g:Nat} (h:Outs base top w w1) (hg:w1.grownBy w2 (some g)) (h1:base≤g) (h2:g<top):Outs base top w w2 :=
 h.trans ⟨hg.os,hg.tape,hg.output,hg.size,fun k hk hn=>hg.block k hk (by simp;omega)⟩
theorem Outs.bel {base top:Nat} {w w':World} (h:Outs base top w w') {B:Nat} (hB:B≤base) (hw:B≤w.heap.size):Below B w w' :=
 ⟨h.os,h.tape,h.output,by have:=h.size;omega,fun k hk=>h.block k (by omega) (.inl (by omega))⟩
theorem Outs.blk {base top b:Nat} {cs:List Value} {w w':World} (h:Outs base top w w') (hp:Blk b cs w) (hg:b<base∨top≤b):Blk b cs w':=by
 have e:=h.block b hp.1 hg
 exact ⟨Nat.lt_of_lt_of_le hp.1 h.size,fun i hi=>(World.cell?_of_block (a:=⟨b,i,none⟩) e).trans (hp.2 i hi)⟩
theorem gtrans {w w1 w2:World} {g:Option Nat} (h1:w.grownBy w1 g) (h2:w1.grownBy w2 g):w.grownBy w2 g :=
 ⟨h2.os.trans h1.os,h2.tape.trans h1.tape,h2.output.trans h1.output,Nat.le_trans h1.size h2.size,fun k hk hne=>(h2.block k (by have:=h1.size;omega) hne).trans (h1.block k hk hne)⟩
theorem rgrown {w w':World} (hb:Below w.heap.size w w') (row:Option Nat):w.grownBy w' row:=⟨hb.os,hb.tape,hb.output,hb.size,fun k hk _=>hb.block k hk⟩
def mtC (K o:Nat):Option Value:=some (.string (mT (K+o)))
def mhC (K o:Nat):Option Value:=some (.int .i64 ((K+o:Nat):Int))
theorem mark_st {f:Nat→Option Value} {g m j:Nat} {w0 w:World} (hp:Pt g m w) (hm:Wr f j g w) (hg:w0.grownBy w (some g)) (hj:j<m) (v:Value) (hv:f j=some v) :
 Pt g m (w.setCell ⟨g,j,none⟩ v)∧Wr f (j+1) g (w.setCell ⟨g,j,none⟩ v)∧w0.grownBy (w.setCell ⟨g,j,none⟩ v) (some g) :=
 ⟨hp.set _ _,hm.more hp hj v hv,gtrans hg (grown_set _ g _ _)⟩
set_option maxRecDepth 100000 in
set_option maxHeartbeats 4000000 in
theorem markT (g n cap K:Nat) (w:World) (hn:n≤1048576) (hK:1≤K∧K≤10000000) (h0:Pt g n w) :
 Calls Tryz.prog 90 #[.slice (some ⟨g,0,none⟩) n cap,.int .i64 K] w fun e w'=>e=.returned (.int .i64 (K+n:Nat))∧Pt g n w'∧Wr (mtC K) n g w'∧w.grownBy w' (some g):=by
 have HP:=H_ h0
 obtain ⟨k1,k2⟩:=hK
 have HT:Hid (∀(z:Int) (L:Nat),z=L→1≤L→L<100000000→∀w,Calls Tryz.prog 89 #[.int .i64 z] w fun e w'=>e=.returned (.string (mT L))∧Below w.heap.size w w'):=H_ (fun z L e h0 h w=>by subst e;exact mark_any L h0 h w)
 clear h0
 go_enter Tryz.func90,Tryz.ntmps90
 go_wp2_with fail
 go_loopw [5,1] (fun x z wr=>∃i:Nat,x=.int .i64 (i:Int)∧z=.int .i64 ((K:Int)+(i:Int))∧i≤n∧Hid (Pt g n wr)∧Hid (Wr (mtC K) i g wr)∧Hid (w.grownBy wr (some g))) (fun x _ _=>n-(intOf x).toNat)
 case atStart=>exact ⟨0,rfl,by simp,by omega,HP,H_ (fun o ho=>absurd ho (by omega)),H_ ⟨rfl,rfl,rfl,Nat.le_refl _,fun _ _ _=>rfl⟩⟩
 case round =>
  obtain ⟨i,rfl,rfl,hi,HP,HM,HG⟩:=hrel
  by_cases hin:i=n
  ·subst hin
   go_wp2_with fail
   go_ret
   exact ⟨by go_num,HP.out,HM.out,HG.out⟩
  ·have h1:(i:Int)<(n:Int):=by omega
   go_wp2_with fail
   refine (HT.out _ (K+i) (by push_cast;omega) (by omega) (by omega) _).mono ?_
   rintro e w1 ⟨rfl,hb⟩
   have HP1:=H_ (HP.out.below hb)
   have HM1:=H_ (HM.out.below HP.out hb)
   have HG1:=H_ (gtrans HG.out (rgrown hb _))
   obtain ⟨v0,c0⟩:=HP1.out.has i (by omega)
   have f0:=HP1.out.free i (by omega)
   have HS:=H_ (mark_st HP1.out HM1.out HG1.out (by omega) (.string (mT (K+i))) rfl)
   clear hb HP HM HG HP1 HM1 HG1
   go_wp2_with fail
   go_roundw
   case rel=>exact ⟨i+1,by go_num,by (congr 1)<;>omega,by omega,H_ HS.out.1,H_ HS.out.2.1,H_ HS.out.2.2⟩
   case measure=>simp [intOf];omega
set_option maxRecDepth 100000 in
set_option maxHeartbeats 4000000 in
theorem markH (g n cap K:Nat) (w:World) (hn:n≤1048576) (hK:1≤K∧K≤20000000) (h0:Pt g (n*2) w) :
 Calls Tryz.prog 91 #[.slice (some ⟨g,0,none⟩) n cap,.int .i64 K] w fun e w'=>e=.returned (.int .i64 (K+2*n:Nat))∧Pt g (n*2) w'∧Wr (mhC K) (n*2) g w'∧w.grownBy w' (some g):=by
 have HP:=H_ h0
 obtain ⟨k1,k2⟩:=hK
 clear h0
 go_enter Tryz.func91,Tryz.ntmps91
 go_wp2_with fail
 go_loopw [5,1] (fun x z wr=>∃i:Nat,x=.int .i64 (i:Int)∧z=.int .i64 ((K:Int)+2*(i:Int))∧i≤n∧Hid (Pt g (n*2) wr)∧Hid (Wr (mhC K) (i*2) g wr)∧Hid (w.grownBy wr (some g))) (fun x _ _=>n-(intOf x).toNat)
 case atStart=>exact ⟨0,rfl,by simp,by omega,HP,H_ (fun o ho=>absurd ho (by omega)),H_ ⟨rfl,rfl,rfl,Nat.le_refl _,fun _ _ _=>rfl⟩⟩
 case round =>
  obtain ⟨i,rfl,rfl,hi,HP,HM,HG⟩:=hrel
  by_cases hin:i=n
  ·subst hin
   go_wp2_with fail
   go_ret
   exact ⟨by go_num,HP.out,HM.out,HG.out⟩
  ·have h1:(i:Int)<(n:Int):=by omega
   obtain ⟨v0,c0⟩:=HP.out.has (i*2) (by omega)
   have f0:=HP.out.free (i*2) (by omega)
   obtain ⟨v1,c1⟩:=HP.out.has (i*2+1) (by omega)
   have f1:=HP.out.free (i*2+1) (by omega)
   have HS:=H_ (mark_st HP.out HM.out HG.out (by omega) (.int .i64 ((K:Int)+2*(i:Int))) (by unfold mhC;congr 2;push_cast;omega))
   have HS2:=H_ (mark_st HS.out.1 HS.out.2.1 HS.out.2.2 (by omega) (.int .i64 ((K:Int)+2*(i:Int)+1)) (by unfold mhC;congr 2;push_cast;omega))
   clear HP HM HG HS
   go_wp2_with fail
   go_roundw
   case rel=>exact ⟨i+1,by go_num,by (congr 1)<;>omega,by omega,H_ HS2.out.1,H_ (by rw [show (i+1)*2=i*2+1+1 by omega];exact HS2.out.2.1),H_ HS2.out.2.2⟩
   case measure=>simp [intOf];omega
def MTx (w:World) (g o:Nat) (t0:ByteArray) (W:World):Prop:=Below w.heap.size w W∧g<W.heap.size∧W.cell? ⟨g,o,none⟩=some (.string t0)
theorem MTx.below {w w1 w2:World} {g o:Nat} {t0:ByteArray} (h:MTx w g o t0 w1) (hb:Below w1.heap.size w1 w2):MTx w g o t0 w2 :=
 ⟨h.1.trans (hb.mono h.1.size),Nat.lt_of_lt_of_le h.2.1 hb.size,(hb.cell (p:=⟨g,o,none⟩) h.2.1).trans h.2.2⟩
set_option maxRecDepth 100000 in
set_option maxHeartbeats 4000000 in
theorem heldT (g n cap K:Nat) (w:World) (hn:n≤1048576) (hK:1≤K∧K≤10000000) (h0:g<w.heap.size) (hm:Wr (mtC K) n g w) :
 Calls Tryz.prog 147 #[.slice (some ⟨g,0,none⟩) n cap,.int .i64 K] w fun e w'=>e=.returned (.int .i64 (K+n:Nat))∧Below w.heap.size w w':=by
 have HP:=H_ h0
 have HM:=H_ hm
 obtain ⟨k1,k2⟩:=hK
 clear h0 hm
 go_enter Tryz.func147,Tryz.ntmps147
 go_wp2_with fail
 go_loopw [5,1] (fun x z wr=>∃i:Nat,x=.int .i64 (i:Int)∧z=.int .i64 ((K:Int)+(i:Int))∧i≤n∧Hid (Below w.heap.size w wr)) (fun x _ _=>n-(intOf x).toNat)
 case atStart=>exact ⟨0,rfl,by simp,by omega,H_ (Below.refl _ _)⟩
 case round =>
  obtain ⟨i,rfl,rfl,hi,HB⟩:=hrel
  by_cases hin:i=n
  ·subst hin
   go_wp2_with fail
   go_ret
   exact ⟨by go_num,HB.out⟩
  ·have h1:(i:Int)<(n:Int):=by omega
   have q0:wr.cell? ⟨g,i,none⟩=some (.string (mT (K+i))):=(HB.out.cell (p:=⟨g,i,none⟩) HP.out).trans (HM.out i (by omega))
   have HT0:Hid (∀w,Calls Tryz.prog 89 #[.int .i64 ((K:Int)+(i:Int))] w fun e w'=>e=.returned (.string (mT (K+i)))∧Below w.heap.size w w'):=H_ (fun w=>by have:=mark_any (K+i) (by omega) (by omega) w;rw [show ((K+i:Nat):Int)=(K:Int)+(i:Int) by omega] at this;exact this)
   generalize mT (K+i)=T0 at *
   have hgl:g<wr.heap.size:=Nat.lt_of_lt_of_le HP.out HB.out.size
   have HS0:Hid (MTx w g i T0 wr.drew):=H_ (MTx.below ⟨HB.out,hgl,q0⟩ (Below.refl _ _).drew)
   go_wp2_with fail
   go_region_held3 (fun w'=>Below w.heap.size w w'∧g<w'.heap.size∧w'.cell? ⟨g,i,none⟩=some (.string T0)) (first|assumption|(exact HS0.out)|(exact MTx.below (w:=w) (g:=g) (o:=i) (t0:=T0) (by assumption) hb))
    (first|(go_at_call 89;refine (HT0.out _).mono ?_;rintro e w' ⟨rfl,hb⟩))
   rename_i hS
   have HB2:=H_ hS.1
   clear hS HS0 q0
   go_wp2_with fail
   go_roundw
   case rel=>exact ⟨i+1,by go_num,by (congr 1)<;>omega,by omega,HB2⟩
   case measure=>simp [intOf];omega
set_option maxRecDepth 100000 in
set_option maxHeartbeats 4000000 in
theorem heldH (g n cap K:Nat) (w:World) (hn:n≤1048576) (hK:1≤K∧K≤20000000) (h0:g<w.heap.size) (hm:Wr (mhC K) (n*2) g w) :
 Calls Tryz.prog 148 #[.slice (some ⟨g,0,none⟩) n cap,.int .i64 K] w fun e w'=>e=.returned (.int .i64 (K+2*n:Nat))∧Below w.heap.size w w':=by
 have HP:=H_ h0
 have HM:=H_ hm
 obtain ⟨k1,k2⟩:=hK
 clear h0 hm
 go_enter Tryz.func148,Tryz.ntmps148
 go_wp2_with fail
 go_loopw [5,1] (fun x z wr=>∃i:Nat,x=.int .i64 (i:Int)∧z=.int .i64 ((K:Int)+2*(i:Int))∧i≤n∧Hid (Below w.heap.size w wr)) (fun x _ _=>n-(intOf x).toNat)
 case atStart=>exact ⟨0,rfl,by simp,by omega,H_ (Below.refl _ _)⟩
 case round =>
  obtain ⟨i,rfl,rfl,hi,HB⟩:=hrel
  by_cases hin:i=n
  ·subst hin
   go_wp2_with fail
   go_ret
   exact ⟨by go_num,HB.out⟩
  ·have h1:(i:Int)<(n:Int):=by omega
   have q0:wr.cell? ⟨g,i*2,none⟩=some (.int .i64 ((K:Int)+2*(i:Int))):=((HB.out.cell (p:=⟨g,i*2,none⟩) HP.out).trans (HM.out (i*2) (by omega))).trans (by unfold mhC;congr 2;push_cast;omega)
   have q1:wr.cell? ⟨g,i*2+1,none⟩=some (.int .i64 ((K:Int)+2*(i:Int)+1)):=((HB.out.cell (p:=⟨g,i*2+1,none⟩) HP.out).trans (HM.out (i*2+1) (by omega))).trans (by unfold mhC;congr 2;push_cast;omega)
   go_wp2_with fail
   try (go_quiet (fail);go_wp2_with fail)
   go_roundw
   case rel=>exact ⟨i+1,by go_num,by (congr 1)<;>omega,by omega,H_ (by first|exact HB.out|exact bdN HB.out _)⟩
   case measure=>simp [intOf];omega
set_option maxHeartbeats 4000000 in
theorem nil_any (f:Nat) (hf:f=90∨f=91∨f=147∨f=148) (ao:Option Addr) (cap K:Nat) (w:World) (hK:K≤20000000):Calls Tryz.prog f #[.slice ao 0 cap,.int .i64 K] w fun e w'=>e=.returned (.int .i64 K)∧Below w.heap.size w w':=by
 rcases hf with rfl|rfl|rfl|rfl
 ·go_enter Tryz.func90,Tryz.ntmps90
  go_wp2_with fail
  go_loopw [5,1] (fun x z wr=>x=.int .i64 0∧z=.int .i64 (K:Int)∧Hid (Below w.heap.size w wr)) (fun x _ _=>0)
  case atStart=>exact ⟨rfl,rfl,H_ (Below.refl _ _)⟩
  case round =>
   obtain ⟨rfl,rfl,HB⟩:=hrel
   go_wp2_with fail
   go_ret
   exact ⟨rfl,HB.out⟩
 ·go_enter Tryz.func91,Tryz.ntmps91
  go_wp2_with fail
  go_loopw [5,1] (fun x z wr=>x=.int .i64 0∧z=.int .i64 (K:Int)∧Hid (Below w.heap.size w wr)) (fun x _ _=>0)
  case atStart=>exact ⟨rfl,rfl,H_ (Below.refl _ _)⟩
  case round =>
   obtain ⟨rfl,rfl,HB⟩:=hrel
   go_wp2_with fail
   go_ret
   exact ⟨rfl,HB.out⟩
 ·go_enter Tryz.func147,Tryz.ntmps147
  go_wp2_with fail
  go_loopw [5,1] (fun x z wr=>x=.int .i64 0∧z=.int .i64 (K:Int)∧Hid (Below w.heap.size w wr)) (fun x _ _=>0)
  case atStart=>exact ⟨rfl,rfl,H_ (Below.refl _ _)⟩
  case round =>
   obtain ⟨rfl,rfl,HB⟩:=hrel
   go_wp2_with fail
   go_ret
   exact ⟨rfl,HB.out⟩
 ·go_enter Tryz.func148,Tryz.ntmps148
  go_wp2_with fail
  go_loopw [5,1] (fun x z wr=>x=.int .i64 0∧z=.int .i64 (K:Int)∧Hid (Below w.heap.size w wr)) (fun x _ _=>0)
  case atStart=>exact ⟨rfl,rfl,H_ (Below.refl _ _)⟩
  case round =>
   obtain ⟨rfl,rfl,HB⟩:=hrel
   go_wp2_with fail
   go_ret
   exact ⟨rfl,HB.out⟩
def MkdW (ta ha:Option Addr) (tl hl K:Nat) (w:World):Prop:=(tl=0∨∃g,ta=some ⟨g,0,none⟩∧Pt g tl w∧Wr (mtC K) tl g w)∧(hl=0∨∃g,ha=some ⟨g,0,none⟩∧Pt g (hl*2) w∧Wr (mhC (K+tl)) (hl*2) g w)
theorem MkdW.below {ta ha:Option Addr} {tl hl K:Nat} {w w':World} (h:MkdW ta ha tl hl K w) (hb:Below w.heap.size w w'):MkdW ta ha tl hl K w' :=
 ⟨h.1.imp id (fun ⟨g,e,p,q⟩=>⟨g,e,p.below hb,q.below p hb⟩),h.2.imp id (fun ⟨g,e,p,q⟩=>⟨g,e,p.below hb,q.below p hb⟩)⟩
end WinR
end Go.Proofs.YtnceeaccbcfopaaGreatDoor
