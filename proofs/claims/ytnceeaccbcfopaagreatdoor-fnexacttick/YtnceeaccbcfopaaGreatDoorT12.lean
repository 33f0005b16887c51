/-
  What marking a list of entries of one's own promises. The conditions: at most 1048576 entries, the marks below 5300001.
-/
import Derived.Deep.RegionHeld3
import Derived.Test.YtnceeaccbcfopaaGreatDoorT11
namespace Go.Proofs.YtnceeaccbcfopaaGreatDoor
open Go.ChangeShapes Go.WideShapes Go.ChangeAt Go.RowKit
set_option linter.unusedVariables false
namespace ChG
open EvtR (Pt)
theorem own_k {w:World} {base T size n:Nat} {a:Option Addr} {c:Nat} {xs:List Value} (h:w.ownsRow base T size (.slice a n c) n xs):n=0∨∃g,a=some ⟨g,0,none⟩∧base≤g∧Pt g (n*size) w:=by
 rcases h.2 with ⟨h0,h1⟩|⟨g,cap,cur,hv,hg,hh,hc,_,hz,hcur⟩
 ·exact .inl h1
 ·have hl:=(h.lt g (by rw [hv];rfl)).2
  cases hv
  have hm:n*size≤cur.size:=by rw [hz];exact Nat.mul_le_mul_right _ hc
  refine .inr ⟨g,rfl,hg,hl,fun o ho=>?_,fun o ho=>?_⟩
  ·exact ⟨cur[o]'(by omega),by simp [World.cell?,hh,show o<cur.size by omega]⟩
  ·simp [World.frozen?,hh]
def T0 (v:Value) (b:Nat):Prop:=v.ownBlock=some b
theorem wr_blk {f:Nat→Option Value} {n g:Nat} {w w':World} (h:RowG.Wr f n g w) (hb:w'.heap[g]? = w.heap[g]?):RowG.Wr f n g w':=fun o ho=>(World.cell?_of_block (a:=⟨g,o,none⟩) hb).trans (h o ho)
theorem Hd.chg {hf:Nat} {v:Value} {K K':Nat} {T S:Nat→Prop} {w w':World} (h:Hd hf v K K' T w) (hc:Chg S w w') (hS:∀b,S b→¬T b):Hd hf v K K' T w':=fun S2 Y hc2 hS2=>h _ Y (hc.join hc2) (fun b q=>q.elim (hS b) (hS2 b))
theorem MkH.chg {mf hf:Nat} {v:Value} {K K':Nat} {T S:Nat→Prop} {w w':World} (h:MkH mf hf v K K' T w) (hc:Chg S w w') (hS:∀b,S b→¬T b):MkH mf hf v K K' T w':=fun S2 Y hc2 hS2=>h _ Y (hc.join hc2) (fun b q=>q.elim (hS b) (hS2 b))
end ChG
namespace SeenR
open RowG ChG
open EvtR (Pt)
open MarkR (mk mT mark_any)
def kC (K o:Nat):Option Value:=([.string (mT (K+3*(o / 3))),.int .i64 ((K:Int)+3*((o / 3:Nat):Int)+1),.int .i64 ((K:Int)+3*((o / 3:Nat):Int)+1+1)]:List Value)[o % 3]?
theorem kC_at (K i x:Nat) (hx:x<3):kC K (i*3+x)=([.string (mT (K+3*i)),.int .i64 ((K:Int)+3*(i:Int)+1),.int .i64 ((K:Int)+3*(i:Int)+1+1)]:List Value)[x]?:=by
 have e1:(i*3+x) / 3=i:=by omega
 have e2:(i*3+x) % 3=x:=by omega
 unfold kC
 rw [e1,e2]
theorem kgr {w w':World} (hb:Below w.heap.size w w') (row:Option Nat):w.grownBy w' row:=⟨hb.os,hb.tape,hb.output,hb.size,fun k hk _=>hb.block k hk⟩
theorem kgt {w w1 w2:World} {g:Option Nat} (h1:w.grownBy w1 g) (h2:w1.grownBy w2 g):w.grownBy w2 g :=
 ⟨h2.os.trans h1.os,h2.tape.trans h1.tape,h2.output.trans h1.output,Nat.le_trans h1.size h2.size,fun k hk hne=>(h2.block k (by have:=h1.size;omega) hne).trans (h1.block k hk hne)⟩
theorem kstep {K g m i:Nat} {w0 w:World} (hp:Pt g m w) (x:Nat) (hm:Wr (kC K) (i*3+x) g w) (hg:w0.grownBy w (some g)) (hx:x<3) (hj:i*3+x<m) (v:Value) (hv:([.string (mT (K+3*i)),.int .i64 ((K:Int)+3*(i:Int)+1),.int .i64 ((K:Int)+3*(i:Int)+1+1)]:List Value)[x]? = some v) :
 Pt g m (w.setCell ⟨g,i*3+x,none⟩ v)∧Wr (kC K) (i*3+(x+1)) g (w.setCell ⟨g,i*3+x,none⟩ v)∧w0.grownBy (w.setCell ⟨g,i*3+x,none⟩ v) (some g) :=
 ⟨hp.set _ _,hm.more hp hj v ((kC_at K i x hx).trans hv),kgt hg (grown_set _ g _ _)⟩
set_option maxRecDepth 100000 in
set_option maxHeartbeats 4000000 in
theorem entM (K:Nat) (hK0:1≤K) (hK:K≤6000000) (g n cap:Nat) (w:World) (hn:n≤1048576) (h0:Pt g (n*3) w) :
 Calls Tryz.prog 40 #[.slice (some ⟨g,0,none⟩) n cap,.int .i64 K] w fun e w'=>e=.returned (.int .i64 (K+3*n:Nat))∧Pt g (n*3) w'∧Wr (kC K) (n*3) g w'∧w.grownBy w' (some g):=by
 have HP:=H_ h0
 have HT:Hid (∀(z:Int) (K:Nat),z=K→1≤K→K<100000000→∀w,Calls Tryz.prog 89 #[.int .i64 z] w fun e w'=>e=.returned (.string (mT K))∧Below w.heap.size w w'):=H_ (fun z K e h0 h w=>by subst e;exact mark_any K h0 h w)
 clear h0
 go_enter Tryz.func40,Tryz.ntmps40
 go_wp2_with fail
 go_loopw [5,1] (fun x z wr=>∃i:Nat,x=.int .i64 (i:Int)∧z=.int .i64 ((K:Int)+3*(i:Int))∧i≤n∧Hid (Pt g (n*3) wr)∧Hid (Wr (kC K) (i*3) g wr)∧Hid (w.grownBy wr (some g))) (fun x _ _=>n-(intOf x).toNat)
 case atStart=>exact ⟨0,rfl,by go_num,by omega,HP,H_ (fun o ho=>absurd ho (by omega)),H_ ⟨rfl,rfl,rfl,Nat.le_refl _,fun _ _ _=>rfl⟩⟩
 case round =>
  obtain ⟨i,rfl,rfl,hi,HP,HM,HG⟩:=hrel
  by_cases hin:i=n
  ·subst hin
   go_wp2_with fail
   go_ret
   exact ⟨by go_num,HP.out,HM.out,HG.out⟩
  ·have h1:(i:Int)<(n:Int):=by omega
   go_wp2_with fail
   refine (HT.out _ (K+3*i) (by push_cast;omega) (by omega) (by omega) _).mono ?_
   rintro e w1 ⟨rfl,hb⟩
   have HP1:=H_ (HP.out.below hb)
   have HM1:=H_ (HM.out.below HP.out hb)
   have HG1:=H_ (kgt HG.out (kgr hb _))
   obtain ⟨v0,c0⟩:=HP1.out.has (i*3) (by omega)
   have f0:=HP1.out.free (i*3) (by omega)
   obtain ⟨v1,c1⟩:=HP1.out.has (i*3+1) (by omega)
   have f1:=HP1.out.free (i*3+1) (by omega)
   obtain ⟨v2,c2⟩:=HP1.out.has (i*3+2) (by omega)
   have f2:=HP1.out.free (i*3+2) (by omega)
   have HS:=H_ (kstep (i:=i) HP1.out 0 HM1.out HG1.out (by omega) (by omega) (.string (mT (K+3*i))) rfl)
   have HS2:=H_ (kstep (i:=i) HS.out.1 1 HS.out.2.1 HS.out.2.2 (by omega) (by omega) (.int .i64 ((K:Int)+3*(i:Int)+1)) rfl)
   have HS3:=H_ (kstep (i:=i) HS2.out.1 2 HS2.out.2.1 HS2.out.2.2 (by omega) (by omega) (.int .i64 ((K:Int)+3*(i:Int)+1+1)) rfl)
   clear hb HP HM HG HP1 HM1 HG1 HS HS2
   go_wp2_with fail
   go_roundw
   case rel=>exact ⟨i+1,by go_num,by go_num,by omega,H_ HS3.out.1,H_ (by have:=HS3.out.2.1;rw [show (i+1)*3=i*3+(2+1) by omega];exact this),H_ HS3.out.2.2⟩
   case measure=>simp [intOf];omega
def kBx (w:World) (g o:Nat) (t0:ByteArray) (n k:Int) (w':World):Prop:=Below w.heap.size w w'∧g<w'.heap.size∧w'.cell? ⟨g,o,none⟩=some (.string t0)∧w'.cell? ⟨g,o+1,none⟩=some (.int .i64 n)∧w'.cell? ⟨g,o+2,none⟩=some (.int .i64 k)
theorem kBx.below {w w1 w2:World} {g o:Nat} {t0:ByteArray} {n k:Int} (h:kBx w g o t0 n k w1) (hb:Below w1.heap.size w1 w2):kBx w g o t0 n k w2:=by
 obtain ⟨h0,hl,c0,c1,c2⟩:=h
 have c:=fun x=>hb.cell (p:=⟨g,x,none⟩) hl
 exact ⟨h0.trans (hb.mono h0.size),by have:=hb.size;omega,(c _).trans c0,(c _).trans c1,(c _).trans c2⟩
theorem kBx.drew {w w1:World} {g o:Nat} {t0:ByteArray} {n k:Int} (h:kBx w g o t0 n k w1):kBx w g o t0 n k w1.drew:=⟨h.1.drew,h.2⟩
set_option maxRecDepth 100000 in
set_option maxHeartbeats 4000000 in
theorem entH (K:Nat) (hK0:1≤K) (hK:K≤6000000) (g n cap:Nat) (w:World) (hn:n≤1048576) (hg:g<w.heap.size) (hm:Wr (kC K) (n*3) g w) :
 Calls Tryz.prog 95 #[.slice (some ⟨g,0,none⟩) n cap,.int .i64 K] w fun e w'=>e=.returned (.int .i64 (K+3*n:Nat))∧Below w.heap.size w w':=by
 have HP:=H_ hg
 have HM:=H_ hm
 have HT:Hid (∀(z:Int) (K:Nat),z=K→1≤K→K<100000000→∀w,Calls Tryz.prog 89 #[.int .i64 z] w fun e w'=>e=.returned (.string (mT K))∧Below w.heap.size w w'):=H_ (fun z K e h0 h w=>by subst e;exact mark_any K h0 h w)
 clear hg hm
 go_enter Tryz.func95,Tryz.ntmps95
 go_wp2_with fail
 go_loopw [5,1] (fun x z wr=>∃i:Nat,x=.int .i64 (i:Int)∧z=.int .i64 ((K:Int)+3*(i:Int))∧i≤n∧Hid (Below w.heap.size w wr)) (fun x _ _=>n-(intOf x).toNat)
 case atStart=>exact ⟨0,rfl,by go_num,by omega,H_ (Below.refl _ _)⟩
 case round =>
  obtain ⟨i,rfl,rfl,hi,HB⟩:=hrel
  by_cases hin:i=n
  ·subst hin
   go_wp2_with fail
   go_ret
   exact ⟨by go_num,HB.out⟩
  ·have h1:(i:Int)<(n:Int):=by omega
   have HC:Hid (∀x,x<3→wr.cell? ⟨g,i*3+x,none⟩=kC K (i*3+x)):=H_ (fun x hx=>(HB.out.cell (p:=⟨g,i*3+x,none⟩) HP.out).trans (HM.out (i*3+x) (by omega)))
   have q0:wr.cell? ⟨g,i*3,none⟩=some (.string (mT (K+3*i))):=(HC.out 0 (by omega)).trans (kC_at K i 0 (by omega))
   have q1:wr.cell? ⟨g,i*3+1,none⟩=some (.int .i64 ((K:Int)+3*(i:Int)+1)):=(HC.out 1 (by omega)).trans (kC_at K i 1 (by omega))
   have q2:wr.cell? ⟨g,i*3+2,none⟩=some (.int .i64 ((K:Int)+3*(i:Int)+1+1)):=(HC.out 2 (by omega)).trans (kC_at K i 2 (by omega))
   have HT0:=H_ (fun w=>HT.out ((K:Int)+3*(i:Int)) (K+3*i) (by push_cast;omega) (by omega) (by omega) w)
   clear HC
   generalize mT (K+3*i)=T0 at *
   have HS0:Hid (kBx w g (i*3) T0 ((K:Int)+3*(i:Int)+1) ((K:Int)+3*(i:Int)+1+1) wr):=H_ ⟨HB.out,by have:=HB.out.size;have:=HP.out;omega,q0,q1,q2⟩
   have HS1:=H_ HS0.out.drew
   go_wp2_with fail
   go_region_held3 (fun w'=>Below w.heap.size w w'∧g<w'.heap.size∧w'.cell? ⟨g,i*3,none⟩=some (.string T0)∧w'.cell? ⟨g,i*3+1,none⟩=some (.int .i64 ((K:Int)+3*(i:Int)+1))∧w'.cell? ⟨g,i*3+2,none⟩=some (.int .i64 ((K:Int)+3*(i:Int)+1+1))) (first|assumption|(exact HS0.out)|(exact HS1.out)|(exact kBx.below (w:=w) (g:=g) (o:=i*3) (t0:=T0) (n:=(K:Int)+3*(i:Int)+1) (k:=(K:Int)+3*(i:Int)+1+1) (by assumption) hb))
    (first|(go_at_call 89;refine (HT0.out _).mono ?_;rintro e w' ⟨rfl,hb⟩))
   rename_i hS
   replace HS0:=H_ hS
   have q0:=HS0.out.2.2.1
   have q1:=HS0.out.2.2.2.1
   have q2:=HS0.out.2.2.2.2
   clear hS HS1
   have HB2:=H_ HS0.out.1
   go_wp2_with fail
   go_roundw
   case rel=>exact ⟨i+1,by go_num,by go_num,by omega,HB2⟩
   case measure=>simp [intOf];omega
theorem mkh_ens {w:World} {base T n K:Nat} {a:Option Addr} {c:Nat} {xs:List Value} (hz:∀K:Nat,MkH 40 95 (.slice a 0 c) K K (fun _=>False) w) (h:w.ownsRow base T 3 (.slice a n c) n xs) (hK0:1≤K) (hK:K≤5300001) (hn:n≤1048576):MkH 40 95 (.slice a n c) K (K+3*n) (ChG.T0 (.slice a n c)) w:=by
 intro S W hc hS
 rcases own_k h with h0|⟨g,rfl,hg,hp⟩
 ·subst h0
  refine (hz K S W hc (fun _ _ q=>q)).mono ?_
  rintro e w' ⟨rfl,hc2,hh⟩
  exact ⟨rfl,hc2.wide (fun _ q=>q.elim),fun S' Y hc3 _=>hh S' Y hc3 (fun _ _ q=>q)⟩
 ·have hp2:=hc.pt hp (fun q=>hS g q rfl)
  refine (entM K hK0 (by omega) g n c W hn hp2).mono ?_
  rintro e w' ⟨rfl,hp3,hM,hg2⟩
  refine ⟨rfl,(Chg.refl _ _).grown hg2 rfl,fun S' Y hc2 hS2=>?_⟩
  have eb:=hc2.block g hp3.lt (fun q=>hS2 g q rfl)
  exact entH K hK0 (by omega) g n c Y hn (Nat.lt_of_lt_of_le hp3.lt hc2.size) (wr_blk hM eb)
end SeenR
end Go.Proofs.YtnceeaccbcfopaaGreatDoor
