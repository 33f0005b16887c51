/-
  The law's own marks in a catalog and in a meter's tiers: written, and found again. The condition: all is small.
-/
import Derived.Lib.ConvBytes
import Derived.Laws.BytesArg
import Derived.Test.YtnceeaccbcfopaaGreatDoorT106
namespace Go.Proofs.YtnceeaccbcfopaaGreatDoor
open Go.ChangeShapes Go.WideShapes Go.ChangeAt Go.RowKit
set_option linter.unusedVariables false
namespace CatR
open EvtR (Pt)
structure Outs (base top:Nat) (w w':World):Prop where
 os:w'.os=w.os
 tape:w'.tape=w.tape
 output:w'.output=w.output
 size:w.heap.size≤w'.heap.size
 block:∀k,k<w.heap.size→(k<base∨top≤k)→w'.heap[k]? = w.heap[k]?
theorem Outs.refl (base top:Nat) (w:World):Outs base top w w:=⟨rfl,rfl,rfl,Nat.le_refl _,fun _ _ _=>rfl⟩
theorem Outs.trans {base top:Nat} {w w1 w2:World} (h:Outs base top w w1) (h2:Outs base top w1 w2):Outs base top w w2 :=
 ⟨h2.os.trans h.os,h2.tape.trans h.tape,h2.output.trans h.output,Nat.le_trans h.size h2.size,fun k hk hb=>(h2.block k (by have:=h.size;omega) hb).trans (h.block k hk hb)⟩
theorem Outs.below {base top:Nat} {w w1 w2:World} (h:Outs base top w w1) (hb:Below w1.heap.size w1 w2):Outs base top w w2 :=
 h.trans ⟨hb.os,hb.tape,hb.output,hb.size,fun k hk _=>hb.block k hk⟩
theorem Outs.grown {base top:Nat} {w w1 w2:World} {g:Nat} (h:Outs base top w w1) (hg:w1.grownBy w2 (some g)) (h1:base≤g) (h2:g<top):Outs base top w w2 :=
 h.trans ⟨hg.os,hg.tape,hg.output,hg.size,fun k hk hb=>hg.block k hk (fun e=>by simp at e;omega)⟩
theorem Outs.put {base top:Nat} {w w1:World} (h:Outs base top w w1) (g o:Nat) (v:Value) (h1:base≤g) (h2:g<top):Outs base top w (w1.setCell ⟨g,o,none⟩ v):=h.grown (RowG.grown_set w1 g o v) h1 h2
theorem pt_any {g m:Nat} {w:World} (h:Pt g m w) (b o:Nat) (v:Value):Pt g m (w.setCell ⟨b,o,none⟩ v):=by
 by_cases e:b=g
 ·subst e;exact h.set o v
 ·exact h.far e o v
theorem pt_gr {g m b:Nat} {w w':World} (h:Pt g m w) (hg:w.grownBy w' (some b)) (hp:b=g→Pt g m w'):Pt g m w':=by
 by_cases e:b=g
 ·exact hp e
 ·have e2:=hg.block g h.lt (fun q=>e (by simpa using q.symm))
  exact ⟨by have:=hg.size;have:=h.lt;omega,fun o ho=>by obtain ⟨v,hv⟩:=h.has o ho;exact ⟨v,(World.cell?_of_block (a:=⟨g,o,none⟩) e2).trans hv⟩,fun o ho=>(World.frozen?_of_block (a:=⟨g,o,none⟩) e2).trans (h.free o ho)⟩
def mTi (K o:Nat):Option Value:=some (.int .i64 ((K+o:Nat):Int))
set_option maxRecDepth 100000 in
set_option maxHeartbeats 4000000 in
theorem markTis (g n cap K:Nat) (w:World) (hn:n≤1048576) (hK:K≤1000000000000000) (h0:Pt g (n*2) w) :
 Calls Tryz.prog 144 #[.slice (some ⟨g,0,none⟩) n cap,.int .i64 K] w fun e w'=>e=.returned (.int .i64 (K+2*n:Nat))∧Pt g (n*2) w'∧RowG.Wr (mTi K) (n*2) g w'∧w.grownBy w' (some g):=by
 have HP:=H_ h0
 clear h0
 go_enter Tryz.func144,Tryz.ntmps144
 go_wp2_with fail
 go_loopw [5,1] (fun x z wr=>∃i:Nat,x=.int .i64 (i:Int)∧z=.int .i64 ((K:Int)+2*(i:Int))∧i≤n∧Hid (Pt g (n*2) wr)∧Hid (RowG.Wr (mTi K) (i*2) g wr)∧Hid (w.grownBy wr (some g))) (fun x _ _=>n-(intOf x).toNat)
 case atStart=>exact ⟨0,rfl,by go_num,by omega,HP,H_ (fun o ho=>absurd ho (by omega)),H_ ⟨rfl,rfl,rfl,Nat.le_refl _,fun _ _ _=>rfl⟩⟩
 case round =>
  obtain ⟨i,rfl,rfl,hi,HP,HM,HG⟩:=hrel
  by_cases hin:i=n
  ·subst hin
   go_wp2_with fail
   go_ret
   exact ⟨by go_num,HP.out,HM.out,HG.out⟩
  ·have h1:(i:Int)<(n:Int):=by omega
   obtain ⟨v0,c0⟩:=HP.out.has (i*2) (by omega)
   have f0:=HP.out.free (i*2) (by omega)
   obtain ⟨v1,c1⟩:=HP.out.has (i*2+1) (by omega)
   have f1:=HP.out.free (i*2+1) (by omega)
   have HM1:=H_ (HM.out.more HP.out (by omega) (.int .i64 ((K:Int)+2*(i:Int))) (by unfold mTi;congr 2;omega))
   have HP1:=H_ (HP.out.set (i*2) (.int .i64 ((K:Int)+2*(i:Int))))
   have HM2:=H_ (HM1.out.more HP1.out (by omega) (.int .i64 ((K:Int)+2*(i:Int)+1)) (by unfold mTi;congr 2;omega))
   have HP2:=H_ (HP1.out.set (i*2+1) (.int .i64 ((K:Int)+2*(i:Int)+1)))
   have HG2:=H_ (gtr (gtr HG.out (RowG.grown_set wr g (i*2) (.int .i64 ((K:Int)+2*(i:Int))))) (RowG.grown_set _ g (i*2+1) (.int .i64 ((K:Int)+2*(i:Int)+1))))
   clear HP HM HG HM1 HP1
   go_wp2_with fail
   go_roundw
   case rel=>exact ⟨i+1,by go_num,by go_num,by omega,HP2,H_ (by rw [show (i+1)*2=i*2+1+1 by omega];exact HM2.out),HG2⟩
   case measure=>simp [intOf];omega
theorem conv_x (w:World) (z:Int):(convert 205 9 (.slice (some ⟨w.heap.size,0,none⟩) 1 1)).run Tryz.prog (w.alloc (Obj.cells #[.int .u8 z] 5))=.ok (.string (strOfNums [z])) (w.alloc (Obj.cells #[.int .u8 z] 5)):=by
 refine run_convert_bytes_arg _ 205 5 Tryz.underlying205 Tryz.underlying5 w.heap.size 0 1 1 _ rfl ?_ 9 Tryz.underlying9
 intro i hi
 match i,hi with
 | 0,_=>simp [go_sem]
set_option maxRecDepth 100000 in
set_option maxHeartbeats 4000000 in
theorem mark_some (K:Nat) (h0:1≤K) (h:K<1000000000000000000) (w:World):Calls Tryz.prog 89 #[.int .i64 K] w fun e w'=>(∃T,e=.returned (.string T))∧Below w.heap.size w w':=by
 have h1:¬(K:Int)≤0:=by omega
 go_enter Tryz.func89,Tryz.ntmps89
 go_wp2_with fail
 go_loopw [0,3] (fun x z wr=>∃(f k:Nat) (out:ByteArray),x=.int .i64 (k:Int)∧z=.string out∧k<10 ^ f∧f≤18∧out.size+f=18∧Hid (Below w.heap.size w wr)) (fun x _ _=>(intOf x).toNat)
 case atStart=>exact ⟨18,K,⟨#[]⟩,rfl,rfl,by omega,by omega,rfl,H_ (Below.refl _ _)⟩
 case round =>
  obtain ⟨f,k,out,rfl,rfl,hk,hf,hz,HB⟩:=hrel
  by_cases hk0:k=0
  ·subst hk0
   have q1:¬9223372036854775807<1+out.size:=by omega
   go_wp2_with fail
   go_ret
   exact ⟨⟨_,rfl⟩,HB.out⟩
  ·obtain ⟨g,rfl⟩:∃g,f=g+1:=⟨f-1,by rcases f with _|f;simp at hk;omega;omega⟩
   have hk2:k / 10<10 ^ g:=by rw [Nat.pow_succ] at hk;omega
   have hkb:k<1000000000000000000:=by
    have:10 ^ (g+1)≤10 ^ 18:=Nat.pow_le_pow_right (by omega) hf
    omega
   have k1:(0:Int)<(k:Int):=by omega
   have e1:(k:Int) % 10=((k % 10:Nat):Int):=by omega
   have e2:(k:Int) / 10=((k / 10:Nat):Int):=by omega
   have e3:(k:Int).tmod 10=((k % 10:Nat):Int):=by rw [Int.tmod_eq_emod_of_nonneg (by omega)];omega
   have e4:(k:Int).tdiv 10=((k / 10:Nat):Int):=by rw [Int.tdiv_eq_ediv_of_nonneg (by omega)];omega
   have d10:k % 10<10:=by omega
   have dk:k / 10<k:=by omega
   have hC:(strOfNums [48+((k % 10:Nat):Int)]).size=1:=strOfNums_size _
   have hcv:=conv_x wr (48+((k % 10:Nat):Int))
   generalize k % 10=d at *
   generalize k / 10=q at *
   generalize strOfNums [48+(d:Int)]=T at *
   have q1:¬9223372036854775807<T.size+out.size:=by omega
   have HDk:=H_ dk
   clear dk hk
   go_wp2_with fail
   go_roundw
   case rel=>exact ⟨g,q,T++out,rfl,rfl,hk2,by omega,by rw [ByteArray.size_append];omega,H_ (HB.out.alloc HB.out.size _)⟩
   case measure=>simp [intOf];have:=HDk.out;omega
structure MkMes (base top g:Nat) (bs:Nat→Nat) (ls:Nat→Nat) (n:Nat) (w:World):Prop where
 lo:base≤g
 hi:g<top
 pt:Pt g (n*6) w
 tp:∀i,i<n→base≤bs i∧bs i<top∧bs i≠g∧Pt (bs i) (ls i*2) w∧ls i≤1048576
 sl:∀i,i<n→w.cell? ⟨g,i*6+5,none⟩=some (.slice (some ⟨bs i,0,none⟩) (ls i) (ls i))
theorem MkMes.below {base top g:Nat} {bs ls:Nat→Nat} {n:Nat} {w w':World} (h:MkMes base top g bs ls n w) (hb:Below w.heap.size w w'):MkMes base top g bs ls n w' :=
 ⟨h.lo,h.hi,h.pt.below hb,fun i hi=>by obtain ⟨a,b,c,d,e⟩:=h.tp i hi;exact ⟨a,b,c,d.below hb,e⟩,fun i hi=>(hb.cell (p:=⟨g,i*6+5,none⟩) h.pt.lt).trans (h.sl i hi)⟩
theorem MkMes.put {base top g:Nat} {bs ls:Nat→Nat} {n:Nat} {w:World} (h:MkMes base top g bs ls n w) (o:Nat) (v:Value) (ho:∀i,i<n→o≠i*6+5):MkMes base top g bs ls n (w.setCell ⟨g,o,none⟩ v) :=
 ⟨h.lo,h.hi,h.pt.set o v,fun i hi=>by obtain ⟨a,b,c,d,e⟩:=h.tp i hi;exact ⟨a,b,c,pt_any d g o v,e⟩,fun i hi=>(EvtR.cell_far o (i*6+5) (ho i hi) v).trans (h.sl i hi)⟩
theorem MkMes.tier {base top g:Nat} {bs ls:Nat→Nat} {n j:Nat} {w w':World} (h:MkMes base top g bs ls n w) (hj:j<n) (hg:w.grownBy w' (some (bs j))) (hp:Pt (bs j) (ls j*2) w') (hsame:∀i,i<n→bs i=bs j→ls i=ls j):MkMes base top g bs ls n w':=by
 obtain ⟨_,_,hjg,_,_⟩:=h.tp j hj
 have e:=hg.block g h.pt.lt (fun q=>hjg (by simpa using q.symm))
 exact ⟨h.lo,h.hi,pt_gr h.pt hg (fun q=>absurd q hjg),fun i hi=>by
  obtain ⟨a,b,c,d,e⟩:=h.tp i hi
  exact ⟨a,b,c,pt_gr d hg (fun q=>by rw [←q,hsame i hi q.symm];exact hp),e⟩,fun i hi=>(World.cell?_of_block (a:=⟨g,i*6+5,none⟩) e).trans (h.sl i hi)⟩
set_option maxRecDepth 100000 in
set_option maxHeartbeats 8000000 in
theorem markMes (base top g:Nat) (bs ls:Nat→Nat) (n cap:Nat) (w:World) (hn:n≤1048576) (hM:MkMes base top g bs ls n w) (hs:∀i j,i<n→j<n→bs i=bs j→ls i=ls j) :
 Calls Tryz.prog 87 #[.slice (some ⟨g,0,none⟩) n cap,.int .i64 1] w fun e w'=>∃K:Nat,e=.returned (.int .i64 K)∧1≤K∧K≤10000000000000∧MkMes base top g bs ls n w'∧Outs base top w w':=by
 have HM:=H_ hM
 have HS:=H_ hs
 have HT:Hid (∀(z:Int) (K:Nat),z=K→1≤K→K≤10000000000000→∀w,Calls Tryz.prog 89 #[.int .i64 z] w fun e w'=>(∃T,e=.returned (.string T))∧Below w.heap.size w w'):=H_ (fun z K e h0 h w=>by subst e;exact mark_some K h0 (by omega) w)
 have HTT:Hid (∀(g n cap:Nat) (z:Int) (K:Nat),z=K→n≤1048576→K≤10000000000000→∀w,Pt g (n*2) w→Calls Tryz.prog 144 #[.slice (some ⟨g,0,none⟩) n cap,.int .i64 z] w fun e w'=>e=.returned (.int .i64 (K+2*n:Nat))∧Pt g (n*2) w'∧RowG.Wr (mTi K) (n*2) g w'∧w.grownBy w' (some g)):=H_ (fun g n cap z K e hn hK w h=>by subst e;exact markTis g n cap K w hn (by omega) h)
 clear hM hs
 go_enter Tryz.func87,Tryz.ntmps87
 go_wp2_with fail
 go_loopw [5,1] (fun x z wr=>∃i K:Nat,x=.int .i64 (i:Int)∧z=.int .i64 (K:Int)∧i≤n∧1≤K∧K≤1+i*2097157∧Hid (MkMes base top g bs ls n wr)∧Hid (Outs base top w wr)) (fun x _ _=>n-(intOf x).toNat)
 case atStart=>exact ⟨0,1,rfl,rfl,by omega,by omega,by omega,HM,H_ (Outs.refl _ _ _)⟩
 case round =>
  obtain ⟨i,K,rfl,rfl,hi,hK1,hK2,HM,HO⟩:=hrel
  have hKb:K≤2200000000000:=by have:i*2097157≤1048576*2097157:=Nat.mul_le_mul_right _ (by omega);omega
  by_cases hin:i=n
  ·subst hin
   go_wp2_with fail
   go_ret
   exact ⟨K,rfl,hK1,by omega,HM.out,HO.out⟩
  ·have h1:(i:Int)<(n:Int):=by omega
   go_wp2_with fail
   refine (HT.out _ K rfl hK1 (by omega) _).mono ?_
   rintro e w1 ⟨⟨T,rfl⟩,hb⟩
   have HM1:=H_ (HM.out.below hb)
   have HO1:=H_ (HO.out.below hb)
   clear hb HM HO
   obtain ⟨v0,c0⟩:=HM1.out.pt.has (i*6) (by omega)
   have f0:=HM1.out.pt.free (i*6) (by omega)
   have hh0:∀j,j<n→i*6≠j*6+5:=fun j _=>by omega
   obtain ⟨v1,c1⟩:=HM1.out.pt.has (i*6+1) (by omega)
   have f1:=HM1.out.pt.free (i*6+1) (by omega)
   have hh1:∀j,j<n→i*6+1≠j*6+5:=fun j _=>by omega
   obtain ⟨v2,c2⟩:=HM1.out.pt.has (i*6+2) (by omega)
   have f2:=HM1.out.pt.free (i*6+2) (by omega)
   have hh2:∀j,j<n→i*6+2≠j*6+5:=fun j _=>by omega
   obtain ⟨v3,c3⟩:=HM1.out.pt.has (i*6+3) (by omega)
   have f3:=HM1.out.pt.free (i*6+3) (by omega)
   have hh3:∀j,j<n→i*6+3≠j*6+5:=fun j _=>by omega
   obtain ⟨v4,c4⟩:=HM1.out.pt.has (i*6+4) (by omega)
   have f4:=HM1.out.pt.free (i*6+4) (by omega)
   have hh4:∀j,j<n→i*6+4≠j*6+5:=fun j _=>by omega
   have c5:=HM1.out.sl i (by omega)
   obtain ⟨t1,t2,t3,t4,t5⟩:=HM1.out.tp i (by omega)
   have HTP:=H_ t4
   have HSS:=H_ (fun j hj=>HS.out j i hj (by omega))
   have hgl:=HM1.out.pt.lt
   have hlo:=HM1.out.lo
   have hhi:=HM1.out.hi
   have hli:i<n:=by omega
   have HHH:=H_ (show (∀j,j<n→i*6≠j*6+5)∧(∀j,j<n→i*6+1≠j*6+5)∧(∀j,j<n→i*6+2≠j*6+5)∧(∀j,j<n→i*6+3≠j*6+5)∧(∀j,j<n→i*6+4≠j*6+5) from ⟨hh0,hh1,hh2,hh3,hh4⟩)
   clear hh0 hh1 hh2 hh3 hh4 t4
   go_wp2_with fail
   refine (HTT.out _ _ _ _ (K+5) (by push_cast;omega) t5 (by omega) _ (pt_any (pt_any (pt_any (pt_any (pt_any HTP.out _ _ _) _ _ _) _ _ _) _ _ _) _ _ _)).mono ?_
   rintro e w2 ⟨rfl,hp2,_,hg2⟩
   have HM2:=H_ (MkMes.tier (((((HM1.out.put (i*6) _ HHH.out.1).put (i*6+1) _ HHH.out.2.1).put (i*6+2) _ HHH.out.2.2.1).put (i*6+3) _ HHH.out.2.2.2.1).put (i*6+4) _ HHH.out.2.2.2.2) hli hg2 hp2 HSS.out)
   have HO2:=H_ (Outs.grown (((((HO1.out.put g (i*6) _ hlo hhi).put g (i*6+1) _ hlo hhi).put g (i*6+2) _ hlo hhi).put g (i*6+3) _ hlo hhi).put g (i*6+4) _ hlo hhi) hg2 t1 t2)
   clear hp2 hg2 c0 c1 c2 c3 c4 c5 f0 f1 f2 f3 f4 HM1 HO1
   have hb2:K+5+2*ls i≤1+(i+1)*2097157:=by rw [Nat.add_mul];omega
   go_wp2_with fail
   go_roundw
   case rel=>exact ⟨i+1,K+5+2*ls i,by go_num,by go_num,by omega,by omega,hb2,HM2,HO2⟩
   case measure=>simp [intOf];omega
set_option maxRecDepth 100000 in
set_option maxHeartbeats 4000000 in
theorem markCrs (base top g n cap K0:Nat) (w:World) (hn:n≤1048576) (hK0:1≤K0) (hK:K0≤10000000000000) (hlo:base≤g) (hhi:g<top) (h0:Pt g (n*2) w) :
 Calls Tryz.prog 88 #[.slice (some ⟨g,0,none⟩) n cap,.int .i64 K0] w fun e w'=>∃K:Nat,e=.returned (.int .i64 K)∧1≤K∧K≤K0+n*2∧Outs base top w w':=by
 have HP:=H_ h0
 have HT:Hid (∀(z:Int) (K:Nat),z=K→1≤K→K≤20000000000000→∀w,Calls Tryz.prog 89 #[.int .i64 z] w fun e w'=>(∃T,e=.returned (.string T))∧Below w.heap.size w w'):=H_ (fun z K e h0 h w=>by subst e;exact mark_some K h0 (by omega) w)
 clear h0
 go_enter Tryz.func88,Tryz.ntmps88
 go_wp2_with fail
 go_loopw [5,1] (fun x z wr=>∃i K:Nat,x=.int .i64 (i:Int)∧z=.int .i64 (K:Int)∧i≤n∧1≤K∧K≤K0+i*2∧Hid (Pt g (n*2) wr)∧Hid (Outs base top w wr)) (fun x _ _=>n-(intOf x).toNat)
 case atStart=>exact ⟨0,K0,rfl,rfl,by omega,by omega,by omega,HP,H_ (Outs.refl _ _ _)⟩
 case round =>
  obtain ⟨i,K,rfl,rfl,hi,hK1,hK2,HP,HO⟩:=hrel
  by_cases hin:i=n
  ·subst hin
   go_wp2_with fail
   go_ret
   exact ⟨K,rfl,hK1,hK2,HO.out⟩
  ·have h1:(i:Int)<(n:Int):=by omega
   go_wp2_with fail
   refine (HT.out _ K rfl hK1 (by omega) _).mono ?_
   rintro e w1 ⟨⟨T,rfl⟩,hb⟩
   have HP1:=H_ (HP.out.below hb)
   have HO1:=H_ (HO.out.below hb)
   clear hb HP HO
   obtain ⟨v0,c0⟩:=HP1.out.has (i*2) (by omega)
   have f0:=HP1.out.free (i*2) (by omega)
   obtain ⟨v1,c1⟩:=HP1.out.has (i*2+1) (by omega)
   have f1:=HP1.out.free (i*2+1) (by omega)
   have hgl:=HP1.out.lt
   have HP2:=H_ ((HP1.out.set (i*2) (.string T)).set (i*2+1) (.int .i64 ((K:Int)+1)))
   have HO2:=H_ ((HO1.out.put g (i*2) (.string T) hlo hhi).put g (i*2+1) (.int .i64 ((K:Int)+1)) hlo hhi)
   clear HP1 HO1
   go_wp2_with fail
   go_roundw
   case rel=>exact ⟨i+1,K+2,by go_num,by go_num,by omega,by omega,by omega,HP2,HO2⟩
   case measure=>simp [intOf];omega
theorem new_mk {base top:Nat} {g:Nat} {bs:Nat→Nat} {n:Nat} {ms:List Me} {w:World} (h:NewMes base g bs n n ms w) (hS:∀i,i<n→(ms.getD i Me.zero).Small) (ht:∀i,i<n→bs i<top) (hg:g<top):MkMes base top g bs (fun i=>(ms.getD i Me.zero).ts.length) n w:=by
 refine ⟨h.lo,hg,h.pt,fun i hi=>?_,fun i hi=>?_⟩
 ·have h1:=(h.inc i hi).1
  have h2:=h.lo
  exact ⟨by omega,ht i hi,by omega,(h.cel i hi).2.2,(hS i hi).2⟩
 ·exact (h.cel i hi).1.2.2.2.2.2
theorem Outs.wide {base base' top top':Nat} {w w':World} (h:Outs base top w w') (h1:base'≤base) (h2:top≤top'):Outs base' top' w w' :=
 ⟨h.os,h.tape,h.output,h.size,fun k hk hb=>h.block k hk (by omega)⟩
theorem Outs.pt {base top g m:Nat} {w w':World} (h:Outs base top w w') (hp:Pt g m w) (hg:g<base∨top≤g):Pt g m w':=by
 have e2:=h.block g hp.lt hg
 exact ⟨by have:=h.size;have:=hp.lt;omega,fun o ho=>by obtain ⟨v,hv⟩:=hp.has o ho;exact ⟨v,(World.cell?_of_block (a:=⟨g,o,none⟩) e2).trans hv⟩,fun o ho=>(World.frozen?_of_block (a:=⟨g,o,none⟩) e2).trans (hp.free o ho)⟩
theorem Outs.blk {base top b:Nat} {cs:List Value} {w w':World} (h:Outs base top w w') (hp:Blk b cs w) (hg:b<base∨top≤b):Blk b cs w' :=
 ⟨by have:=h.size;have:=hp.1;omega,fun i hi=>(World.cell?_of_block (a:=⟨b,i,none⟩) (h.block b hp.1 hg)).trans (hp.2 i hi)⟩
set_option maxHeartbeats 4000000 in
theorem markCa (base:Nat) (v:Value) (c:Ca) (w:World) (top:Nat) (hS:c.Small) (h:NewCa base v c w) (ht:∀(hh:Nat) (x:Value),v=.agg #[x,.slice (some ⟨hh,0,none⟩) c.cs.length c.cs.length]→hh<top) :
 Calls Tryz.prog 38 #[v,.int .i64 1] w fun e w'=>∃K:Nat,e=.returned (.int .i64 K)∧1≤K∧K≤20000000000000∧Outs base top w w':=by
 obtain ⟨g,bs,hh,rfl,hN,hgh,hbh,hC,hP⟩:=h
 have hht:hh<top:=ht hh _ rfl
 have hhw:hh<w.heap.size:=hP.lt
 clear ht
 have hap:∀i j,i<c.ms.length→j<c.ms.length→bs i=bs j→i=j:=fun i j hi hj e=>by
  rcases (show i<j∨i=j∨j<i by omega) with q|q|q
  ·have:=(hN.inc j hj).2 i q;omega
  ·exact q
  ·have:=(hN.inc i hi).2 j q;omega
 have HMM:=H_ (fun W (hW:Below w.heap.size w W)=>markMes base hh g bs _ c.ms.length c.ms.length W hS.ml (new_mk (hN.below hW) hS.ms hbh hgh) (fun i j hi hj e=>by rw [hap i j hi hj e]))
 have HCC:=H_ (fun W K (h1:1≤K) (h2:K≤10000000000000) (hp:Pt hh (c.cs.length*2) W)=>markCrs hh top hh c.cs.length c.cs.length K W hS.cl h1 h2 (Nat.le_refl _) hht hp)
 have HP:=H_ hP
 have hlo:=hN.lo
 have HX0:Hid (Blk w.heap.size [.slice (some ⟨g,0,none⟩) c.ms.length c.ms.length,.slice (some ⟨hh,0,none⟩) c.cs.length c.cs.length] (w.alloc (.cells #[.slice (some ⟨g,0,none⟩) c.ms.length c.ms.length,.slice (some ⟨hh,0,none⟩) c.cs.length c.cs.length] 36))):=H_ (Blk.new w _ _)
 have hal:∀o,Below w.heap.size w (w.alloc o):=fun o=>(Below.refl _ _).alloc (Nat.le_refl _) _
 have HAL:=H_ hal
 have HCL:Hid (c.cs.length≤1048576):=H_ hS.cl
 clear hN hbh hC hP hap hal hS
 generalize c.ms.length=ml at *
 generalize c.cs.length=cl at *
 go_enter Tryz.func38,Tryz.ntmps38
 go_wp2_with fail
 refine (HMM.out _ (HAL.out _)).mono ?_
 rintro e w1 ⟨K,rfl,hK1,hK2,_,ho1⟩
 have HX1:=H_ (ho1.blk HX0.out (by omega))
 have HP1:=H_ (ho1.pt (HP.out.below (HAL.out _)) (by omega))
 have HO1:Hid (Outs base top w w1):=H_ (((Outs.refl base top w).below (HAL.out _)).trans (ho1.wide (Nat.le_refl _) (by omega)))
 clear ho1
 have x1:w1.cell? ⟨w.heap.size,1,none⟩=some (.slice (some ⟨hh,0,none⟩) cl cl):=HX1.out.2 1 (by simp)
 have xl:=HX1.out.1
 go_wp2_with fail
 refine (HCC.out _ K hK1 hK2 HP1.out).mono ?_
 rintro e w2 ⟨K2,rfl,hk3,hk4,ho2⟩
 have HO2:=H_ (HO1.out.trans (ho2.wide (by omega) (Nat.le_refl _)))
 clear ho2
 go_wp2_with fail
 go_ret
 exact ⟨K2,rfl,hk3,by have:=HCL.out;omega,HO2.out⟩
end CatR
end Go.Proofs.YtnceeaccbcfopaaGreatDoor
