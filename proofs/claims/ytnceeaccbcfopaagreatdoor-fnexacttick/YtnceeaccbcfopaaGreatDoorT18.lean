/-
  What the program calls right meters.
  What the program calls right credits.
  What the program calls a right catalog.
  The conditions stand in what each theorem says.
-/
import Derived.Test.YtnceeaccbcfopaaGreatDoorT17
set_option maxRecDepth 100000
set_option maxHeartbeats 16000000
namespace Go.Proofs.YtnceeaccbcfopaaGreatDoor
open Go.ChangeShapes Go.WideShapes Go.ChangeAt Go.RowKit
set_option linter.unusedVariables false
namespace CatR
theorem impl_ms (ao:Option Addr) (len cap:Nat) (ms:List Me) (V:Nat→Value) (w:World) (hz:ms.length=len) (hlen:len≤1048576) (hS:∀i,i<len→(ms.getD i Me.zero).Small) (hI:MesV ao len ms V w) (hL:Laid w) :
 Calls Tryz.prog 120 #[.slice ao len cap] w fun e w'=>e=.returned (.bool (msB ms))∧Below w.heap.size w w':=by
 by_cases h6:6<len
 ·have h6':(6:Int)<(len:Int):=by omega
  have HR:=H_ (ms_many (ms:=ms) (by omega))
  clear hI hS hL
  go_enter Tryz.func120,Tryz.ntmps120
  go_wp2_with fail
  go_ret
  exact ⟨ret_bool HR.out.symm,Below.refl _ _⟩
 ·have h6':¬(6:Int)<(len:Int):=by omega
  have HN:=H_ (byName_any ao len cap ms V w (by omega) (fun i hi=>(hS i hi).1) hI)
  have HI:=H_ hI
  have HS:=H_ hS
  have HL:=H_ hL
  have HZ:=H_ hz
  obtain ⟨hl0,a0,hl1⟩:=hL
  clear hI hS
  go_enter Tryz.func120,Tryz.ntmps120
  go_wp2_with fail
  refine HN.out.mono ?_
  rintro e w1 ⟨rfl,hown1,hb1⟩
  have HB1:=H_ hb1
  have HO1:=H_ hown1
  clear hown1 hb1
  go_wp2_with fail
  go_loopw [17] (fun z wr=>∃k:Nat,k≤len∧z=.int .i64 k∧Hid (MOk ms k)∧Hid (Below w.heap.size w wr)∧Hid (wr.ownsMap Tryz.prog 9 RV w.heap.size len (delD ms (mapD ms V len) k))) (fun z _=>len-(intOf z).toNat)
  case atStart=>exact ⟨0,by omega,rfl,H_ (MOk.zero ms),HB1,HO1⟩
  case round =>
   obtain ⟨k,hk,rfl,HK,HB,HO⟩:=hrel
   have hwr:=HO.out.lt
   by_cases hlt:k<len
   ·have hlt2:(k:Int)<(len:Int):=by omega
    have hkl:k<ms.length:=by have:=HZ.out;omega
    rcases HI.out with h|⟨b,off,rfl,hb0,h⟩
    ·omega
    have HP:Hid (∀j,j+1=k→w.cell? ⟨b,off+j*6,none⟩=some (.string (mN ms j))):=H_ (fun j hj=>by
     obtain ⟨_,_,_,q,_⟩:=h j (by omega)
     exact q)
    have HVS:Hid (∀j,j<len→∃x0 x1 x2 x3 x4 x5 x6 x7,V j=.agg #[.string x0,.int .i64 x1,.bool x2,.int .i64 x3,.int .i64 x4,.slice x5 x6 x7]):=H_ (fun j hj=>by
     obtain ⟨_,_,q,_⟩:=h j hj
     exact ⟨_,_,_,_,_,_,_,_,q⟩)
    obtain ⟨ta,tc,hv,_,_,_,_,_,_,_⟩:=h k hlt
    have hbl:b<wr.heap.size:=by have:=HB.out.size;omega
    have hcw:=fun o=>HB.out.cell (p:=⟨b,o,none⟩) hb0
    obtain ⟨ta',tc',hv',c0,c1,c2,c3,c4,c5,_⟩:=h k hlt
    have eta:ta=ta'∧tc=tc':=by rw [hv] at hv';simpa using hv'
    obtain ⟨rfl,rfl⟩:=eta
    clear hv' h
    replace c0:=(hcw _).trans c0
    replace c1:=(hcw _).trans c1
    replace c2:=(hcw _).trans c2
    replace c3:=(hcw _).trans c3
    replace c4:=(hcw _).trans c4
    replace c5:=(hcw _).trans c5
    have HMR:=H_ (fun W (hW:Below w.heap.size w W)=>impl_meter (V k) (ms.getD k Me.zero) W (HS.out k hlt).1 (HS.out k hlt).2 ((HI.out.below hW).is k hlt))
    have HWR:=H_ (ms_wrong (ms:=ms) hkl)
    have HFA:=H_ (ms_falls (ms:=ms) hkl)
    have HAL:=H_ (fun i (hi:i<k) e=>ms_alike (ms:=ms) hkl hi e)
    have HMO:=H_ (fun (h1:mB (ms.getD k Me.zero)=true) h2=>HK.out.more (mB_iff.1 h1) h2)
    have HHD:=H_ (has_delD ms (mapD ms V len) (mN ms k) k)
    have HHM:Hid (Maps.has (mapD ms V len) (kS (mN ms k))=true):=H_ ((has_mapD ms V (mN ms k) len).2 ⟨k,hlt,rfl⟩)
    have HDS:Hid (delD ms (mapD ms V len) (k+1)=(delD ms (mapD ms V len) k).del (kS (mN ms k))):=rfl
    have hnz:(mN ms k).size≤1048576:=(HS.out k hlt).1
    rw [hv] at HMR
    generalize mB (ms.getD k Me.zero)=r at *
    cases hh:Maps.has (delD ms (mapD ms V len) k) (kS (mN ms k))
    ·
     obtain ⟨i,hi,hie⟩:∃i,i<k∧mN ms i=mN ms k:=by
      apply Classical.byContradiction
      intro hne
      have:=HHD.out.2 ⟨HHM.out,fun i hi e=>hne ⟨i,hi,e⟩⟩
      rw [hh] at this
      cases this
     have HR:=H_ (HAL.out i hi hie)
     obtain ⟨j,hj⟩:∃j,j+1=k:=⟨k-1,by omega⟩
     have HT:=H_ (take_no w.heap.size len _ (mN ms k) (wr.alloc (.cells #[.string (mN ms k),.int .i64 (ms.getD k Me.zero).g,.bool (ms.getD k Me.zero).wh,.int .i64 (ms.getD k Me.zero).f,.int .i64 (ms.getD k Me.zero).l,.slice ta (ms.getD k Me.zero).ts.length tc] 150)) hnz (HO.out.alloc _) hh a0 (by have:=HB.out.size;simp only [World.alloc,Array.size_push];omega) (((HB.out.alloc HB.out.size _).cell (p:=⟨0,0,none⟩) hl0).trans hl1))
     generalize mN ms k=n at *
     generalize (ms.getD k Me.zero).ts.length=tl at *
     generalize (ms.getD k Me.zero).g=g at *
     generalize (ms.getD k Me.zero).wh=wh at *
     generalize (ms.getD k Me.zero).f=f at *
     generalize (ms.getD k Me.zero).l=l at *
     clear hv hh HWR HFA HMO HAL HHD HHM HDS hie hi hcw
     go_wp2_with fail
     refine HT.out.mono ?_
     rintro e w2 ⟨rfl,hbT⟩
     have hg:(wr.alloc (.cells #[.string n,.int .i64 g,.bool wh,.int .i64 f,.int .i64 l,.slice ta tl tc] 150)).grownBy w2 (some w.heap.size):=⟨hbT.os,hbT.tape,hbT.output,hbT.size,fun k hk _=>hbT.block k hk⟩
     have hsz:wr.heap.size<w2.heap.size:=by have:=hg.size;simp at this;omega
     have EM:=fun o=>World.cell?_of_block (a:=⟨wr.heap.size,o,none⟩) (hg.block wr.heap.size (by simp) (by simp;omega))
     have m0:w2.cell? ⟨wr.heap.size,0,none⟩=some (.string n):=(EM 0).trans (by simp [go_sem])
     have m1:w2.cell? ⟨wr.heap.size,1,none⟩=some (.int .i64 g):=(EM 1).trans (by simp [go_sem])
     have m2:w2.cell? ⟨wr.heap.size,2,none⟩=some (.bool wh):=(EM 2).trans (by simp [go_sem])
     have m3:w2.cell? ⟨wr.heap.size,3,none⟩=some (.int .i64 f):=(EM 3).trans (by simp [go_sem])
     have m4:w2.cell? ⟨wr.heap.size,4,none⟩=some (.int .i64 l):=(EM 4).trans (by simp [go_sem])
     have m5:w2.cell? ⟨wr.heap.size,5,none⟩=some (.slice ta tl tc):=(EM 5).trans (by simp [go_sem])
     have HB2:Hid (Below w.heap.size w w2):=H_ ((HB.out.alloc HB.out.size _).grown hg (HB.out.alloc HB.out.size _).size (fun k e=>by cases e;exact Nat.le_refl _))
     have g0:w2.cell? ⟨0,0,none⟩=some (.iface 283 (.pointer (some a0))):=(HB2.out.cell (p:=⟨0,0,none⟩) hl0).trans hl1
     have hl2:0<w2.heap.size:=by have:=HB2.out.size;omega
     have p2:∀j,j+1=k→w2.cell? ⟨b,off+j*6,none⟩=some (.string (mN ms j)):=fun j hj=>(HB2.out.cell (p:=⟨b,_,none⟩) hb0).trans (HP.out j hj)
     have HI2:=H_ (HI.out.below HB2.out)
     clear EM c0 c1 c2 c3 c4 c5
     have p3:=p2 j hj
     clear p2 hg hbT HT
     have HIS:=H_ (fun w=>IsR.is_same a0 w)
     have hj1:IntKind.i64.wrap ((k:Int)-1)=(j:Int):=by rw [IntKind.wrap_i64];omega
     have hj2:0<k:=by omega
     have hj3:(j:Int)<(len:Int):=by omega
     have hb2:b<w2.heap.size:=by have:=HB2.out.size;omega
     have HF:Hid (∀o m,Below w.heap.size w ((w2.alloc o).drewN m)):=H_ (fun o m=>bdrewN (HB2.out.alloc HB2.out.size o) m)
     clear hj
     go_wp2_with (go_at_call 164;refine (HIS.out _).mono ?_;rintro e w' ⟨rfl,rfl⟩)
     go_quiet (fail)
     go_wp2_with fail
     go_ret
     exact ⟨ret_bool HR.out.symm,HF.out _ _⟩
    ·have HAP:=H_ (HHD.out.1 hh).2
     obtain ⟨q,hq,hqz⟩:=at_mapD_some ms V (mN ms k) len ⟨k,hlt,rfl⟩
     obtain ⟨x0,x1,x2,x3,x4,x5,x6,x7,hvq⟩:=HVS.out q hq
     have HT:=H_ (take_has w.heap.size len _ (mN ms k) x0 x1 x2 x3 x4 x5 x6 x7 (wr.alloc (.cells #[.string (mN ms k),.int .i64 (ms.getD k Me.zero).g,.bool (ms.getD k Me.zero).wh,.int .i64 (ms.getD k Me.zero).f,.int .i64 (ms.getD k Me.zero).l,.slice ta (ms.getD k Me.zero).ts.length tc] 150)) hnz (HO.out.alloc _) hh (fun z=>by rw [at_delD ms _ (mN ms k) z k HAP.out,hqz z,hvq]))
     have HHE:=H_ hh
     have HRI:Hid (lt (mN ms k) (mN ms (k-1))=false→0<k→lt (mN ms (k-1)) (mN ms k)=true):=H_ (fun h1 h0=>by
      cases h2:lt (mN ms (k-1)) (mN ms k)
      ·exact absurd (lt_total h2 h1) (HAP.out (k-1) (by omega))
      ·rfl)
     clear hh hqz hvq
     rw [←HDS.out] at HT
     generalize mN ms k=n at *
     generalize (ms.getD k Me.zero).ts.length=tl at *
     generalize (ms.getD k Me.zero).g=g at *
     generalize (ms.getD k Me.zero).wh=wh at *
     generalize (ms.getD k Me.zero).f=f at *
     generalize (ms.getD k Me.zero).l=l at *
     clear hv HAL HHD HHM HDS hcw HHE
     go_wp2_with fail
     refine HT.out.mono ?_
     rintro e w2 ⟨rfl,hown2,hg⟩
     have HO2:=H_ hown2
     have hsz:wr.heap.size<w2.heap.size:=by have:=hg.size;simp at this;omega
     have EM:=fun o=>World.cell?_of_block (a:=⟨wr.heap.size,o,none⟩) (hg.block wr.heap.size (by simp) (by simp;omega))
     have m0:w2.cell? ⟨wr.heap.size,0,none⟩=some (.string n):=(EM 0).trans (by simp [go_sem])
     have m1:w2.cell? ⟨wr.heap.size,1,none⟩=some (.int .i64 g):=(EM 1).trans (by simp [go_sem])
     have m2:w2.cell? ⟨wr.heap.size,2,none⟩=some (.bool wh):=(EM 2).trans (by simp [go_sem])
     have m3:w2.cell? ⟨wr.heap.size,3,none⟩=some (.int .i64 f):=(EM 3).trans (by simp [go_sem])
     have m4:w2.cell? ⟨wr.heap.size,4,none⟩=some (.int .i64 l):=(EM 4).trans (by simp [go_sem])
     have m5:w2.cell? ⟨wr.heap.size,5,none⟩=some (.slice ta tl tc):=(EM 5).trans (by simp [go_sem])
     have HB2:Hid (Below w.heap.size w w2):=H_ ((HB.out.alloc HB.out.size _).grown hg (HB.out.alloc HB.out.size _).size (fun k e=>by cases e;exact Nat.le_refl _))
     have g0:w2.cell? ⟨0,0,none⟩=some (.iface 283 (.pointer (some a0))):=(HB2.out.cell (p:=⟨0,0,none⟩) hl0).trans hl1
     have hl2:0<w2.heap.size:=by have:=HB2.out.size;omega
     have p2:∀j,j+1=k→w2.cell? ⟨b,off+j*6,none⟩=some (.string (mN ms j)):=fun j hj=>(HB2.out.cell (p:=⟨b,_,none⟩) hb0).trans (HP.out j hj)
     have HI2:=H_ (HI.out.below HB2.out)
     clear EM c0 c1 c2 c3 c4 c5
     clear hg hown2 HT
     have HIS:=H_ (fun w=>IsR.is_nil a0 w)
     have hb2:b<w2.heap.size:=by have:=HB2.out.size;omega
     have HF:Hid (∀o m,Below w.heap.size w ((w2.alloc o).drewN m)):=H_ (fun o m=>bdrewN (HB2.out.alloc HB2.out.size o) m)
     have HFO:Hid (∀o m,((w2.alloc o).drewN m).ownsMap Tryz.prog 9 RV w.heap.size len (delD ms (mapD ms V len) (k+1))):=H_ (fun o m=>by obtain ⟨es,c,h⟩:=HO2.out.alloc o;exact ⟨es,c,h⟩)
     rcases (show k=0∨∃j,j+1=k from by rcases k with _|j;exact .inl rfl;exact .inr ⟨j,rfl⟩) with rfl|⟨j,hj⟩
     ·go_wp2_with (go_at_call 164;refine (HIS.out _).mono ?_;rintro e w' ⟨rfl,rfl⟩)
      go_quiet (fail)
      go_wp2_with fail
      refine (HMR.out _ (HF.out _ _)).mono ?_
      rintro e w5 ⟨rfl,hb5⟩
      have HB5:=H_ ((HF.out _ _).trans (hb5.mono (HF.out _ _).size))
      have HO5:=H_ ((HFO.out _ _).kept (row:=none) ⟨hb5.os,hb5.tape,hb5.output,hb5.size,fun k hk _=>hb5.block k hk⟩ (by simp))
      clear hb5
      cases r
      ·have HR:=H_ (HWR.out rfl)
       go_wp2_with fail
       go_ret
       exact ⟨ret_bool HR.out.symm,HB5.out⟩
      ·have HM:=H_ (HMO.out rfl (fun h=>absurd h (by omega)))
       go_wp2_with fail
       go_roundw
       case rel=>exact ⟨0+1,by omega,by go_num,HM,HB5,HO5⟩
       case measure=>simp [intOf];omega
     ·have p3:=p2 j hj
      clear p2
      have hj1:IntKind.i64.wrap ((k:Int)-1)=(j:Int):=by rw [IntKind.wrap_i64];omega
      have hj2:0<k:=by omega
      have hj3:(j:Int)<(len:Int):=by omega
      have ejk:k-1=j:=by omega
      rw [ejk] at HFA HRI HMO
      clear hj ejk
      cases hfl:Op.bytesLess n.toList (mN ms j).toList
      ·have HRI2:=H_ (HRI.out hfl hj2)
       go_wp2_with (go_at_call 164;refine (HIS.out _).mono ?_;rintro e w' ⟨rfl,rfl⟩)
       go_quiet (fail)
       go_wp2_with fail
       refine (HMR.out _ (HF.out _ _)).mono ?_
       rintro e w5 ⟨rfl,hb5⟩
       have HB5:=H_ ((HF.out _ _).trans (hb5.mono (HF.out _ _).size))
       have HO5:=H_ ((HFO.out _ _).kept (row:=none) ⟨hb5.os,hb5.tape,hb5.output,hb5.size,fun k hk _=>hb5.block k hk⟩ (by simp))
       clear hb5
       cases r
       ·have HR:=H_ (HWR.out rfl)
        go_wp2_with fail
        go_ret
        exact ⟨ret_bool HR.out.symm,HB5.out⟩
       ·have HM:=H_ (HMO.out rfl (fun _=>HRI2.out))
        go_wp2_with fail
        go_roundw
        case rel=>exact ⟨k+1,by omega,by go_num,HM,HB5,HO5⟩
        case measure=>simp [intOf];omega
      ·have HR:=H_ (HFA.out hj2 hfl)
       go_wp2_with (go_at_call 164;refine (HIS.out _).mono ?_;rintro e w' ⟨rfl,rfl⟩)
       go_quiet (fail)
       go_wp2_with fail
       go_ret
       exact ⟨ret_bool HR.out.symm,HF.out _ _⟩
   ·obtain rfl:k=len:=by omega
    have HR:Hid (msB ms=true):=H_ (ms_end (by have:=HZ.out;omega) (by rw [HZ.out];exact HK.out))
    go_wp2_with fail
    go_ret
    exact ⟨ret_bool HR.out.symm,HB.out⟩
end CatR
namespace CatR
def cP (cs:List Cr):Nat→ByteArray
 | 0=>⟨#[]⟩
 | k+1=>cA cs k
theorem leq_yes {a p:ByteArray} (h:(Op.bytesLess a.toList p.toList||(a.toList==p.toList))=true):lt p a=false:=by
 rw [Bool.or_eq_true] at h
 rcases h with h|h
 ·exact lt_asymm h
 ·rw [toList_inj (beq_iff_eq.1 h)];exact lt_irrefl _
theorem leq_no {a p:ByteArray} (h:(Op.bytesLess a.toList p.toList||(a.toList==p.toList))=false):lt p a=true:=by
 rw [Bool.or_eq_false_iff] at h
 cases h2:lt p a
 ·have:=lt_total h2 h.1
  rw [this] at h
  simp at h
 ·rfl
theorem cs_le {cs:List Cr} {k:Nat} (hk:k<cs.length) (h:(Op.bytesLess (cA cs k).toList (cP cs k).toList||((cA cs k).toList==(cP cs k).toList))=true):csB cs=false:=by
 have h2:=leq_yes h
 match k,hk,h2 with
 | 0,hk,h2 =>
  refine cs_name hk ?_
  apply NameR.name_size
  rcases Nat.lt_or_ge (cA cs 0).size 1 with h3|h3
  ·exact .inl h3
  ·have:=lt_empty h3
   rw [show lt ⟨#[]⟩ (cA cs 0)=lt (cP cs 0) (cA cs 0) from rfl,h2] at this
   cases this
 | k+1,hk,h2=>exact cs_flat hk (by omega) h2
theorem cs_go {cs:List Cr} {k:Nat} (h:COk cs k) (hl:(Op.bytesLess (cA cs k).toList (cP cs k).toList||((cA cs k).toList==(cP cs k).toList))=false) (hn:NameR.nameB (cA cs k)=true) (hm:0≤cM cs k∧cM cs k≤1000000000000):COk cs (k+1):=by
 refine h.more hn hm (fun h0=>?_)
 have h2:=leq_no hl
 match k,h0,h2 with
 | k+1,_,h2=>exact h2
theorem impl_cs (ao:Option Addr) (len cap:Nat) (cs:List Cr) (w:World) (hlen:len≤1048576) (hS:∀i,i<len→(cs.getD i Cr.zero).a.size≤1048576) (hI:Crs ao len cs w) :
 Calls Tryz.prog 121 #[.slice ao len cap] w fun e w'=>e=.returned (.bool (csB cs))∧Below w.heap.size w w':=by
 have hz:=hI.1
 by_cases h6:6<len
 ·have h6':(6:Int)<(len:Int):=by omega
  have HR:=H_ (cs_many (cs:=cs) (by omega))
  clear hI hS
  go_enter Tryz.func121,Tryz.ntmps121
  go_wp2_with fail
  go_ret
  exact ⟨ret_bool HR.out.symm,Below.refl _ _⟩
 ·have h6':¬(6:Int)<(len:Int):=by omega
  have HI:=H_ hI
  have HS:=H_ hS
  have HZ:=H_ hz
  clear hI hS
  go_enter Tryz.func121,Tryz.ntmps121
  go_wp2_with fail
  go_loopw [3,11] (fun x z wr=>∃k:Nat,k≤len∧x=.string (cP cs k)∧z=.int .i64 k∧Hid (COk cs k)∧Hid (Below w.heap.size w wr)) (fun x z _=>len-(intOf z).toNat)
  case atStart=>exact ⟨0,by omega,rfl,rfl,H_ (COk.zero cs),H_ (Below.refl _ _)⟩
  case round =>
   obtain ⟨k,hk,rfl,rfl,HK,HB⟩:=hrel
   by_cases hlt:k<len
   ·have hlt2:(k:Int)<(len:Int):=by omega
    have hkl:k<cs.length:=by have:=HZ.out;omega
    obtain ⟨b,off,rfl,hbl,d0,d1⟩:=crs_at (HI.out.below HB.out) k hlt
    have c0:wr.cell? ⟨b,off+k*2,none⟩=some (.string (cA cs k)):=d0
    have c1:wr.cell? ⟨b,off+k*2+1,none⟩=some (.int .i64 (cM cs k)):=d1
    clear d0 d1
    have hsz:(cA cs k).size≤1048576:=HS.out k hlt
    have HN:=H_ (fun w=>NameR.impl_any (cA cs k) w hsz)
    have HW:=H_ (fun w=>within64 (cM cs k) 0 1000000000000 w)
    have HLE:=H_ (cs_le hkl)
    have HNA:=H_ (cs_name hkl)
    have HMI:=H_ (cs_micro hkl)
    have HGO:=H_ (cs_go HK.out)
    have HP:Hid (cP cs (k+1)=cA cs k):=rfl
    generalize NameR.nameB (cA cs k)=r at *
    generalize cA cs k=a at *
    generalize cP cs k=p at *
    generalize cM cs k=m at *
    have HAl:=H_ (fun o=>HB.out.alloc HB.out.size o)
    cases hle:(Op.bytesLess a.toList p.toList||(a.toList==p.toList))
    ·cases r
     ·have HR:=H_ (HNA.out rfl)
      go_wp2_with (first|(go_at_call 166;refine (HN.out _).mono ?_;rintro e w' ⟨rfl,rfl⟩)|(go_at_call 30;refine (HW.out _).mono ?_;rintro e w' ⟨rfl,rfl⟩))
      go_ret
      exact ⟨ret_bool HR.out.symm,HAl.out _⟩
     ·by_cases hm:0≤m∧m≤1000000000000
      ·have HM:=H_ (HGO.out hle rfl hm)
       rw [decide_eq_true hm] at HW
       go_wp2_with (first|(go_at_call 166;refine (HN.out _).mono ?_;rintro e w' ⟨rfl,rfl⟩)|(go_at_call 30;refine (HW.out _).mono ?_;rintro e w' ⟨rfl,rfl⟩))
       go_roundw
       case rel=>exact ⟨k+1,by omega,by rw [HP.out],by go_num,HM,H_ (HAl.out _)⟩
       case measure=>simp [intOf];omega
      ·have HR:=H_ (HMI.out hm)
       rw [decide_eq_false hm] at HW
       go_wp2_with (first|(go_at_call 166;refine (HN.out _).mono ?_;rintro e w' ⟨rfl,rfl⟩)|(go_at_call 30;refine (HW.out _).mono ?_;rintro e w' ⟨rfl,rfl⟩))
       go_ret
       exact ⟨ret_bool HR.out.symm,HAl.out _⟩
    ·have HR:=H_ (HLE.out hle)
     go_wp2_with fail
     go_ret
     exact ⟨ret_bool HR.out.symm,HAl.out _⟩
   ·obtain rfl:k=len:=by omega
    have HR:Hid (csB cs=true):=H_ (cs_end (by have:=HZ.out;omega) (by rw [HZ.out];exact HK.out))
    go_wp2_with fail
    go_ret
    exact ⟨ret_bool HR.out.symm,HB.out⟩
end CatR
namespace CatR
theorem impl_ca (v:Value) (c:Ca) (w:World) (hS:c.Small) (hC:IsCa v c w) (hL:Laid w) :
 Calls Tryz.prog 70 #[v] w fun e w'=>e=.returned (.bool (caB c))∧Below w.heap.size w w':=by
 obtain ⟨ma,mc,ca,cc,rfl,hM,hR⟩:=hC
 obtain ⟨ms,cs⟩:=c
 obtain ⟨s1,s2,s3,s4⟩:=hS
 simp only at *
 obtain ⟨V,hV⟩:=mes_v hM
 have HM:Hid (∀W,Below w.heap.size w W→Calls Tryz.prog 120 #[.slice ma ms.length mc] W fun e w'=>e=.returned (.bool (msB ms))∧Below W.heap.size W w'):=H_ (fun W hW=>impl_ms ma ms.length mc ms V W rfl s1 s2 (hV.below hW) (hL.below hW))
 have HR:Hid (∀W,Below w.heap.size w W→Calls Tryz.prog 121 #[.slice ca cs.length cc] W fun e w'=>e=.returned (.bool (csB cs))∧Below W.heap.size W w'):=H_ (fun W hW=>impl_cs ca cs.length cc cs W s3 s4 (hR.below hW))
 have HV:Hid (caB ⟨ms,cs⟩=(msB ms&&csB cs)):=rfl
 clear hM hR s1 s2 s3 s4 hV hL
 generalize msB ms=r1 at *
 generalize csB cs=r2 at *
 generalize caB ⟨ms,cs⟩=R at *
 generalize ms.length=ml at *
 generalize cs.length=cl at *
 have HB:Hid (Below w.heap.size w (w.alloc (.cells #[.slice ma ml mc,.slice ca cl cc] 36))):=H_ (al_ _ _)
 have hw1:∀w1,Below (w.alloc (.cells #[.slice ma ml mc,.slice ca cl cc] 36)).heap.size (w.alloc (.cells #[.slice ma ml mc,.slice ca cl cc] 36)) w1→w.heap.size<w1.heap.size∧w1.cell? ⟨w.heap.size,1,none⟩=some (.slice ca cl cc):=fun w1 hb=>⟨by have:=hb.size;simp at this;omega,(hb.cell (p:=⟨w.heap.size,1,none⟩) (by simp)).trans (by simp [go_sem])⟩
 have HW1:=H_ hw1
 clear hw1
 go_enter Tryz.func70,Tryz.ntmps70
 go_wp2_with fail
 refine (HM.out _ HB.out).mono ?_
 rintro e w1 ⟨rfl,hb1⟩
 have HB1:=HT_ HB hb1
 obtain ⟨hl,p1⟩:=HW1.out _ hb1
 clear hb1
 cases r1
 ·go_wp2_with fail
  go_ret
  exact ⟨ret_bool (by rw [HV.out];rfl),HB1.out⟩
 ·go_wp2_with fail
  refine (HR.out _ HB1.out).mono ?_
  rintro e w2 ⟨rfl,hb2⟩
  have HB2:=HT_ HB1 hb2
  clear hb2
  go_wp2_with fail
  go_ret
  exact ⟨ret_bool (by rw [HV.out];rfl),HB2.out⟩
end CatR
end Go.Proofs.YtnceeaccbcfopaaGreatDoor
