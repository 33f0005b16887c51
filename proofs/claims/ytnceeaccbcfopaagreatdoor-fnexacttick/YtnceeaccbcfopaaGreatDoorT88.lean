/-
  What the program calls right meters. The conditions: at most 1048576 of them, each small; the program's own error stands in its variable.
-/
import Derived.Test.YtnceeaccbcfopaaGreatDoorT87
namespace Go.Proofs.YtnceeaccbcfopaaGreatDoor
open Go.ChangeShapes Go.WideShapes Go.ChangeAt Go.RowKit
set_option linter.unusedVariables false
namespace CatR
set_option maxRecDepth 100000 in
set_option maxHeartbeats 8000000 in
theorem impl_ms (ao:Option Addr) (len cap:Nat) (ms:List Me) (V:Nat→Value) (w:World) (hz:ms.length=len) (hlen:len≤1048576) (hS:∀i,i<len→(ms.getD i Me.zero).Small) (hI:MesV ao len ms V w) (hL:Laid w) :
 Calls Tryz.prog 120 #[.slice ao len cap] w fun e w'=>e=.returned (.bool (msB ms))∧Below w.heap.size w w':=by
 by_cases h6:6<len
 ·have h6':(6:Int)<(len:Int):=by omega
  have HR:=H_ (ms_many (ms:=ms) (by omega))
  clear hI hS hL
  go_enter Tryz.func120,Tryz.ntmps120
  go_wp2_with fail
  go_ret
  exact ⟨ret_bool HR.out.symm,Below.refl _ _⟩
 ·have h6':¬(6:Int)<(len:Int):=by omega
  have HN:=H_ (byName_any ao len cap ms V w (by omega) (fun i hi=>(hS i hi).1) hI)
  have HI:=H_ hI
  have HS:=H_ hS
  have HL:=H_ hL
  have HZ:=H_ hz
  obtain ⟨hl0,a0,hl1⟩:=hL
  clear hI hS
  go_enter Tryz.func120,Tryz.ntmps120
  go_wp2_with fail
  refine HN.out.mono ?_
  rintro e w1 ⟨rfl,hown1,hb1⟩
  have HB1:=H_ hb1
  have HO1:=H_ hown1
  clear hown1 hb1
  go_wp2_with fail
  go_loopw [17] (fun z wr=>∃k:Nat,k≤len∧z=.int .i64 k∧Hid (MOk ms k)∧Hid (Below w.heap.size w wr)∧Hid (wr.ownsMap Tryz.prog 9 RV w.heap.size len (delD ms (mapD ms V len) k))) (fun z _=>len-(intOf z).toNat)
  case atStart=>exact ⟨0,by omega,rfl,H_ (MOk.zero ms),HB1,HO1⟩
  case round =>
   obtain ⟨k,hk,rfl,HK,HB,HO⟩:=hrel
   have hwr:=HO.out.lt
   by_cases hlt:k<len
   ·have hlt2:(k:Int)<(len:Int):=by omega
    have hkl:k<ms.length:=by have:=HZ.out;omega
    rcases HI.out with h|⟨b,off,rfl,hb0,h⟩
    ·omega
    have HP:Hid (∀j,j+1=k→w.cell? ⟨b,off+j*6,none⟩=some (.string (mN ms j))):=H_ (fun j hj=>by
     obtain ⟨_,_,_,q,_⟩:=h j (by omega)
     exact q)
    have HVS:Hid (∀j,j<len→∃x0 x1 x2 x3 x4 x5 x6 x7,V j=.agg #[.string x0,.int .i64 x1,.bool x2,.int .i64 x3,.int .i64 x4,.slice x5 x6 x7]):=H_ (fun j hj=>by
     obtain ⟨_,_,q,_⟩:=h j hj
     exact ⟨_,_,_,_,_,_,_,_,q⟩)
    obtain ⟨ta,tc,hv,_,_,_,_,_,_,_⟩:=h k hlt
    have hbl:b<wr.heap.size:=by have:=HB.out.size;omega
    have hcw:=fun o=>HB.out.cell (p:=⟨b,o,none⟩) hb0
    obtain ⟨ta',tc',hv',c0,c1,c2,c3,c4,c5,_⟩:=h k hlt
    have eta:ta=ta'∧tc=tc':=by rw [hv] at hv';simpa using hv'
    obtain ⟨rfl,rfl⟩:=eta
    clear hv' h
    replace c0:=(hcw _).trans c0
    replace c1:=(hcw _).trans c1
    replace c2:=(hcw _).trans c2
    replace c3:=(hcw _).trans c3
    replace c4:=(hcw _).trans c4
    replace c5:=(hcw _).trans c5
    have HMR:=H_ (fun W (hW:Below w.heap.size w W)=>impl_meter (V k) (ms.getD k Me.zero) W (HS.out k hlt).1 (HS.out k hlt).2 ((HI.out.below hW).is k hlt))
    have HWR:=H_ (ms_wrong (ms:=ms) hkl)
    have HFA:=H_ (ms_falls (ms:=ms) hkl)
    have HAL:=H_ (fun i (hi:i<k) e=>ms_alike (ms:=ms) hkl hi e)
    have HMO:=H_ (fun (h1:mB (ms.getD k Me.zero)=true) h2=>HK.out.more (mB_iff.1 h1) h2)
    have HHD:=H_ (has_delD ms (mapD ms V len) (mN ms k) k)
    have HHM:Hid (Maps.has (mapD ms V len) (kS (mN ms k))=true):=H_ ((has_mapD ms V (mN ms k) len).2 ⟨k,hlt,rfl⟩)
    have HDS:Hid (delD ms (mapD ms V len) (k+1)=(delD ms (mapD ms V len) k).del (kS (mN ms k))):=rfl
    have hnz:(mN ms k).size≤1048576:=(HS.out k hlt).1
    rw [hv] at HMR
    generalize mB (ms.getD k Me.zero)=r at *
    cases hh:Maps.has (delD ms (mapD ms V len) k) (kS (mN ms k))
    ·
     obtain ⟨i,hi,hie⟩:∃i,i<k∧mN ms i=mN ms k:=by
      apply Classical.byContradiction
      intro hne
      have:=HHD.out.2 ⟨HHM.out,fun i hi e=>hne ⟨i,hi,e⟩⟩
      rw [hh] at this
      cases this
     have HR:=H_ (HAL.out i hi hie)
     obtain ⟨j,hj⟩:∃j,j+1=k:=⟨k-1,by omega⟩
     have HT:=H_ (take_no w.heap.size len _ (mN ms k) (wr.alloc (.cells #[.string (mN ms k),.int .i64 (ms.getD k Me.zero).g,.bool (ms.getD k Me.zero).wh,.int .i64 (ms.getD k Me.zero).f,.int .i64 (ms.getD k Me.zero).l,.slice ta (ms.getD k Me.zero).ts.length tc] 150)) hnz (HO.out.alloc _) hh a0 (by have:=HB.out.size;simp only [World.alloc,Array.size_push];omega) (((HB.out.alloc HB.out.size _).cell (p:=⟨0,0,none⟩) hl0).trans hl1))
     generalize mN ms k=n at *
     generalize (ms.getD k Me.zero).ts.length=tl at *
     generalize (ms.getD k Me.zero).g=g at *
     generalize (ms.getD k Me.zero).wh=wh at *
     generalize (ms.getD k Me.zero).f=f at *
     generalize (ms.getD k Me.zero).l=l at *
     clear hv hh HWR HFA HMO HAL HHD HHM HDS hie hi hcw
     go_wp2_with fail
     refine HT.out.mono ?_
     rintro e w2 ⟨rfl,hbT⟩
     have hg:(wr.alloc (.cells #[.string n,.int .i64 g,.bool wh,.int .i64 f,.int .i64 l,.slice ta tl tc] 150)).grownBy w2 (some w.heap.size):=⟨hbT.os,hbT.tape,hbT.output,hbT.size,fun k hk _=>hbT.block k hk⟩
     have hsz:wr.heap.size<w2.heap.size:=by have:=hg.size;simp at this;omega
     have EM:=fun o=>World.cell?_of_block (a:=⟨wr.heap.size,o,none⟩) (hg.block wr.heap.size (by simp) (by simp;omega))
     have m0:w2.cell? ⟨wr.heap.size,0,none⟩=some (.string n):=(EM 0).trans (by simp [go_sem])
     have m1:w2.cell? ⟨wr.heap.size,1,none⟩=some (.int .i64 g):=(EM 1).trans (by simp [go_sem])
     have m2:w2.cell? ⟨wr.heap.size,2,none⟩=some (.bool wh):=(EM 2).trans (by simp [go_sem])
     have m3:w2.cell? ⟨wr.heap.size,3,none⟩=some (.int .i64 f):=(EM 3).trans (by simp [go_sem])
     have m4:w2.cell? ⟨wr.heap.size,4,none⟩=some (.int .i64 l):=(EM 4).trans (by simp [go_sem])
     have m5:w2.cell? ⟨wr.heap.size,5,none⟩=some (.slice ta tl tc):=(EM 5).trans (by simp [go_sem])
     have HB2:Hid (Below w.heap.size w w2):=H_ ((HB.out.alloc HB.out.size _).grown hg (HB.out.alloc HB.out.size _).size (fun k e=>by cases e;exact Nat.le_refl _))
     have g0:w2.cell? ⟨0,0,none⟩=some (.iface 283 (.pointer (some a0))):=(HB2.out.cell (p:=⟨0,0,none⟩) hl0).trans hl1
     have hl2:0<w2.heap.size:=by have:=HB2.out.size;omega
     have p2:∀j,j+1=k→w2.cell? ⟨b,off+j*6,none⟩=some (.string (mN ms j)):=fun j hj=>(HB2.out.cell (p:=⟨b,_,none⟩) hb0).trans (HP.out j hj)
     have HI2:=H_ (HI.out.below HB2.out)
     clear EM c0 c1 c2 c3 c4 c5
     have p3:=p2 j hj
     clear p2 hg hbT HT
     have HIS:=H_ (fun w=>IsR.is_same a0 w)
     have hj1:IntKind.i64.wrap ((k:Int)-1)=(j:Int):=by rw [IntKind.wrap_i64];omega
     have hj2:0<k:=by omega
     have hj3:(j:Int)<(len:Int):=by omega
     have hb2:b<w2.heap.size:=by have:=HB2.out.size;omega
     have HF:Hid (∀o m,Below w.heap.size w ((w2.alloc o).drewN m)):=H_ (fun o m=>bdrewN (HB2.out.alloc HB2.out.size o) m)
     clear hj
     go_wp2_with (go_at_call 164;refine (HIS.out _).mono ?_;rintro e w' ⟨rfl,rfl⟩)
     go_quiet (fail)
     go_wp2_with fail
     go_ret
     exact ⟨ret_bool HR.out.symm,HF.out _ _⟩
    ·have HAP:=H_ (HHD.out.1 hh).2
     obtain ⟨q,hq,hqz⟩:=at_mapD_some ms V (mN ms k) len ⟨k,hlt,rfl⟩
     obtain ⟨x0,x1,x2,x3,x4,x5,x6,x7,hvq⟩:=HVS.out q hq
     have HT:=H_ (take_has w.heap.size len _ (mN ms k) x0 x1 x2 x3 x4 x5 x6 x7 (wr.alloc (.cells #[.string (mN ms k),.int .i64 (ms.getD k Me.zero).g,.bool (ms.getD k Me.zero).wh,.int .i64 (ms.getD k Me.zero).f,.int .i64 (ms.getD k Me.zero).l,.slice ta (ms.getD k Me.zero).ts.length tc] 150)) hnz (HO.out.alloc _) hh (fun z=>by rw [at_delD ms _ (mN ms k) z k HAP.out,hqz z,hvq]))
     have HHE:=H_ hh
     have HRI:Hid (lt (mN ms k) (mN ms (k-1))=false→0<k→lt (mN ms (k-1)) (mN ms k)=true):=H_ (fun h1 h0=>by
      cases h2:lt (mN ms (k-1)) (mN ms k)
      ·exact absurd (lt_total h2 h1) (HAP.out (k-1) (by omega))
      ·rfl)
     clear hh hqz hvq
     rw [←HDS.out] at HT
     generalize mN ms k=n at *
     generalize (ms.getD k Me.zero).ts.length=tl at *
     generalize (ms.getD k Me.zero).g=g at *
     generalize (ms.getD k Me.zero).wh=wh at *
     generalize (ms.getD k Me.zero).f=f at *
     generalize (ms.getD k Me.zero).l=l at *
     clear hv HAL HHD HHM HDS hcw HHE
     go_wp2_with fail
     refine HT.out.mono ?_
     rintro e w2 ⟨rfl,hown2,hg⟩
     have HO2:=H_ hown2
     have hsz:wr.heap.size<w2.heap.size:=by have:=hg.size;simp at this;omega
     have EM:=fun o=>World.cell?_of_block (a:=⟨wr.heap.size,o,none⟩) (hg.block wr.heap.size (by simp) (by simp;omega))
     have m0:w2.cell? ⟨wr.heap.size,0,none⟩=some (.string n):=(EM 0).trans (by simp [go_sem])
     have m1:w2.cell? ⟨wr.heap.size,1,none⟩=some (.int .i64 g):=(EM 1).trans (by simp [go_sem])
     have m2:w2.cell? ⟨wr.heap.size,2,none⟩=some (.bool wh):=(EM 2).trans (by simp [go_sem])
     have m3:w2.cell? ⟨wr.heap.size,3,none⟩=some (.int .i64 f):=(EM 3).trans (by simp [go_sem])
     have m4:w2.cell? ⟨wr.heap.size,4,none⟩=some (.int .i64 l):=(EM 4).trans (by simp [go_sem])
     have m5:w2.cell? ⟨wr.heap.size,5,none⟩=some (.slice ta tl tc):=(EM 5).trans (by simp [go_sem])
     have HB2:Hid (Below w.heap.size w w2):=H_ ((HB.out.alloc HB.out.size _).grown hg (HB.out.alloc HB.out.size _).size (fun k e=>by cases e;exact Nat.le_refl _))
     have g0:w2.cell? ⟨0,0,none⟩=some (.iface 283 (.pointer (some a0))):=(HB2.out.cell (p:=⟨0,0,none⟩) hl0).trans hl1
     have hl2:0<w2.heap.size:=by have:=HB2.out.size;omega
     have p2:∀j,j+1=k→w2.cell? ⟨b,off+j*6,none⟩=some (.string (mN ms j)):=fun j hj=>(HB2.out.cell (p:=⟨b,_,none⟩) hb0).trans (HP.out j hj)
     have HI2:=H_ (HI.out.below HB2.out)
     clear EM c0 c1 c2 c3 c4 c5
     clear hg hown2 HT
     have HIS:=H_ (fun w=>IsR.is_nil a0 w)
     have hb2:b<w2.heap.size:=by have:=HB2.out.size;omega
     have HF:Hid (∀o m,Below w.heap.size w ((w2.alloc o).drewN m)):=H_ (fun o m=>bdrewN (HB2.out.alloc HB2.out.size o) m)
     have HFO:Hid (∀o m,((w2.alloc o).drewN m).ownsMap Tryz.prog 9 RV w.heap.size len (delD ms (mapD ms V len) (k+1))):=H_ (fun o m=>by obtain ⟨es,c,h⟩:=HO2.out.alloc o;exact ⟨es,c,h⟩)
     rcases (show k=0∨∃j,j+1=k from by rcases k with _|j;exact .inl rfl;exact .inr ⟨j,rfl⟩) with rfl|⟨j,hj⟩
     ·go_wp2_with (go_at_call 164;refine (HIS.out _).mono ?_;rintro e w' ⟨rfl,rfl⟩)
      go_quiet (fail)
      go_wp2_with fail
      refine (HMR.out _ (HF.out _ _)).mono ?_
      rintro e w5 ⟨rfl,hb5⟩
      have HB5:=H_ ((HF.out _ _).trans (hb5.mono (HF.out _ _).size))
      have HO5:=H_ ((HFO.out _ _).kept (row:=none) ⟨hb5.os,hb5.tape,hb5.output,hb5.size,fun k hk _=>hb5.block k hk⟩ (by simp))
      clear hb5
      cases r
      ·have HR:=H_ (HWR.out rfl)
       go_wp2_with fail
       go_ret
       exact ⟨ret_bool HR.out.symm,HB5.out⟩
      ·have HM:=H_ (HMO.out rfl (fun h=>absurd h (by omega)))
       go_wp2_with fail
       go_roundw
       case rel=>exact ⟨0+1,by omega,by go_num,HM,HB5,HO5⟩
       case measure=>simp [intOf];omega
     ·have p3:=p2 j hj
      clear p2
      have hj1:IntKind.i64.wrap ((k:Int)-1)=(j:Int):=by rw [IntKind.wrap_i64];omega
      have hj2:0<k:=by omega
      have hj3:(j:Int)<(len:Int):=by omega
      have ejk:k-1=j:=by omega
      rw [ejk] at HFA HRI HMO
      clear hj ejk
      cases hfl:Op.bytesLess n.toList (mN ms j).toList
      ·have HRI2:=H_ (HRI.out hfl hj2)
       go_wp2_with (go_at_call 164;refine (HIS.out _).mono ?_;rintro e w' ⟨rfl,rfl⟩)
       go_quiet (fail)
       go_wp2_with fail
       refine (HMR.out _ (HF.out _ _)).mono ?_
       rintro e w5 ⟨rfl,hb5⟩
       have HB5:=H_ ((HF.out _ _).trans (hb5.mono (HF.out _ _).size))
       have HO5:=H_ ((HFO.out _ _).kept (row:=none) ⟨hb5.os,hb5.tape,hb5.output,hb5.size,fun k hk _=>hb5.block k hk⟩ (by simp))
       clear hb5
       cases r
       ·have HR:=H_ (HWR.out rfl)
        go_wp2_with fail
        go_ret
        exact ⟨ret_bool HR.out.symm,HB5.out⟩
       ·have HM:=H_ (HMO.out rfl (fun _=>HRI2.out))
        go_wp2_with fail
        go_roundw
        case rel=>exact ⟨k+1,by omega,by go_num,HM,HB5,HO5⟩
        case measure=>simp [intOf];omega
      ·have HR:=H_ (HFA.out hj2 hfl)
       go_wp2_with (go_at_call 164;refine (HIS.out _).mono ?_;rintro e w' ⟨rfl,rfl⟩)
       go_quiet (fail)
       go_wp2_with fail
       go_ret
       exact ⟨ret_bool HR.out.symm,HF.out _ _⟩
   ·obtain rfl:k=len:=by omega
    have HR:Hid (msB ms=true):=H_ (ms_end (by have:=HZ.out;omega) (by rw [HZ.out];exact HK.out))
    go_wp2_with fail
    go_ret
    exact ⟨ret_bool HR.out.symm,HB.out⟩
end CatR
end Go.Proofs.YtnceeaccbcfopaaGreatDoor
