/-
  What the program calls right meters. The conditions: at most 1048576 of them, each small; the program's own error stands in its variable.
  Where a name stands among meters, as the model finds it. The condition: at most 1048576 meters.
  What right entries are: both sides say the same. The condition: at most 1048576 entries, whose Ids have at most 1048576 bytes.
  Arithmetic alone: leap years, the days of months and years, and which year and month a day lies in. No condition.
  Arithmetic alone: the first day of a month that is counted from January 1970, and which month a right date lies in. No condition.
  What a right event is: both sides say the same. No condition but the lengths.
-/
import Derived.Deep.RegionHeld3
import Derived.BigQuiet
import Derived.Deep.QuietTactic
import Derived.Test.YtmalfhhkjdkadaaGreatDoorN5
namespace Go.Proofs.YtmalfhhkjdkadaaGreatDoor
open Go.ChangeShapes Go.WideShapes Go.ChangeAt Go.RowKit
set_option linter.unusedVariables false
namespace CatR
set_option maxRecDepth 100000 in
set_option maxHeartbeats 8000000 in
theorem impl_ms (ao:Option Addr) (len cap:Nat) (ms:List Me) (V:Nat→Value) (w:World) (hz:ms.length=len) (hlen:len≤1048576) (hS:∀i,i<len→(ms.getD i Me.zero).Small) (hI:MesV ao len ms V w) (hL:Laid w) :
 Calls Tryz.prog 113 #[.slice ao len cap] w fun e w'=>e=.returned (.bool (msB ms))∧Below w.heap.size w w':=by
 by_cases h6:6<len
 ·have h6':(6:Int)<(len:Int):=by omega
  have HR:=hid_intro (ms_many (ms:=ms) (by omega))
  clear hI hS hL
  go_enter Tryz.func113,Tryz.ntmps113
  go_wp2_with fail
  go_ret
  exact ⟨ret_bool HR.out.symm,Below.refl _ _⟩
 ·have h6':¬(6:Int)<(len:Int):=by omega
  have HN:=hid_intro (byName_any ao len cap ms V w (by omega) (fun i hi=>(hS i hi).1) hI)
  have HI:=hid_intro hI
  have HS:=hid_intro hS
  have HL:=hid_intro hL
  have HZ:=hid_intro hz
  obtain ⟨hl0,a0,hl1⟩:=hL
  clear hI hS
  go_enter Tryz.func113,Tryz.ntmps113
  go_wp2_with fail
  refine HN.out.mono ?_
  rintro e w1 ⟨rfl,hown1,hb1⟩
  have HB1:=hid_intro hb1
  have HO1:=hid_intro hown1
  clear hown1 hb1
  go_wp2_with fail
  go_loopw [17] (fun z wr=>∃k:Nat,k≤len∧z=.int .i64 k∧Hid (MOk ms k)∧Hid (Below w.heap.size w wr)∧Hid (wr.ownsMap Tryz.prog 9 RV w.heap.size len (delD ms (mapD ms V len) k))) (fun z _=>len-(intOf z).toNat)
  case atStart=>exact ⟨0,by omega,rfl,hid_intro (MOk.zero ms),HB1,HO1⟩
  case round =>
   obtain ⟨k,hk,rfl,HK,HB,HO⟩:=hrel
   have hwr:=HO.out.lt
   by_cases hlt:k<len
   ·have hlt2:(k:Int)<(len:Int):=by omega
    have hkl:k<ms.length:=by have:=HZ.out;omega
    rcases HI.out with h|⟨b,off,rfl,hb0,h⟩
    ·omega
    have HP:Hid (∀j,j+1=k→w.cell? ⟨b,off+j*6,none⟩=some (.string (mN ms j))):=hid_intro (fun j hj=>by
     obtain ⟨_,_,_,q,_⟩:=h j (by omega)
     exact q)
    have HVS:Hid (∀j,j<len→∃x0 x1 x2 x3 x4 x5 x6 x7,V j=.agg #[.string x0,.int .i64 x1,.bool x2,.int .i64 x3,.int .i64 x4,.slice x5 x6 x7]):=hid_intro (fun j hj=>by
     obtain ⟨_,_,q,_⟩:=h j hj
     exact ⟨_,_,_,_,_,_,_,_,q⟩)
    obtain ⟨ta,tc,hv,_,_,_,_,_,_,_⟩:=h k hlt
    have hbl:b<wr.heap.size:=by have:=HB.out.size;omega
    have hcw:=fun o=>HB.out.cell (p:=⟨b,o,none⟩) hb0
    obtain ⟨ta',tc',hv',c0,c1,c2,c3,c4,c5,_⟩:=h k hlt
    have eta:ta=ta'∧tc=tc':=by rw [hv] at hv';simpa using hv'
    obtain ⟨rfl,rfl⟩:=eta
    clear hv' h
    replace c0:=(hcw _).trans c0
    replace c1:=(hcw _).trans c1
    replace c2:=(hcw _).trans c2
    replace c3:=(hcw _).trans c3
    replace c4:=(hcw _).trans c4
    replace c5:=(hcw _).trans c5
    have HMR:=hid_intro (fun W (hW:Below w.heap.size w W)=>impl_meter (V k) (ms.getD k Me.zero) W (HS.out k hlt).1 (HS.out k hlt).2 ((HI.out.below hW).is k hlt))
    have HWR:=hid_intro (ms_wrong (ms:=ms) hkl)
    have HFA:=hid_intro (ms_falls (ms:=ms) hkl)
    have HAL:=hid_intro (fun i (hi:i<k) e=>ms_alike (ms:=ms) hkl hi e)
    have HMO:=hid_intro (fun (h1:mB (ms.getD k Me.zero)=true) h2=>HK.out.more (mB_iff.1 h1) h2)
    have HHD:=hid_intro (has_delD ms (mapD ms V len) (mN ms k) k)
    have HHM:Hid (Maps.has (mapD ms V len) (kS (mN ms k))=true):=hid_intro ((has_mapD ms V (mN ms k) len).2 ⟨k,hlt,rfl⟩)
    have HDS:Hid (delD ms (mapD ms V len) (k+1)=(delD ms (mapD ms V len) k).del (kS (mN ms k))):=rfl
    have hnz:(mN ms k).size≤1048576:=(HS.out k hlt).1
    rw [hv] at HMR
    generalize mB (ms.getD k Me.zero)=r at *
    cases hh:Maps.has (delD ms (mapD ms V len) k) (kS (mN ms k))
    ·
     obtain ⟨i,hi,hie⟩:∃i,i<k∧mN ms i=mN ms k:=by
      apply Classical.byContradiction
      intro hne
      have:=HHD.out.2 ⟨HHM.out,fun i hi e=>hne ⟨i,hi,e⟩⟩
      rw [hh] at this
      cases this
     have HR:=hid_intro (HAL.out i hi hie)
     obtain ⟨j,hj⟩:∃j,j+1=k:=⟨k-1,by omega⟩
     have HT:=hid_intro (take_no w.heap.size len _ (mN ms k) (wr.alloc (.cells #[.string (mN ms k),.int .i64 (ms.getD k Me.zero).g,.bool (ms.getD k Me.zero).wh,.int .i64 (ms.getD k Me.zero).f,.int .i64 (ms.getD k Me.zero).l,.slice ta (ms.getD k Me.zero).ts.length tc] 119)) hnz (HO.out.alloc _) hh a0 (by have:=HB.out.size;simp only [World.alloc,Array.size_push];omega) (((HB.out.alloc HB.out.size _).cell (p:=⟨0,0,none⟩) hl0).trans hl1))
     generalize mN ms k=n at *
     generalize (ms.getD k Me.zero).ts.length=tl at *
     generalize (ms.getD k Me.zero).g=g at *
     generalize (ms.getD k Me.zero).wh=wh at *
     generalize (ms.getD k Me.zero).f=f at *
     generalize (ms.getD k Me.zero).l=l at *
     clear hv hh HWR HFA HMO HAL HHD HHM HDS hie hi hcw
     go_wp2_with fail
     refine HT.out.mono ?_
     rintro e w2 ⟨rfl,hbT⟩
     have hg:(wr.alloc (.cells #[.string n,.int .i64 g,.bool wh,.int .i64 f,.int .i64 l,.slice ta tl tc] 119)).grownBy w2 (some w.heap.size):=⟨hbT.os,hbT.tape,hbT.output,hbT.size,fun k hk _=>hbT.block k hk⟩
     have hsz:wr.heap.size<w2.heap.size:=by have:=hg.size;simp at this;omega
     have EM:=fun o=>World.cell?_of_block (a:=⟨wr.heap.size,o,none⟩) (hg.block wr.heap.size (by simp) (by simp;omega))
     have m0:w2.cell? ⟨wr.heap.size,0,none⟩=some (.string n):=(EM 0).trans (by simp [go_sem])
     have m1:w2.cell? ⟨wr.heap.size,1,none⟩=some (.int .i64 g):=(EM 1).trans (by simp [go_sem])
     have m2:w2.cell? ⟨wr.heap.size,2,none⟩=some (.bool wh):=(EM 2).trans (by simp [go_sem])
     have m3:w2.cell? ⟨wr.heap.size,3,none⟩=some (.int .i64 f):=(EM 3).trans (by simp [go_sem])
     have m4:w2.cell? ⟨wr.heap.size,4,none⟩=some (.int .i64 l):=(EM 4).trans (by simp [go_sem])
     have m5:w2.cell? ⟨wr.heap.size,5,none⟩=some (.slice ta tl tc):=(EM 5).trans (by simp [go_sem])
     have HB2:Hid (Below w.heap.size w w2):=hid_intro ((HB.out.alloc HB.out.size _).grown hg (HB.out.alloc HB.out.size _).size (fun k e=>by cases e;exact Nat.le_refl _))
     have g0:w2.cell? ⟨0,0,none⟩=some (.iface 322 (.pointer (some a0))):=(HB2.out.cell (p:=⟨0,0,none⟩) hl0).trans hl1
     have hl2:0<w2.heap.size:=by have:=HB2.out.size;omega
     have p2:∀j,j+1=k→w2.cell? ⟨b,off+j*6,none⟩=some (.string (mN ms j)):=fun j hj=>(HB2.out.cell (p:=⟨b,_,none⟩) hb0).trans (HP.out j hj)
     have HI2:=hid_intro (HI.out.below HB2.out)
     clear EM c0 c1 c2 c3 c4 c5
     have p3:=p2 j hj
     clear p2 hg hbT HT
     have HIS:=hid_intro (fun w=>IsR.is_same a0 w)
     have hj1:IntKind.i64.wrap ((k:Int)-1)=(j:Int):=by rw [IntKind.wrap_i64];omega
     have hj2:0<k:=by omega
     have hj3:(j:Int)<(len:Int):=by omega
     have hb2:b<w2.heap.size:=by have:=HB2.out.size;omega
     have HF:Hid (∀o m,Below w.heap.size w ((w2.alloc o).drewN m)):=hid_intro (fun o m=>bdrewN (HB2.out.alloc HB2.out.size o) m)
     clear hj
     go_wp2_with (go_at_call 154;refine (HIS.out _).mono ?_;rintro e w' ⟨rfl,rfl⟩)
     go_quiet (fail)
     go_wp2_with fail
     go_ret
     exact ⟨ret_bool HR.out.symm,HF.out _ _⟩
    ·have HAP:=hid_intro (HHD.out.1 hh).2
     obtain ⟨q,hq,hqz⟩:=at_mapD_some ms V (mN ms k) len ⟨k,hlt,rfl⟩
     obtain ⟨x0,x1,x2,x3,x4,x5,x6,x7,hvq⟩:=HVS.out q hq
     have HT:=hid_intro (take_has w.heap.size len _ (mN ms k) x0 x1 x2 x3 x4 x5 x6 x7 (wr.alloc (.cells #[.string (mN ms k),.int .i64 (ms.getD k Me.zero).g,.bool (ms.getD k Me.zero).wh,.int .i64 (ms.getD k Me.zero).f,.int .i64 (ms.getD k Me.zero).l,.slice ta (ms.getD k Me.zero).ts.length tc] 119)) hnz (HO.out.alloc _) hh (fun z=>by rw [at_delD ms _ (mN ms k) z k HAP.out,hqz z,hvq]))
     have HHE:=hid_intro hh
     have HRI:Hid (lt (mN ms k) (mN ms (k-1))=false→0<k→lt (mN ms (k-1)) (mN ms k)=true):=hid_intro (fun h1 h0=>by
      cases h2:lt (mN ms (k-1)) (mN ms k)
      ·exact absurd (lt_total h2 h1) (HAP.out (k-1) (by omega))
      ·rfl)
     clear hh hqz hvq
     rw [←HDS.out] at HT
     generalize mN ms k=n at *
     generalize (ms.getD k Me.zero).ts.length=tl at *
     generalize (ms.getD k Me.zero).g=g at *
     generalize (ms.getD k Me.zero).wh=wh at *
     generalize (ms.getD k Me.zero).f=f at *
     generalize (ms.getD k Me.zero).l=l at *
     clear hv HAL HHD HHM HDS hcw HHE
     go_wp2_with fail
     refine HT.out.mono ?_
     rintro e w2 ⟨rfl,hown2,hg⟩
     have HO2:=hid_intro hown2
     have hsz:wr.heap.size<w2.heap.size:=by have:=hg.size;simp at this;omega
     have EM:=fun o=>World.cell?_of_block (a:=⟨wr.heap.size,o,none⟩) (hg.block wr.heap.size (by simp) (by simp;omega))
     have m0:w2.cell? ⟨wr.heap.size,0,none⟩=some (.string n):=(EM 0).trans (by simp [go_sem])
     have m1:w2.cell? ⟨wr.heap.size,1,none⟩=some (.int .i64 g):=(EM 1).trans (by simp [go_sem])
     have m2:w2.cell? ⟨wr.heap.size,2,none⟩=some (.bool wh):=(EM 2).trans (by simp [go_sem])
     have m3:w2.cell? ⟨wr.heap.size,3,none⟩=some (.int .i64 f):=(EM 3).trans (by simp [go_sem])
     have m4:w2.cell? ⟨wr.heap.size,4,none⟩=some (.int .i64 l):=(EM 4).trans (by simp [go_sem])
     have m5:w2.cell? ⟨wr.heap.size,5,none⟩=some (.slice ta tl tc):=(EM 5).trans (by simp [go_sem])
     have HB2:Hid (Below w.heap.size w w2):=hid_intro ((HB.out.alloc HB.out.size _).grown hg (HB.out.alloc HB.out.size _).size (fun k e=>by cases e;exact Nat.le_refl _))
     have g0:w2.cell? ⟨0,0,none⟩=some (.iface 322 (.pointer (some a0))):=(HB2.out.cell (p:=⟨0,0,none⟩) hl0).trans hl1
     have hl2:0<w2.heap.size:=by have:=HB2.out.size;omega
     have p2:∀j,j+1=k→w2.cell? ⟨b,off+j*6,none⟩=some (.string (mN ms j)):=fun j hj=>(HB2.out.cell (p:=⟨b,_,none⟩) hb0).trans (HP.out j hj)
     have HI2:=hid_intro (HI.out.below HB2.out)
     clear EM c0 c1 c2 c3 c4 c5
     clear hg hown2 HT
     have HIS:=hid_intro (fun w=>IsR.is_nil a0 w)
     have hb2:b<w2.heap.size:=by have:=HB2.out.size;omega
     have HF:Hid (∀o m,Below w.heap.size w ((w2.alloc o).drewN m)):=hid_intro (fun o m=>bdrewN (HB2.out.alloc HB2.out.size o) m)
     have HFO:Hid (∀o m,((w2.alloc o).drewN m).ownsMap Tryz.prog 9 RV w.heap.size len (delD ms (mapD ms V len) (k+1))):=hid_intro (fun o m=>by obtain ⟨es,c,h⟩:=HO2.out.alloc o;exact ⟨es,c,h⟩)
     rcases (show k=0∨∃j,j+1=k from by rcases k with _|j;exact .inl rfl;exact .inr ⟨j,rfl⟩) with rfl|⟨j,hj⟩
     ·go_wp2_with (go_at_call 154;refine (HIS.out _).mono ?_;rintro e w' ⟨rfl,rfl⟩)
      go_quiet (fail)
      go_wp2_with fail
      refine (HMR.out _ (HF.out _ _)).mono ?_
      rintro e w5 ⟨rfl,hb5⟩
      have HB5:=hid_intro ((HF.out _ _).trans (hb5.mono (HF.out _ _).size))
      have HO5:=hid_intro ((HFO.out _ _).kept (row:=none) ⟨hb5.os,hb5.tape,hb5.output,hb5.size,fun k hk _=>hb5.block k hk⟩ (by simp))
      clear hb5
      cases r
      ·have HR:=hid_intro (HWR.out rfl)
       go_wp2_with fail
       go_ret
       exact ⟨ret_bool HR.out.symm,HB5.out⟩
      ·have HM:=hid_intro (HMO.out rfl (fun h=>absurd h (by omega)))
       go_wp2_with fail
       go_roundw
       case rel=>exact ⟨0+1,by omega,by go_num,HM,HB5,HO5⟩
       case measure=>simp [intOf];omega
     ·have p3:=p2 j hj
      clear p2
      have hj1:IntKind.i64.wrap ((k:Int)-1)=(j:Int):=by rw [IntKind.wrap_i64];omega
      have hj2:0<k:=by omega
      have hj3:(j:Int)<(len:Int):=by omega
      have ejk:k-1=j:=by omega
      rw [ejk] at HFA HRI HMO
      clear hj ejk
      cases hfl:Op.bytesLess n.toList (mN ms j).toList
      ·have HRI2:=hid_intro (HRI.out hfl hj2)
       go_wp2_with (go_at_call 154;refine (HIS.out _).mono ?_;rintro e w' ⟨rfl,rfl⟩)
       go_quiet (fail)
       go_wp2_with fail
       refine (HMR.out _ (HF.out _ _)).mono ?_
       rintro e w5 ⟨rfl,hb5⟩
       have HB5:=hid_intro ((HF.out _ _).trans (hb5.mono (HF.out _ _).size))
       have HO5:=hid_intro ((HFO.out _ _).kept (row:=none) ⟨hb5.os,hb5.tape,hb5.output,hb5.size,fun k hk _=>hb5.block k hk⟩ (by simp))
       clear hb5
       cases r
       ·have HR:=hid_intro (HWR.out rfl)
        go_wp2_with fail
        go_ret
        exact ⟨ret_bool HR.out.symm,HB5.out⟩
       ·have HM:=hid_intro (HMO.out rfl (fun _=>HRI2.out))
        go_wp2_with fail
        go_roundw
        case rel=>exact ⟨k+1,by omega,by go_num,HM,HB5,HO5⟩
        case measure=>simp [intOf];omega
      ·have HR:=hid_intro (HFA.out hj2 hfl)
       go_wp2_with (go_at_call 154;refine (HIS.out _).mono ?_;rintro e w' ⟨rfl,rfl⟩)
       go_quiet (fail)
       go_wp2_with fail
       go_ret
       exact ⟨ret_bool HR.out.symm,HF.out _ _⟩
   ·obtain rfl:k=len:=by omega
    have HR:Hid (msB ms=true):=hid_intro (ms_end (by have:=HZ.out;omega) (by rw [HZ.out];exact HK.out))
    go_wp2_with fail
    go_ret
    exact ⟨ret_bool HR.out.symm,HB.out⟩
end CatR
namespace CatR
open EvtR (Pt)
theorem beq_noA {a t:ByteArray} (h:a≠t):(a.toList==t.toList)=false:=by
 simpa using fun q=>h (LtR.toList_inj q)
def atB (ms:List Me) (t:ByteArray) (r:Int):Prop:=(∃k:Nat,k<ms.length∧r=k∧mN ms k=t∧∀i,i<k→mN ms i≠t)∨(r=-1∧∀i,i<ms.length→mN ms i≠t)
set_option maxRecDepth 100000 in
set_option maxHeartbeats 4000000 in
theorem spec_at (ma:Option Addr) (mc:Nat) (ca:Option Addr) (cl cc:Nat) (ms:List Me) (t:ByteArray) (w:World) (hl:ms.length≤1048576) (hM:Mes ma ms.length ms w) :
 Calls Tryz.prog 55 #[.agg #[.slice ma ms.length mc,.slice ca cl cc],.string t] w fun e w'=>∃r,e=.returned (.int .i64 r)∧atB ms t r∧Below w.heap.size w w':=by
 have HM:=hid_intro hM
 have HA:Hid (∀r,(∃k:Nat,k<ms.length∧r=(k:Int)∧mN ms k=t∧∀i,i<k→mN ms i≠t)∨(r=-1∧∀i,i<ms.length→mN ms i≠t)→atB ms t r):=hid_intro (fun r h=>h)
 have HB0:Hid (Below w.heap.size w (w.alloc (.cells #[.slice ma ms.length mc,.slice ca cl cc] 40))):=hid_intro ((Below.refl _ _).alloc (Nat.le_refl _) _)
 have HX0:Hid (Blk w.heap.size [.slice ma ms.length mc,.slice ca cl cc] (w.alloc (.cells #[.slice ma ms.length mc,.slice ca cl cc] 40))):=hid_intro (Blk.new w _ _)
 generalize hml:ms.length=ml at *
 clear hM
 go_enter Tryz.func55,Tryz.ntmps55
 go_wp2_with fail
 go_loopw [5] (fun z wr=>∃k:Nat,k≤ml∧z=.int .i64 k∧Hid (∀i,i<k→mN ms i≠t)∧Hid (Below w.heap.size w wr)∧Hid (Blk w.heap.size [.slice ma ml mc,.slice ca cl cc] wr)) (fun z _=>ml-(intOf z).toNat)
 case atStart=>exact ⟨0,by omega,rfl,hid_intro (fun i h=>absurd h (by omega)),HB0,HX0⟩
 case round =>
  obtain ⟨k,hk,rfl,HK,HB,HX⟩:=hrel
  have x0:wr.cell? ⟨w.heap.size,0,none⟩=some (.slice ma ml mc):=HX.out.2 0 (by simp)
  have xl:=HX.out.1
  by_cases hlt:k<ml
  ·have hlt2:(k:Int)<(ml:Int):=by omega
   obtain ⟨b,off,rfl,hbl,ta,tc,c0,c1,c2,c3,c4,c5,hTT⟩:=mes_at (HM.out.below HB.out) k hlt
   replace c0:wr.cell? ⟨b,off+k*6,none⟩=some (.string (mN ms k)):=c0
   clear c1 c2 c3 c4 c5 hTT
   by_cases he:mN ms k=t
   ·have HR:=hid_intro (HA.out (k:Int) (.inl ⟨k,hlt,rfl,he,HK.out⟩))
    rw [he] at c0
    clear he
    go_wp2_with fail
    go_ret
    exact ⟨_,rfl,HR.out,HB.out⟩
   ·have HK2:Hid (∀i,i<k+1→mN ms i≠t):=hid_intro (fun i hi=>by
     by_cases e:i=k
     ·subst e;exact he
     ·exact HK.out i (by omega))
    have hb:=beq_noA he
    have hne:(mN ms k).toList≠t.toList:=by simpa using hb
    clear he
    generalize mN ms k=n at *
    go_wp2_with fail
    go_roundw
    case rel=>exact ⟨k+1,by omega,by go_num,HK2,HB,HX⟩
    case measure=>simp [intOf];omega
  ·have hlt2:¬(k:Int)<(ml:Int):=by omega
   have HR:=hid_intro (HA.out (-1) (.inr ⟨rfl,fun i hi=>HK.out i (by omega)⟩))
   go_wp2_with fail
   go_ret
   exact ⟨_,rfl,HR.out,HB.out⟩
end CatR
namespace SeenR
open RowG WordR LtR
open EvtR (idB within_any minute_any is_any sminute_any impl_id empty_of full_of)
def eOk (x:N):Bool:=idB x.i&&(decide (0≤x.n∧x.n≤121000000)&&decide (0≤x.s∧x.s≤4294967295))
def ahd (es:List N):Nat→ByteArray
 | 0=>⟨#[]⟩
 | k+1=>(es.getD k N.zero).i
def SOk (es:List N) (k:Nat):Prop:=∀i,i<k→lt (ahd es i) (es.getD i N.zero).i=true∧eOk (es.getD i N.zero)=true
def SRight (es:List N):Prop:=es.length≤40∧SOk es es.length
def SOkDec (es:List N) (k:Nat):Decidable (SOk es k):=inferInstanceAs (Decidable (∀i,i<k→lt (ahd es i) (es.getD i N.zero).i=true∧eOk (es.getD i N.zero)=true))
def SRightDec (es:List N):Decidable (SRight es) :=
 haveI:=SOkDec es es.length
 inferInstanceAs (Decidable (es.length≤40∧SOk es es.length))
def sB (es:List N):Bool:=@decide (SRight es) (SRightDec es)
theorem sB_no {es:List N} (h:¬SRight es):sB es=false:=by unfold sB;exact @decide_eq_false _ (SRightDec es) h
theorem sB_yes {es:List N} (h:SRight es):sB es=true:=by unfold sB;exact @decide_eq_true _ (SRightDec es) h
theorem sB_iff {es:List N}:sB es=true↔SRight es:=by unfold sB;exact @decide_eq_true_iff _ (SRightDec es)
theorem SOk.zero (es:List N):SOk es 0:=fun i h=>absurd h (by omega)
theorem SOk.more {es:List N} {k:Nat} (h:SOk es k) (h1:lt (ahd es k) (es.getD k N.zero).i=true) (h2:eOk (es.getD k N.zero)=true):SOk es (k+1):=by
 intro i hi
 by_cases e:i=k
 ·subst e;exact ⟨h1,h2⟩
 ·exact h i (by omega)
theorem sB_false {es:List N} {k:Nat} (hk:k<es.length) (h:¬(lt (ahd es k) (es.getD k N.zero).i=true∧eOk (es.getD k N.zero)=true)):sB es=false:=sB_no (fun hr=>h (hr.2 k hk))
theorem sB_long {es:List N} (h:40<es.length):sB es=false:=sB_no (fun hr=>by have:=hr.1;omega)
theorem id_pos {s:ByteArray} (h:idB s=true):1≤s.size:=by
 unfold idB at h
 simp at h
 exact h.1.1
theorem three (b1 b2 b3:Bool):(b1=false)∨(b1=true∧b2=false)∨(b1=true∧b2=true∧b3=false)∨(b1=true∧b2=true∧b3=true):=by
 cases b1<;>cases b2<;>cases b3<;>simp
theorem impl_entry (i:ByteArray) (n s:Int) (w:World) (hs:i.size≤1048576):Calls Tryz.prog 162 #[.agg #[.string i,.int .i64 n,.int .i64 s]] w fun e w'=>e=.returned (.bool (eOk ⟨i,n,s⟩))∧Below w.heap.size w w':=by
 have H1:=hid_intro (fun w=>impl_id i w hs)
 have H2:=hid_intro (fun w=>minute_any n w)
 have H3:=hid_intro (fun w=>within_any s 0 4294967295 w)
 unfold eOk
 dsimp only
 generalize idB i=b1 at *
 generalize decide (0≤n∧n≤121000000)=b2 at *
 generalize decide (0≤s∧s≤4294967295)=b3 at *
 rcases three b1 b2 b3 with rfl|⟨rfl,rfl⟩|⟨rfl,rfl,rfl⟩|⟨rfl,rfl,rfl⟩
 all_goals
  go_enter Tryz.func162,Tryz.ntmps162
  go_wp2_with (first|(go_at_call 193;refine (H1.out _).mono ?_;rintro e w1 ⟨rfl,hb1⟩;obtain ⟨hc,hz⟩:=bcell hb1)|(go_at_call 115;refine (H2.out _).mono ?_;rintro e w' ⟨rfl,rfl⟩)|(go_at_call 118;refine (H3.out _).mono ?_;rintro e w' ⟨rfl,rfl⟩))
  go_ret
  exact ⟨rfl,bel_alloc hb1⟩
theorem bdrewN {B:Nat} {a w:World} (h:Below B a w) (n:Nat):Below B a (w.drewN n):=⟨h.os,h.tape,h.output,h.size,h.block⟩
theorem le_ge1 {x a:ByteArray} (h:Op.bytesLess x.toList a.toList=true):Op.bytesLess a.toList x.toList=false:=lt_asymm h
theorem le_cases (x a:ByteArray):(Op.bytesLess x.toList a.toList=true∧lt a x=false)∨(Op.bytesLess x.toList a.toList=false∧x.toList=a.toList∧(x.toList==a.toList)=true∧lt a x=false)∨(Op.bytesLess x.toList a.toList=false∧x.toList≠a.toList∧(x.toList==a.toList)=false∧lt a x=true):=by
 cases h:lt x a
 ·by_cases e:x=a
  ·subst e;exact .inr (.inl ⟨h,rfl,by simp,h⟩)
  ·have ne:x.toList≠a.toList:=fun q=>e (toList_inj q)
   refine .inr (.inr ⟨h,ne,by simpa using ne,?_⟩)
   cases h2:lt a x
   ·exact absurd (lt_total h h2) e
   ·rfl
 ·exact .inl ⟨h,lt_asymm h⟩
set_option maxRecDepth 100000 in
set_option maxHeartbeats 4000000 in
theorem impl_seen (ao:Option Addr) (cap:Nat) (es:List N) (w:World) (hlen:es.length≤1048576) (hS:∀e∈es,e.i.size≤1048576) (hI:Ens ao es w) :
 Calls Tryz.prog 121 #[.slice ao es.length cap] w fun e w'=>e=.returned (.bool (sB es))∧Below w.heap.size w w':=by
 by_cases h40:40<es.length
 ·have HR:=hid_intro (sB_long h40)
  obtain ⟨len,hl⟩:∃len,len=es.length:=⟨_,rfl⟩
  rw [←hl] at hlen h40 ⊢
  have h40':(40:Int)<(len:Int):=by omega
  clear hI hS hl
  go_enter Tryz.func121,Tryz.ntmps121
  go_wp2_with fail
  go_ret
  exact ⟨ret_bool HR.out.symm,Below.refl _ _⟩
 ·have HT0:=hid_intro (fun k (hk:k<es.length)=>sB_false (es:=es) hk)
  have HTE:=hid_intro (fun h=>sB_yes (es:=es) ⟨by omega,h⟩)
  have HI:=hid_intro hI
  have HS:=hid_intro hS
  obtain ⟨len,hl⟩:∃len,len=es.length:=⟨_,rfl⟩
  rw [←hl] at hlen h40 ⊢
  have HL:=hid_intro hl
  have h40':¬(40:Int)<(len:Int):=by omega
  clear hI hS hl
  generalize sB es=R at *
  go_enter Tryz.func121,Tryz.ntmps121
  go_wp2_with fail
  go_loopw [3,11] (fun x z wr=>∃k:Nat,k≤len∧x=.string (ahd es k)∧z=.int .i64 k∧Hid (SOk es k)∧Hid (Below w.heap.size w wr)) (fun x z _=>len-(intOf z).toNat)
  case atStart=>exact ⟨0,by omega,rfl,rfl,hid_intro (SOk.zero es),hid_intro (Below.refl _ _)⟩
  case round =>
   obtain ⟨k,hk,rfl,rfl,HK,HB⟩:=hrel
   by_cases hlt:k<len
   ·have hlt2:(k:Int)<(len:Int):=by omega
    obtain ⟨b,off,rfl,hbl,c0,c1,c2⟩:=(HI.out.below HB.out).at k (by have:=HL.out;omega)
    have hsz:=HS.out _ (getD_mem (z:=N.zero) es k (by have:=HL.out;omega))
    have HM:=hid_intro (fun h1 h2=>HK.out.more (k:=k) h1 h2)
    have HF:=hid_intro (HT0.out k (by have:=HL.out;omega))
    have HA:Hid (ahd es (k+1)=(es.getD k N.zero).i):=rfl
    generalize ahd es k=a at *
    generalize es.getD k N.zero=X at *
    obtain ⟨xi,xn,xs⟩:=X
    have HA:Hid (ahd es (k+1)=xi):=HA
    have HC:=hid_intro (fun w=>impl_entry xi xn xs w hsz)
    dsimp only at HM HF c0 c1 c2
    generalize eOk ⟨xi,xn,xs⟩=r at *
    rcases le_cases xi a with ⟨q1,q2⟩|⟨q1,q3,q4,q2⟩|⟨q1,q3,q4,q2⟩
    ·have HR:Hid (R=false):=hid_intro (HF.out (fun h=>by rw [q2] at h;exact absurd h.1 (by simp)))
     clear HM HF q2
     go_wp2_with fail
     go_ret
     exact ⟨ret_bool HR.out.symm,HB.out.alloc HB.out.size _⟩
    ·have HR:Hid (R=false):=hid_intro (HF.out (fun h=>by rw [q2] at h;exact absurd h.1 (by simp)))
     clear HM HF q2
     go_wp2_with fail
     go_ret
     exact ⟨ret_bool HR.out.symm,HB.out.alloc HB.out.size _⟩
    ·cases r
     ·have HR:Hid (R=false):=hid_intro (HF.out (fun h=>absurd h.2 (by simp)))
      clear HM HF q2
      go_wp2_with (go_at_call 162;refine (HC.out _).mono ?_;rintro e w1 ⟨rfl,hb⟩)
      go_ret
      exact ⟨ret_bool HR.out.symm,HB.out.trans ((bel_alloc hb).mono HB.out.size)⟩
     ·replace HM:=hid_intro (HM.out q2 rfl)
      clear HF q2
      go_wp2_with fail
      refine (HC.out _).mono ?_
      rintro e w1 ⟨rfl,hb⟩
      obtain ⟨hcc,hff⟩:=bcell hb
      have hsz1:wr.heap.size<w1.heap.size:=by have:=hb.size;simp at this;omega
      have e0:=hcc wr.heap.size 0 (by simp)
      simp [go_sem] at e0
      have HB1:=hid_intro (HB.out.trans ((bel_alloc hb).mono HB.out.size))
      clear hb hcc hff c0 c1 c2
      go_wp2_with fail
      go_roundw
      case rel=>exact ⟨k+1,by omega,by rw [HA.out],by go_num,HM,HB1⟩
      case measure=>simp [intOf];omega
   ·have hlt2:¬(k:Int)<(len:Int):=by omega
    obtain rfl:k=len:=by omega
    have HR:Hid (R=true):=hid_intro (HTE.out (by rw [←HL.out];exact HK.out))
    go_wp2_with fail
    go_ret
    exact ⟨ret_bool HR.out.symm,HB.out⟩
set_option maxRecDepth 100000 in
set_option maxHeartbeats 4000000 in
theorem spec_seen (ao:Option Addr) (cap:Nat) (es:List N) (w:World) (hlen:es.length≤1048576) (hS:∀e∈es,e.i.size≤1048576) (hI:Ens ao es w) :
 Calls Tryz.prog 50 #[.slice ao es.length cap] w fun e w'=>e=.returned (.bool (sB es))∧Below w.heap.size w w':=by
 have HT0:=hid_intro (fun k (hk:k<es.length)=>sB_false (es:=es) hk)
 have HTE:Hid (SOk es es.length→sB es=decide (es.length≤40)):=hid_intro (fun h=>by
  by_cases e:es.length≤40
  ·rw [decide_eq_true e];exact sB_yes ⟨e,h⟩
  ·rw [decide_eq_false e];exact sB_no (fun hr=>e hr.1))
 have HI:=hid_intro hI
 have HS:=hid_intro hS
 obtain ⟨len,hl⟩:∃len,len=es.length:=⟨_,rfl⟩
 rw [←hl] at hlen ⊢
 have HL:=hid_intro hl
 clear hI hS hl
 generalize sB es=R at *
 go_enter Tryz.func50,Tryz.ntmps50
 go_wp2_with fail
 go_loopw [3] (fun z wr=>∃k:Nat,k≤len∧z=.int .i64 k∧Hid (SOk es k)∧Hid (Below w.heap.size w wr)) (fun z _=>len-(intOf z).toNat)
 case atStart=>exact ⟨0,by omega,rfl,hid_intro (SOk.zero es),hid_intro (Below.refl _ _)⟩
 case round =>
  obtain ⟨k,hk,rfl,HK,HB⟩:=hrel
  by_cases hlt:k<len
  ·have hlt2:(k:Int)<(len:Int):=by omega
   obtain ⟨b,off,rfl,hbl,c0,c1,c2⟩:=(HI.out.below HB.out).at k (by have:=HL.out;omega)
   have hsz:=HS.out _ (getD_mem (z:=N.zero) es k (by have:=HL.out;omega))
   have HM:=hid_intro (fun h1 h2=>HK.out.more (k:=k) h1 h2)
   have HF:=hid_intro (HT0.out k (by have:=HL.out;omega))
   rcases (show k=0∨∃j,k=j+1 from by rcases k with _|j;exact .inl rfl;exact .inr ⟨j,rfl⟩) with rfl|⟨j,hkj⟩
   ·have HA:Hid (ahd es 0=⟨#[]⟩):=rfl
    simp only [Nat.zero_mul,Nat.add_zero] at c0 c1 c2
    generalize ahd es 0=a at *
    generalize es.getD 0 N.zero=X at *
    obtain ⟨xi,xn,xs⟩:=X
    have H1:=hid_intro (fun w=>spec_word xi 20 w hsz)
    have H2:=hid_intro (fun w=>sminute_any xn w)
    have H3:=hid_intro (fun w=>is_any xs 0 4294967295 w)
    have HP:=hid_intro (id_pos (s:=xi))
    have HE:Hid (eOk ⟨xi,xn,xs⟩=(idB xi&&(decide (0≤xn∧xn≤121000000)&&decide (0≤xs∧xs≤4294967295)))):=rfl
    dsimp only at HM HF c0 c1 c2 hsz
    generalize eOk ⟨xi,xn,xs⟩=r at *
    by_cases hi:xi.size=0
    ·have he:=empty_of xi hi
     have HR:Hid (R=false):=hid_intro (HF.out (fun h=>by
      have e:=HE.out
      rw [show idB xi=false by unfold idB;simp [hi],Bool.false_and] at e
      rw [e] at h;exact absurd h.2 (by simp)))
     clear HM HF hi HP HE
     go_wp2_with fail
     go_quiet ((first|(go_at_call 96;exact Calls.quiet_of_same (H1.out _))|(go_at_call 97;exact Calls.quiet_of_same (H2.out _))|(go_at_call 95;exact Calls.quiet_of_same (H3.out _))))
     go_wp2_with fail
     go_ret
     exact ⟨ret_bool HR.out.symm,bdrewN (HB.out.alloc HB.out.size _) _⟩
    ·obtain ⟨he,he2⟩:=full_of xi hi
     rw [show (printB xi&&decide ((xi.size:Int)≤20))=idB xi by unfold idB;rw [Bool.and_comm];congr 1;exact decide_eq_decide.2 (by omega)] at H1
     generalize idB xi=b1 at *
     generalize decide (0≤xn∧xn≤121000000)=b2 at *
     generalize decide (0≤xs∧xs≤4294967295)=b3 at *
     rcases three b1 b2 b3 with rfl|⟨rfl,rfl⟩|⟨rfl,rfl,rfl⟩|⟨rfl,rfl,rfl⟩
     ·have HR:Hid (R=false):=hid_intro (HF.out (fun h=>by rw [HE.out] at h;exact absurd h.2 (by simp)))
      clear HM HF hi HP HE
      go_wp2_with fail
      go_quiet ((first|(go_at_call 96;exact Calls.quiet_of_same (H1.out _))|(go_at_call 97;exact Calls.quiet_of_same (H2.out _))|(go_at_call 95;exact Calls.quiet_of_same (H3.out _))))
      go_wp2_with fail
      go_ret
      exact ⟨ret_bool HR.out.symm,bdrewN (HB.out.alloc HB.out.size _) _⟩
     ·have HR:Hid (R=false):=hid_intro (HF.out (fun h=>by rw [HE.out] at h;exact absurd h.2 (by simp)))
      clear HM HF hi HP HE
      go_wp2_with fail
      go_quiet ((first|(go_at_call 96;exact Calls.quiet_of_same (H1.out _))|(go_at_call 97;exact Calls.quiet_of_same (H2.out _))|(go_at_call 95;exact Calls.quiet_of_same (H3.out _))))
      go_wp2_with fail
      go_ret
      exact ⟨ret_bool HR.out.symm,bdrewN (HB.out.alloc HB.out.size _) _⟩
     ·have HR:Hid (R=false):=hid_intro (HF.out (fun h=>by rw [HE.out] at h;exact absurd h.2 (by simp)))
      clear HM HF hi HP HE
      go_wp2_with fail
      go_quiet ((first|(go_at_call 96;exact Calls.quiet_of_same (H1.out _))|(go_at_call 97;exact Calls.quiet_of_same (H2.out _))|(go_at_call 95;exact Calls.quiet_of_same (H3.out _))))
      go_wp2_with fail
      go_ret
      exact ⟨ret_bool HR.out.symm,bdrewN (HB.out.alloc HB.out.size _) _⟩
     ·have HM2:=hid_intro (HM.out (by rw [HA.out];exact lt_empty (HP.out rfl)) (by rw [HE.out];rfl))
      clear HM HF hi HP HE
      go_wp2_with fail
      go_quiet ((first|(go_at_call 96;exact Calls.quiet_of_same (H1.out _))|(go_at_call 97;exact Calls.quiet_of_same (H2.out _))|(go_at_call 95;exact Calls.quiet_of_same (H3.out _))))
      go_wp2_with fail
      go_roundw
      case rel=>exact ⟨0+1,by omega,by go_num,HM2,hid_intro (bdrewN (HB.out.alloc HB.out.size _) _)⟩
      case measure=>simp [intOf];omega
   ·obtain ⟨b',off',hbo,hbl',d0,d1,d2⟩:=(HI.out.below HB.out).at j (by have:=HL.out;omega)
    obtain ⟨rfl,rfl⟩:b=b'∧off=off':=by simpa using hbo
    have HA:Hid (ahd es k=(es.getD j N.zero).i):=hid_intro (by rw [hkj];rfl)
    have hj1:IntKind.i64.wrap ((k:Int)-1)=(j:Int):=by rw [IntKind.wrap_i64];omega
    have hj2:0<k:=by omega
    have hj3:(j:Int)<(len:Int):=by omega
    clear hbl' hbo hkj
    generalize ahd es k=a at *
    generalize es.getD k N.zero=X at *
    generalize es.getD j N.zero=Y at *
    obtain ⟨xi,xn,xs⟩:=X
    obtain ⟨yi,yn,ys⟩:=Y
    have HA:Hid (a=yi):=HA
    have H1:=hid_intro (fun w=>spec_word xi 20 w hsz)
    have H2:=hid_intro (fun w=>sminute_any xn w)
    have H3:=hid_intro (fun w=>is_any xs 0 4294967295 w)
    have HE:Hid (eOk ⟨xi,xn,xs⟩=(idB xi&&(decide (0≤xn∧xn≤121000000)&&decide (0≤xs∧xs≤4294967295)))):=rfl
    dsimp only at HM HF c0 c1 c2 d0 d1 d2 hsz
    generalize eOk ⟨xi,xn,xs⟩=r at *
    by_cases hi:xi.size=0
    ·have he:=empty_of xi hi
     have HR:Hid (R=false):=hid_intro (HF.out (fun h=>by
      have e:=HE.out
      rw [show idB xi=false by unfold idB;simp [hi],Bool.false_and] at e
      rw [e] at h;exact absurd h.2 (by simp)))
     clear HM HF hi HE
     go_wp2_with fail
     go_quiet ((first|(go_at_call 96;exact Calls.quiet_of_same (H1.out _))|(go_at_call 97;exact Calls.quiet_of_same (H2.out _))|(go_at_call 95;exact Calls.quiet_of_same (H3.out _))))
     go_wp2_with fail
     go_ret
     exact ⟨ret_bool HR.out.symm,bdrewN (HB.out.alloc HB.out.size _) _⟩
    ·obtain ⟨he,he2⟩:=full_of xi hi
     rw [show (printB xi&&decide ((xi.size:Int)≤20))=idB xi by unfold idB;rw [Bool.and_comm];congr 1;exact decide_eq_decide.2 (by omega)] at H1
     generalize idB xi=b1 at *
     generalize decide (0≤xn∧xn≤121000000)=b2 at *
     generalize decide (0≤xs∧xs≤4294967295)=b3 at *
     cases b1
     ·have HR:Hid (R=false):=hid_intro (HF.out (fun h=>by rw [HE.out] at h;exact absurd h.2 (by simp)))
      clear HM HF hi HE
      go_wp2_with fail
      go_quiet ((first|(go_at_call 96;exact Calls.quiet_of_same (H1.out _))|(go_at_call 97;exact Calls.quiet_of_same (H2.out _))|(go_at_call 95;exact Calls.quiet_of_same (H3.out _))))
      go_wp2_with fail
      go_ret
      exact ⟨ret_bool HR.out.symm,bdrewN (HB.out.alloc HB.out.size _) _⟩
     ·rcases le_cases xi yi with ⟨q1,q2⟩|⟨q1,q3,q4,q2⟩|⟨q1,q3,q4,q2⟩
      ·have HR:Hid (R=false):=hid_intro (HF.out (fun h=>by rw [HA.out,q2] at h;exact absurd h.1 (by simp)))
       have q5:=le_ge1 q1
       clear HM HF hi HE q2
       go_wp2_with fail
       go_quiet ((first|(go_at_call 96;exact Calls.quiet_of_same (H1.out _))|(go_at_call 97;exact Calls.quiet_of_same (H2.out _))|(go_at_call 95;exact Calls.quiet_of_same (H3.out _))))
       go_wp2_with fail
       go_ret
       exact ⟨ret_bool HR.out.symm,bdrewN (HB.out.alloc HB.out.size _) _⟩
      ·have HR:Hid (R=false):=hid_intro (HF.out (fun h=>by rw [HA.out,q2] at h;exact absurd h.1 (by simp)))
       obtain rfl:=toList_inj q3
       have q5:Op.bytesLess xi.toList xi.toList=false:=q1
       clear HM HF hi HE q2 q3 q4
       go_wp2_with fail
       go_quiet ((first|(go_at_call 96;exact Calls.quiet_of_same (H1.out _))|(go_at_call 97;exact Calls.quiet_of_same (H2.out _))|(go_at_call 95;exact Calls.quiet_of_same (H3.out _))))
       go_wp2_with fail
       go_ret
       exact ⟨ret_bool HR.out.symm,bdrewN (HB.out.alloc HB.out.size _) _⟩
      ·cases b2
       ·have HR:Hid (R=false):=hid_intro (HF.out (fun h=>by rw [HE.out] at h;exact absurd h.2 (by simp)))
        have q5:Op.bytesLess yi.toList xi.toList=true:=q2
        clear HM HF hi HE q2
        go_wp2_with fail
        go_quiet ((first|(go_at_call 96;exact Calls.quiet_of_same (H1.out _))|(go_at_call 97;exact Calls.quiet_of_same (H2.out _))|(go_at_call 95;exact Calls.quiet_of_same (H3.out _))))
        go_wp2_with fail
        go_ret
        exact ⟨ret_bool HR.out.symm,bdrewN (HB.out.alloc HB.out.size _) _⟩
       ·cases b3
        ·have HR:Hid (R=false):=hid_intro (HF.out (fun h=>by rw [HE.out] at h;exact absurd h.2 (by simp)))
         have q5:Op.bytesLess yi.toList xi.toList=true:=q2
         clear HM HF hi HE q2
         go_wp2_with fail
         go_quiet ((first|(go_at_call 96;exact Calls.quiet_of_same (H1.out _))|(go_at_call 97;exact Calls.quiet_of_same (H2.out _))|(go_at_call 95;exact Calls.quiet_of_same (H3.out _))))
         go_wp2_with fail
         go_ret
         exact ⟨ret_bool HR.out.symm,bdrewN (HB.out.alloc HB.out.size _) _⟩
        ·have HM2:=hid_intro (HM.out (by rw [HA.out];exact q2) (by rw [HE.out];rfl))
         have q5:Op.bytesLess yi.toList xi.toList=true:=q2
         clear HM HF hi HE q2
         go_wp2_with fail
         go_quiet ((first|(go_at_call 96;exact Calls.quiet_of_same (H1.out _))|(go_at_call 97;exact Calls.quiet_of_same (H2.out _))|(go_at_call 95;exact Calls.quiet_of_same (H3.out _))))
         go_wp2_with fail
         go_roundw
         case rel=>exact ⟨k+1,by omega,by go_num,HM2,hid_intro (bdrewN (HB.out.alloc HB.out.size _) _)⟩
         case measure=>simp [intOf];omega
  ·have hlt2:¬(k:Int)<(len:Int):=by omega
   obtain rfl:k=len:=by omega
   have HR:Hid (R=decide (k≤40)):=hid_intro (by have e:=HL.out;have h:=HTE.out;rw [←e] at h;exact h HK.out)
   by_cases h40:k≤40
   ·have h40':(k:Int)≤40:=by omega
    rw [decide_eq_true h40] at HR
    go_wp2_with fail
    go_ret
    exact ⟨ret_bool HR.out.symm,HB.out⟩
   ·have h40':¬(k:Int)≤40:=by omega
    rw [decide_eq_false h40] at HR
    go_wp2_with fail
    go_ret
    exact ⟨ret_bool HR.out.symm,HB.out⟩
end SeenR
end Go.Proofs.YtmalfhhkjdkadaaGreatDoor
namespace Go.Proofs.YtmalfhhkjdkadaaGreatDoor
namespace DateM
def leapB (y:Int):Bool:=decide (y % 4=0∧(y % 100≠0∨y % 400=0))
def yd (y:Int):Int:=if leapB y=true then 366 else 365
def md (y m:Int):Int:=if m=2 then (if leapB y=true then 29 else 28) else if m=4∨m=6∨m=9∨m=11 then 30 else 31
def mdays (y m:Int):Int:=if 1970≤y∧y≤2200∧1≤m∧m≤12 then md y m else 0
def ys:Nat→Int
 | 0=>0
 | k+1=>ys k+yd (1970+(k:Int))
def ms (y:Int):Nat→Int
 | 0=>0
 | k+1=>ms y k+md y ((k:Int)+1)
theorem yd_bd (y:Int):365≤yd y∧yd y≤366:=by unfold yd;split<;>omega
theorem md_bd (y m:Int):28≤md y m∧md y m≤31:=by unfold md;split<;>(try split)<;>(try split)<;>omega
theorem mdays_bd (y m:Int):0≤mdays y m∧mdays y m≤31:=by unfold mdays;have:=md_bd y m;split<;>omega
theorem ys_succ (k:Nat):ys (k+1)=ys k+yd (1970+(k:Int)):=rfl
theorem ms_succ (y:Int) (k:Nat):ms y (k+1)=ms y k+md y ((k:Int)+1):=rfl
theorem ys_bd (k:Nat):365*(k:Int)≤ys k∧ys k≤366*(k:Int):=by
 induction k with
 | zero=>simp [ys]
 | succ k ih=>have:=yd_bd (1970+(k:Int));rw [ys_succ];omega
theorem ms_bd (y:Int) (k:Nat):28*(k:Int)≤ms y k∧ms y k≤31*(k:Int):=by
 induction k with
 | zero=>simp [ms]
 | succ k ih=>have:=md_bd y ((k:Int)+1);rw [ms_succ];omega
theorem ms_all (y:Int):ms y 12=yd y:=by
 simp only [ms,md,yd]
 cases leapB y<;>decide
theorem ys_mono {j k:Nat} (h:j≤k):ys j+365*((k:Int)-j)≤ys k:=by
 induction k with
 | zero =>
  obtain rfl:j=0:=by omega
  simp
 | succ k ih =>
  by_cases e:j=k+1
  ·subst e;simp
  ·have:=ih (by omega)
   have:=yd_bd (1970+(k:Int))
   rw [ys_succ];omega
theorem ms_mono (y:Int) {j k:Nat} (h:j≤k):ms y j+28*((k:Int)-j)≤ms y k:=by
 induction k with
 | zero =>
  obtain rfl:j=0:=by omega
  simp
 | succ k ih =>
  by_cases e:j=k+1
  ·subst e;simp
  ·have:=ih (by omega)
   have:=md_bd y ((k:Int)+1)
   rw [ms_succ];omega
theorem year_is (d:Int) (h:0≤d):∃k:Nat,ys k≤d∧d<ys (k+1):=by
 obtain ⟨n,rfl⟩:∃n:Nat,d=n:=⟨d.toNat,by omega⟩
 induction n with
 | zero=>exact ⟨0,by simp [ys],by have:=ys_bd 1;simp at this ⊢;omega⟩
 | succ n ih =>
  obtain ⟨k,h1,h2⟩:=ih (by omega)
  by_cases e:((n+1:Nat):Int)<ys (k+1)
  ·exact ⟨k,by omega,e⟩
  ·refine ⟨k+1,by omega,?_⟩
   have:=yd_bd (1970+((k+1:Nat):Int))
   rw [ys_succ (k+1)];omega
theorem month_is (y d:Int) (h:0≤d) (h2:d<yd y):∃k:Nat,k<12∧ms y k≤d∧d<ms y (k+1):=by
 have key:∀j:Nat,j≤12→ms y j≤d∨∃k:Nat,k<12∧ms y k≤d∧d<ms y (k+1):=by
  intro j
  induction j with
  | zero=>intro _;left;simp [ms];exact h
  | succ j ih =>
   intro hj
   rcases ih (by omega) with h1|h1
   ·by_cases e:d<ms y (j+1)
    ·exact .inr ⟨j,by omega,h1,e⟩
    ·exact .inl (by omega)
   ·exact .inr h1
 rcases key 12 (Nat.le_refl _) with h1|h1
 ·rw [ms_all] at h1;omega
 ·exact h1
theorem year_one {d:Int} {j k:Nat} (h1:ys j≤d) (h2:d<ys (k+1)):j≤k:=by
 apply Nat.le_of_not_lt
 intro h
 have:=ys_mono (show k+1≤j from h)
 omega
theorem month_one {y d:Int} {j k:Nat} (h1:ms y j≤d) (h2:d<ms y (k+1)):j≤k:=by
 apply Nat.le_of_not_lt
 intro h
 have:=ms_mono y (show k+1≤j from h)
 omega
def rightB (y m d:Int):Bool:=decide (1≤d∧d≤mdays y m)
theorem right_iff (y m d:Int):rightB y m d=true↔1970≤y∧y≤2200∧1≤m∧m≤12∧1≤d∧d≤md y m:=by
 unfold rightB mdays
 simp only [decide_eq_true_eq]
 split<;>omega
def num (y m d:Int):Int:=d-1+ys (y-1970).toNat+ms y (m-1).toNat
end DateM
namespace DateM
def fd (k:Nat):Int:=ys (k / 12)+ms (1970+((k / 12:Nat):Int)) (k % 12)
theorem fd_num (k:Nat):num (1970+(k:Int) / 12) ((k:Int) % 12+1) 1=fd k:=by
 unfold num fd
 rw [show (1970+(k:Int) / 12-1970).toNat=k / 12 by omega,show ((k:Int) % 12+1-1).toNat=k % 12 by omega,show ((k / 12:Nat):Int)=(k:Int) / 12 by omega]
 omega
theorem fd_succ (k:Nat):fd (k+1)=fd k+md (1970+((k / 12:Nat):Int)) (((k % 12:Nat):Int)+1):=by
 unfold fd
 by_cases h:k % 12=11
 ·rw [show (k+1) / 12=k / 12+1 by omega,show (k+1) % 12=0 by omega,ys_succ,←ms_all,h,ms_succ]
  simp only [ms]
  omega
 ·rw [show (k+1) / 12=k / 12 by omega,show (k+1) % 12=k % 12+1 by omega,ms_succ]
  omega
theorem fd_step (k:Nat):fd k+28≤fd (k+1)∧fd (k+1)≤fd k+31:=by
 rw [fd_succ]
 have:=md_bd (1970+((k / 12:Nat):Int)) (((k % 12:Nat):Int)+1)
 omega
theorem fd_zero:fd 0=0:=by simp [fd,ys,ms]
theorem fd_mono {j k:Nat} (h:j≤k):fd j+28*((k:Int)-j)≤fd k:=by
 induction k with
 | zero =>
  obtain rfl:j=0:=by omega
  simp
 | succ k ih =>
  by_cases e:j=k+1
  ·subst e;simp
  ·have:=ih (by omega)
   have:=fd_step k
   omega
theorem fd_bd (k:Nat):0≤fd k∧fd k≤31*(k:Int):=by
 induction k with
 | zero=>simp [fd_zero]
 | succ k ih=>have:=fd_step k;omega
theorem fd_one {d:Int} {j k:Nat} (h1:fd j≤d) (h2:d<fd (k+1)):j≤k:=by
 apply Nat.le_of_not_lt
 intro h
 have:=fd_mono (show k+1≤j from h)
 omega
theorem num_fd (y m d:Int) (h:rightB y m d=true):∃k:Nat,k≤2771∧12*(y-1970)+(m-1)=(k:Int)∧fd k≤num y m d∧num y m d<fd (k+1):=by
 obtain ⟨y1,y2,m1,m2,d1,d2⟩:=(right_iff y m d).1 h
 refine ⟨(12*(y-1970)+(m-1)).toNat,by omega,by omega,?_⟩
 have e1:(12*(y-1970)+(m-1)).toNat / 12=(y-1970).toNat:=by omega
 have e2:(12*(y-1970)+(m-1)).toNat % 12=(m-1).toNat:=by omega
 rw [fd_succ]
 unfold fd num
 rw [e1,e2,show 1970+(((y-1970).toNat:Nat):Int)=y by omega,show (((m-1).toNat:Nat):Int)+1=m by omega]
 omega
theorem ys_nat:∀k:Nat,k≤231→ys k=((List.range k).foldl (fun (a:Int) (j:Nat)=>a+yd (1970+(j:Int))) 0):=by
 intro k _
 induction k with
 | zero=>rfl
 | succ k ih=>rw [List.range_succ,List.foldl_append,←ih (by omega)];rfl
theorem ys_231:84028≤ys 231:=by rw [ys_nat 231 (by omega)];decide +kernel
theorem fd_2760:fd 2760=84006:=by
 unfold fd
 show ys 230+ms _ 0=_
 rw [ys_nat 230 (by omega)]
 decide +kernel
theorem right_first (k:Nat) (h:k≤2760):rightB (1970+(k:Int) / 12) ((k:Int) % 12+1) 1=true:=by
 have:=md_bd (1970+(k:Int) / 12) ((k:Int) % 12+1)
 exact (right_iff _ _ _).2 ⟨by omega,by omega,by omega,by omega,by omega,by omega⟩
end DateM
end Go.Proofs.YtmalfhhkjdkadaaGreatDoor
namespace Go.Proofs.YtmalfhhkjdkadaaGreatDoor
open Go.ChangeShapes Go.WideShapes Go.ChangeAt Go.RowKit
set_option linter.unusedVariables false
namespace EvtR
open NameR WordR
def ev (i a m:ByteArray) (n k:Int) (t:ByteArray):Value:=.agg #[.string i,.string a,.string m,.int .i64 n,.int .i64 k,.string t]
def tagB (s:ByteArray):Bool:=decide (s.size≤10)&&printB s
def evB (i a m:ByteArray) (n k:Int) (t:ByteArray):Bool:=idB i&&(nameB a&&(nameB m&&(decide (0≤n∧n≤121000000)&&(decide (0≤k∧k≤1000000000)&&tagB t))))
theorem six (b1 b2 b3 b4 b5 b6:Bool):(b1=false)∨(b1=true∧b2=false)∨(b1=true∧b2=true∧b3=false)∨(b1=true∧b2=true∧b3=true∧b4=false)∨(b1=true∧b2=true∧b3=true∧b4=true∧b5=false)∨(b1=true∧b2=true∧b3=true∧b4=true∧b5=true∧b6=false)∨(b1=true∧b2=true∧b3=true∧b4=true∧b5=true∧b6=true):=by
 cases b1<;>cases b2<;>cases b3<;>cases b4<;>cases b5<;>cases b6<;>simp
theorem impl_tag (s:ByteArray) (w:World) (hs:s.size≤1048576):Calls Tryz.prog 220 #[.string s] w fun e w'=>e=.returned (.bool (tagB s))∧Below w.heap.size w w':=by
 have HP:=hid_intro (fun w=>impl_printed s w hs)
 unfold tagB
 generalize printB s=p at *
 by_cases h:s.size≤10
 ·have h':(s.size:Int)≤10:=by omega
  go_enter Tryz.func220,Tryz.ntmps220
  go_wp2_with (go_at_call 214;refine (HP.out _).mono ?_;rintro e w1 ⟨rfl,hb1⟩)
  go_ret
  exact ⟨ret_bool (by simp [h]),hb1⟩
 ·have h':¬(s.size:Int)≤10:=by omega
  go_enter Tryz.func220,Tryz.ntmps220
  go_wp2_with fail
  go_ret
  exact ⟨ret_bool (by first|(simp;done)|(simp;omega)),Below.refl _ _⟩
end EvtR
end Go.Proofs.YtmalfhhkjdkadaaGreatDoor
