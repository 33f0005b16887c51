/-
  Where a name stands among meters, as the model finds it. The condition: at most 1048576 meters.
-/
import Derived.Test.YtnceeaccbcfopaaGreatDoorT97
namespace Go.Proofs.YtnceeaccbcfopaaGreatDoor
open Go.ChangeShapes Go.WideShapes Go.ChangeAt Go.RowKit
set_option linter.unusedVariables false
namespace CatR
open EvtR (Pt)
theorem beq_noA {a t:ByteArray} (h:a≠t):(a.toList==t.toList)=false:=by
 simpa using fun q=>h (LtR.toList_inj q)
def atB (ms:List Me) (t:ByteArray) (r:Int):Prop:=(∃k:Nat,k<ms.length∧r=k∧mN ms k=t∧∀i,i<k→mN ms i≠t)∨(r=-1∧∀i,i<ms.length→mN ms i≠t)
set_option maxRecDepth 100000 in
set_option maxHeartbeats 4000000 in
theorem spec_at (ma:Option Addr) (mc:Nat) (ca:Option Addr) (cl cc:Nat) (ms:List Me) (t:ByteArray) (w:World) (hl:ms.length≤1048576) (hM:Mes ma ms.length ms w) :
 Calls Tryz.prog 57 #[.agg #[.slice ma ms.length mc,.slice ca cl cc],.string t] w fun e w'=>∃r,e=.returned (.int .i64 r)∧atB ms t r∧Below w.heap.size w w':=by
 have HM:=H_ hM
 have HA:Hid (∀r,(∃k:Nat,k<ms.length∧r=(k:Int)∧mN ms k=t∧∀i,i<k→mN ms i≠t)∨(r=-1∧∀i,i<ms.length→mN ms i≠t)→atB ms t r):=H_ (fun r h=>h)
 have HB0:Hid (Below w.heap.size w (w.alloc (.cells #[.slice ma ms.length mc,.slice ca cl cc] 36))):=H_ ((Below.refl _ _).alloc (Nat.le_refl _) _)
 have HX0:Hid (Blk w.heap.size [.slice ma ms.length mc,.slice ca cl cc] (w.alloc (.cells #[.slice ma ms.length mc,.slice ca cl cc] 36))):=H_ (Blk.new w _ _)
 generalize hml:ms.length=ml at *
 clear hM
 go_enter Tryz.func57,Tryz.ntmps57
 go_wp2_with fail
 go_loopw [5] (fun z wr=>∃k:Nat,k≤ml∧z=.int .i64 k∧Hid (∀i,i<k→mN ms i≠t)∧Hid (Below w.heap.size w wr)∧Hid (Blk w.heap.size [.slice ma ml mc,.slice ca cl cc] wr)) (fun z _=>ml-(intOf z).toNat)
 case atStart=>exact ⟨0,by omega,rfl,H_ (fun i h=>absurd h (by omega)),HB0,HX0⟩
 case round =>
  obtain ⟨k,hk,rfl,HK,HB,HX⟩:=hrel
  have x0:wr.cell? ⟨w.heap.size,0,none⟩=some (.slice ma ml mc):=HX.out.2 0 (by simp)
  have xl:=HX.out.1
  by_cases hlt:k<ml
  ·have hlt2:(k:Int)<(ml:Int):=by omega
   obtain ⟨b,off,rfl,hbl,ta,tc,c0,c1,c2,c3,c4,c5,hTT⟩:=mes_at (HM.out.below HB.out) k hlt
   replace c0:wr.cell? ⟨b,off+k*6,none⟩=some (.string (mN ms k)):=c0
   clear c1 c2 c3 c4 c5 hTT
   by_cases he:mN ms k=t
   ·have HR:=H_ (HA.out (k:Int) (.inl ⟨k,hlt,rfl,he,HK.out⟩))
    rw [he] at c0
    clear he
    go_wp2_with fail
    go_ret
    exact ⟨_,rfl,HR.out,HB.out⟩
   ·have HK2:Hid (∀i,i<k+1→mN ms i≠t):=H_ (fun i hi=>by
     by_cases e:i=k
     ·subst e;exact he
     ·exact HK.out i (by omega))
    have hb:=beq_noA he
    have hne:(mN ms k).toList≠t.toList:=by simpa using hb
    clear he
    generalize mN ms k=n at *
    go_wp2_with fail
    go_roundw
    case rel=>exact ⟨k+1,by omega,by go_num,HK2,HB,HX⟩
    case measure=>simp [intOf];omega
  ·have hlt2:¬(k:Int)<(ml:Int):=by omega
   have HR:=H_ (HA.out (-1) (.inr ⟨rfl,fun i hi=>HK.out i (by omega)⟩))
   go_wp2_with fail
   go_ret
   exact ⟨_,rfl,HR.out,HB.out⟩
end CatR
end Go.Proofs.YtnceeaccbcfopaaGreatDoor
