/-
  What the model calls right tiers. The condition: at most 1048576 of them.
-/
import Derived.Test.YtnceeaccbcfopaaGreatDoorT36
namespace Go.Proofs.YtnceeaccbcfopaaGreatDoor
open Go.ChangeShapes Go.WideShapes Go.ChangeAt Go.RowKit
set_option linter.unusedVariables false
namespace CatR
theorem bdrewN {B:Nat} {a w:World} (h:Below B a w) (n:Nat):Below B a (w.drewN n):=⟨h.os,h.tape,h.output,h.size,h.block⟩
set_option maxRecDepth 100000 in
set_option maxHeartbeats 4000000 in
theorem spec_tiers (ao:Option Addr) (len cap:Nat) (ts:List Ti) (w:World) (hlen:len≤1048576) (hI:Tis ao len ts w) :
 Calls Tryz.prog 151 #[.slice ao len cap] w fun e w'=>e=.returned (.bool (tB ts))∧Below w.heap.size w w':=by
 have hz:=hI.1
 by_cases h15:1≤len∧len≤5
 ·obtain ⟨h1,h5⟩:=h15
  have g1:¬(len:Int)<1:=by omega
  have g5:¬(5:Int)<(len:Int):=by omega
  have HI:=H_ hI
  have HZ:=H_ hz
  have HT0:=H_ (fun k (hk:k<ts.length)=>tB_false (ts:=ts) hk)
  have HT1:=H_ (fun k (hk:k<ts.length)=>tB_over (ts:=ts) hk)
  have HTE:=H_ (fun h=>tB_end (ts:=ts) (by omega) (by omega) h)
  generalize tB ts=R at *
  clear hI hz
  go_enter Tryz.func151,Tryz.ntmps151
  go_wp2_with fail
  go_loopw [4] (fun z wr=>∃k:Nat,k≤len∧z=.int .i64 k∧Hid (TOk ts k)∧Hid (Below w.heap.size w wr)) (fun z _=>len-(intOf z).toNat)
  case atStart=>exact ⟨0,by omega,rfl,H_ (TOk.zero ts),H_ (Below.refl _ _)⟩
  case round =>
   obtain ⟨k,hk,rfl,HK,HB⟩:=hrel
   by_cases hlt:k<len
   ·have hlt2:(k:Int)<(len:Int):=by omega
    obtain ⟨b,off,rfl,hbl,d0,d1⟩:=tis_at (HI.out.below HB.out) k hlt
    have c0:wr.cell? ⟨b,off+k*2,none⟩=some (.int .i64 (tU ts k)):=d0
    have c1:wr.cell? ⟨b,off+k*2+1,none⟩=some (.int .i64 (tP ts k)):=d1
    clear d0 d1
    have HT:=H_ (HT0.out k (by have:=HZ.out;omega))
    have HO:=H_ (HT1.out k (by have:=HZ.out;omega))
    have HM:=H_ (fun h1 h2 h3=>HK.out.more (k:=k) h1 h2 h3)
    have HA1:=H_ (HK.out.rise k (Nat.le_refl _)).1
    rcases (show k=0∨∃j,k=j+1 from by rcases k with _|j;exact .inl rfl;exact .inr ⟨j,rfl⟩) with rfl|⟨j,hkj⟩
    ·have HA:Hid (tA ts 0=0):=rfl
     simp only [Nat.zero_mul,Nat.add_zero] at c0 c1
     have HW1:=H_ (fun w=>isS (tU ts 0) 1 1000000000000 w)
     have HW2:=H_ (fun w=>isS (tP ts 0) 0 1000000 w)
     generalize tA ts 0=A at *
     generalize tU ts 0=U at *
     generalize tP ts 0=P at *
     rcases (show (¬(1≤U∧U≤1000000000000))∨((1≤U∧U≤1000000000000)∧¬(0≤P∧P≤1000000))∨((1≤U∧U≤1000000000000)∧(0≤P∧P≤1000000)) by omega) with q|⟨q,q2⟩|⟨q,q2⟩
     ·have HR:Hid (R=false):=H_ (HO.out q)
      rw [decide_eq_false q] at HW1
      go_wp2_with fail
      go_quiet ((first|(go_at_call_of 63 (Value.int .i64 U);exact Calls.quiet_of_same (HW1.out _))|(go_at_call_of 63 (Value.int .i64 P);exact Calls.quiet_of_same (HW2.out _))))
      go_wp2_with fail
      go_ret
      exact ⟨ret_bool HR.out.symm,bdrewN HB.out _⟩
     ·have HR:Hid (R=false):=H_ (HT.out (fun h=>q2 h.2))
      rw [decide_eq_false q2] at HW2
      rw [decide_eq_true q] at HW1
      go_wp2_with fail
      go_quiet ((first|(go_at_call_of 63 (Value.int .i64 U);exact Calls.quiet_of_same (HW1.out _))|(go_at_call_of 63 (Value.int .i64 P);exact Calls.quiet_of_same (HW2.out _))))
      go_wp2_with fail
      go_ret
      exact ⟨ret_bool HR.out.symm,bdrewN HB.out _⟩
     ·have HM2:=H_ (HM.out (by have:=HA.out;omega) q2.1 q2.2)
      rw [decide_eq_true q2] at HW2
      rw [decide_eq_true q] at HW1
      go_wp2_with fail
      go_quiet ((first|(go_at_call_of 63 (Value.int .i64 U);exact Calls.quiet_of_same (HW1.out _))|(go_at_call_of 63 (Value.int .i64 P);exact Calls.quiet_of_same (HW2.out _))))
      go_wp2_with fail
      go_roundw
      case rel=>exact ⟨0+1,by omega,by go_num,HM2,H_ (bdrewN HB.out _)⟩
      case measure=>simp [intOf];omega
    ·obtain ⟨b',off',hbo,hbl',d0,d1⟩:=tis_at (HI.out.below HB.out) j (by omega)
     obtain ⟨rfl,rfl⟩:b=b'∧off=off':=by simpa using hbo
     have c2:wr.cell? ⟨b,off+j*2,none⟩=some (.int .i64 (tU ts j)):=d0
     clear d0 d1 hbl' hbo
     have HA:Hid (tA ts k=tU ts j):=H_ (by rw [hkj];rfl)
     have HW1:=H_ (fun w=>isS (tU ts k) 1 1000000000000 w)
     have HW2:=H_ (fun w=>isS (tP ts k) 0 1000000 w)
     generalize tA ts k=A at *
     generalize tU ts k=U at *
     generalize tU ts j=V at *
     generalize tP ts k=P at *
     have hj1:IntKind.i64.wrap ((k:Int)-1)=(j:Int):=by rw [IntKind.wrap_i64];omega
     have hj2:0<k:=by omega
     have hj3:(j:Int)<(len:Int):=by omega
     clear hkj
     rcases (show (¬(1≤U∧U≤1000000000000))∨((1≤U∧U≤1000000000000)∧U≤V)∨((1≤U∧U≤1000000000000)∧¬U≤V∧¬(0≤P∧P≤1000000))∨((1≤U∧U≤1000000000000)∧¬U≤V∧(0≤P∧P≤1000000)) by omega) with q|⟨q,q1⟩|⟨q,q1,q2⟩|⟨q,q1,q2⟩
     ·have HR:Hid (R=false):=H_ (HO.out q)
      rw [decide_eq_false q] at HW1
      go_wp2_with fail
      go_quiet ((first|(go_at_call_of 63 (Value.int .i64 U);exact Calls.quiet_of_same (HW1.out _))|(go_at_call_of 63 (Value.int .i64 P);exact Calls.quiet_of_same (HW2.out _))))
      go_wp2_with fail
      go_ret
      exact ⟨ret_bool HR.out.symm,bdrewN HB.out _⟩
     ·have HR:Hid (R=false):=H_ (HT.out (fun h=>by have:=h.1;have:=HA.out;omega))
      rw [decide_eq_true q] at HW1
      go_wp2_with fail
      go_quiet ((first|(go_at_call_of 63 (Value.int .i64 U);exact Calls.quiet_of_same (HW1.out _))|(go_at_call_of 63 (Value.int .i64 P);exact Calls.quiet_of_same (HW2.out _))))
      go_wp2_with fail
      go_ret
      exact ⟨ret_bool HR.out.symm,bdrewN HB.out _⟩
     ·have HR:Hid (R=false):=H_ (HT.out (fun h=>q2 h.2))
      rw [decide_eq_false q2] at HW2
      rw [decide_eq_true q] at HW1
      go_wp2_with fail
      go_quiet ((first|(go_at_call_of 63 (Value.int .i64 U);exact Calls.quiet_of_same (HW1.out _))|(go_at_call_of 63 (Value.int .i64 P);exact Calls.quiet_of_same (HW2.out _))))
      go_wp2_with fail
      go_ret
      exact ⟨ret_bool HR.out.symm,bdrewN HB.out _⟩
     ·have HM2:=H_ (HM.out (by have:=HA.out;omega) q2.1 q2.2)
      rw [decide_eq_true q2] at HW2
      rw [decide_eq_true q] at HW1
      go_wp2_with fail
      go_quiet ((first|(go_at_call_of 63 (Value.int .i64 U);exact Calls.quiet_of_same (HW1.out _))|(go_at_call_of 63 (Value.int .i64 P);exact Calls.quiet_of_same (HW2.out _))))
      go_wp2_with fail
      go_roundw
      case rel=>exact ⟨k+1,by omega,by go_num,HM2,H_ (bdrewN HB.out _)⟩
      case measure=>simp [intOf];omega
   ·obtain rfl:k=len:=by omega
    have HR:Hid (R=decide (tA ts k=1000000000000)):=H_ (by have h:=HTE.out;rw [HZ.out] at h;exact h HK.out)
    obtain ⟨j,hkj⟩:∃j,k=j+1:=⟨k-1,by omega⟩
    obtain ⟨b,off,rfl,hbl,d0,d1⟩:=tis_at (HI.out.below HB.out) j (by omega)
    have c2:wr.cell? ⟨b,off+j*2,none⟩=some (.int .i64 (tA ts k)):=by rw [hkj];exact d0
    clear d0 d1
    have hj1:(k:Int)-1=(j:Int):=by omega
    have hj3:(j:Int)<(k:Int):=by omega
    clear hkj
    generalize tA ts k=A at *
    by_cases q:A=1000000000000
    ·rw [decide_eq_true q] at HR
     go_wp2_with fail
     try go_quiet (fail)
     try go_wp2_with fail
     go_ret
     exact ⟨ret_bool (by rw [HR.out];try simp [q]),by first|exact HB.out|exact bdrewN HB.out _⟩
    ·rw [decide_eq_false q] at HR
     go_wp2_with fail
     try go_quiet (fail)
     try go_wp2_with fail
     go_ret
     exact ⟨ret_bool (by rw [HR.out];try simp [q]),by first|exact HB.out|exact bdrewN HB.out _⟩
 ·have HR:Hid (tB ts=false):=H_ (tB_no (fun h=>by have:=h.1;have:=h.2.1;omega))
  have g:(len:Int)<1∨(¬(len:Int)<1∧(5:Int)<(len:Int)):=by omega
  clear hI hz
  rcases g with g|⟨g,g2⟩
  all_goals
   go_enter Tryz.func151,Tryz.ntmps151
   go_wp2_with fail
   go_ret
   exact ⟨ret_bool HR.out.symm,Below.refl _ _⟩
end CatR
end Go.Proofs.YtnceeaccbcfopaaGreatDoor
