/-
  What the program and the model call right tiers, and a right meter: they are one. The condition: the name has at most 1048576 bytes.
-/
import Derived.Deep.RegionWith
import Derived.BigQuiet
import Derived.Deep.QuietTactic
import Derived.Test.YtnceeaccbcfopaaGreatDoorT35
namespace Go.Proofs.YtnceeaccbcfopaaGreatDoor
open Go.ChangeShapes Go.WideShapes Go.ChangeAt Go.RowKit
set_option linter.unusedVariables false
namespace CatR
theorem H_ {p:Prop} (h:p):Hid p:=h
theorem within64 (n low high:Int) (w:World) :
 Calls Tryz.prog 30 #[.int .i64 n,.int .i64 low,.int .i64 high] w fun e w'=>e=.returned (.bool (decide (low≤n∧n≤high)))∧w'=w:=by
 rcases (show (¬low≤n)∨(low≤n∧¬n≤high)∨(low≤n∧n≤high) by omega) with h|⟨h1,h2⟩|⟨h1,h2⟩
 all_goals
  go_enter Tryz.func30,Tryz.ntmps30
  go_wp2
  go_ret
  exact ⟨ret_bool (by first|(simp [*];done)|(simp;omega)),rfl⟩
theorem withinI (n low high:Int) (w:World) :
 Calls Tryz.prog 167 #[.int .i64 n,.int .i64 low,.int .i64 high] w fun e w'=>e=.returned (.bool (decide (low≤n∧n≤high)))∧w'=w:=by
 rcases (show (¬low≤n)∨(low≤n∧¬n≤high)∨(low≤n∧n≤high) by omega) with h|⟨h1,h2⟩|⟨h1,h2⟩
 all_goals
  go_enter Tryz.func167,Tryz.ntmps167
  go_wp2
  go_ret
  exact ⟨ret_bool (by first|(simp [*];done)|(simp;omega)),rfl⟩
theorem isS (n low high:Int) (w:World) :
 Calls Tryz.prog 63 #[.int .i64 n,.int .i64 low,.int .i64 high] w fun e w'=>e=.returned (.bool (decide (low≤n∧n≤high)))∧w'=w:=by
 rcases (show (¬low≤n)∨(low≤n∧¬n≤high)∨(low≤n∧n≤high) by omega) with h|⟨h1,h2⟩|⟨h1,h2⟩
 all_goals
  go_enter Tryz.func63,Tryz.ntmps63
  go_wp2
  go_ret
  exact ⟨ret_bool (by first|(simp [*];done)|(simp;omega)),rfl⟩
set_option maxRecDepth 100000 in
set_option maxHeartbeats 4000000 in
theorem impl_tiers (ao:Option Addr) (len cap:Nat) (ts:List Ti) (w:World) (hlen:len≤1048576) (hI:Tis ao len ts w) :
 Calls Tryz.prog 198 #[.slice ao len cap] w fun e w'=>e=.returned (.bool (tB ts))∧Below w.heap.size w w':=by
 have hz:=hI.1
 have HWI:=H_ (fun w=>withinI len 1 5 w)
 by_cases h15:1≤len∧len≤5
 ·rw [decide_eq_true (by omega)] at HWI
  have HI:=H_ hI
  have HZ:=H_ hz
  have HT0:=H_ (fun k (hk:k<ts.length)=>tB_false (ts:=ts) hk)
  have HTE:=H_ (fun h=>tB_end (ts:=ts) (by omega) (by omega) h)
  generalize tB ts=R at *
  clear hI hz
  go_enter Tryz.func198,Tryz.ntmps198
  go_wp2_with (go_at_call 167;refine (HWI.out _).mono ?_;rintro e w0 ⟨rfl,rfl⟩)
  go_loopw [3,12] (fun x z wr=>∃k:Nat,k≤len∧x=.int .i64 (tA ts k)∧z=.int .i64 k∧Hid (TOk ts k)∧Hid (Below w0.heap.size w0 wr)) (fun x z _=>len-(intOf z).toNat)
  case atStart=>exact ⟨0,by omega,rfl,rfl,H_ (TOk.zero ts),H_ (Below.refl _ _)⟩
  case round =>
   obtain ⟨k,hk,rfl,rfl,HK,HB⟩:=hrel
   by_cases hlt:k<len
   ·have hlt2:(k:Int)<(len:Int):=by omega
    obtain ⟨b,off,rfl,hbl,d0,d1⟩:=tis_at (HI.out.below HB.out) k hlt
    have c0:wr.cell? ⟨b,off+k*2,none⟩=some (.int .i64 (tU ts k)):=d0
    have c1:wr.cell? ⟨b,off+k*2+1,none⟩=some (.int .i64 (tP ts k)):=d1
    clear d0 d1
    have HT:=H_ (HT0.out k (by have:=HZ.out;omega))
    have HM:=H_ (fun h1 h2 h3=>HK.out.more (k:=k) h1 h2 h3)
    have HU:Hid (tA ts (k+1)=tU ts k):=rfl
    have HW2:=H_ (fun w=>within64 (tP ts k) 0 1000000 w)
    generalize tA ts k=A at *
    generalize tU ts k=U at *
    generalize tP ts k=P at *
    have HAl:=H_ (fun o=>HB.out.alloc HB.out.size o)
    rcases (show (U≤A)∨(¬U≤A∧¬(0≤P∧P≤1000000))∨(¬U≤A∧(0≤P∧P≤1000000)) by omega) with q|⟨q,q2⟩|⟨q,q2⟩
    ·have HR:Hid (R=false):=H_ (HT.out (by omega))
     go_wp2_with fail
     go_ret
     exact ⟨ret_bool HR.out.symm,HAl.out _⟩
    ·have HR:Hid (R=false):=H_ (HT.out (fun h=>q2 h.2))
     rw [decide_eq_false q2] at HW2
     go_wp2_with (go_at_call 30;refine (HW2.out _).mono ?_;rintro e w' ⟨rfl,rfl⟩)
     go_ret
     exact ⟨ret_bool HR.out.symm,HAl.out _⟩
    ·have HM2:=H_ (HM.out (by omega) q2.1 q2.2)
     rw [decide_eq_true q2] at HW2
     go_wp2_with (go_at_call 30;refine (HW2.out _).mono ?_;rintro e w' ⟨rfl,rfl⟩)
     go_roundw
     case rel=>exact ⟨k+1,by omega,by rw [HU.out],by go_num,HM2,H_ (HAl.out _)⟩
     case measure=>simp [intOf];omega
   ·obtain rfl:k=len:=by omega
    have HR:Hid (R=decide (tA ts k=1000000000000)):=H_ (by have h:=HTE.out;rw [HZ.out] at h;exact h HK.out)
    generalize tA ts k=A at *
    by_cases q:A=1000000000000
    ·rw [decide_eq_true q] at HR
     go_wp2_with fail
     go_ret
     exact ⟨ret_bool (by rw [HR.out];try simp [q]),HB.out⟩
    ·rw [decide_eq_false q] at HR
     go_wp2_with fail
     go_ret
     exact ⟨ret_bool (by rw [HR.out];try simp [q]),HB.out⟩
 ·rw [decide_eq_false (by omega)] at HWI
  have HR:Hid (tB ts=false):=H_ (tB_no (fun h=>by have:=h.1;have:=h.2.1;omega))
  clear hI hz
  go_enter Tryz.func198,Tryz.ntmps198
  go_wp2_with (go_at_call 167;refine (HWI.out _).mono ?_;rintro e w0 ⟨rfl,rfl⟩)
  go_ret
  exact ⟨ret_bool HR.out.symm,Below.refl _ _⟩
end CatR
end Go.Proofs.YtnceeaccbcfopaaGreatDoor
