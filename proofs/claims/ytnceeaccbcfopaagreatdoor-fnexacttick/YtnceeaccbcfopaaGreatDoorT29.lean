/-
  The program's rising lists: whether tags, hours rise. The condition: at most 1048576 of them.
-/
import Derived.Deep.RegionHeld3
import Derived.BigQuiet
import Derived.Deep.QuietTactic
import Derived.Test.YtnceeaccbcfopaaGreatDoorT28
namespace Go.Proofs.YtnceeaccbcfopaaGreatDoor
open Go.ChangeShapes Go.WideShapes Go.ChangeAt Go.RowKit
set_option linter.unusedVariables false
namespace WinR
open RowG LtR
open CatR (Blk Blk.new)
theorem bdN {B:Nat} {a w:World} (h:Below B a w) (n:Nat):Below B a (w.drewN n):=⟨h.os,h.tape,h.output,h.size,h.block⟩
theorem leq_yes {a p:ByteArray} (h:(Op.bytesLess a.toList p.toList||(a.toList==p.toList))=true):lt p a=false:=by
 rw [Bool.or_eq_true] at h
 rcases h with h|h
 ·exact lt_asymm h
 ·rw [toList_inj (beq_iff_eq.1 h)];exact lt_irrefl _
theorem leq_no {a p:ByteArray} (h:(Op.bytesLess a.toList p.toList||(a.toList==p.toList))=false):lt p a=true:=by
 rw [Bool.or_eq_false_iff] at h
 cases h2:lt p a
 ·have:=lt_total h2 h.1
  rw [this] at h
  simp at h
 ·rfl
theorem tkey (t:ByteArray) (w:World):Calls Tryz.prog 212 #[.string t] w fun e w'=>e=.returned (.string t)∧w'=w:=by
 go_enter Tryz.func212,Tryz.ntmps212
 go_wp2
 go_ret
 exact ⟨rfl,rfl⟩
theorem hkey (h s:Int) (w:World):Calls Tryz.prog 214 #[.agg #[.int .i64 h,.int .i64 s]] w fun e w'=>e=.returned (.int .i64 h)∧Below w.heap.size w w':=by
 go_enter Tryz.func214,Tryz.ntmps214
 go_wp2
 go_ret
 exact ⟨rfl,(Below.refl _ _).alloc (Nat.le_refl _) _⟩
set_option maxRecDepth 100000 in
set_option maxHeartbeats 4000000 in
theorem tags_rises (ao:Option Addr) (cap:Nat) (ts:List ByteArray) (w:World) (hlen:ts.length≤1048576) (hI:Tgs ao ts w) :
 Calls Tryz.prog 220 #[.agg #[.slice ao ts.length cap,.func (.func 212) #[] #[],.func (.func 213) #[] #[]]] w fun e w'=>e=.returned (.bool (riseB lt tz ts))∧Below w.heap.size w w':=by
 have HI:=H_ hI
 have HNO:=H_ (fun k=>rise_no (r:=lt) (z:=tz) (xs:=ts) (k:=k))
 have HYES:Hid (RiseTo lt tz ts ts.length→riseB lt tz ts=true):=H_ rise_yes
 generalize riseB lt tz ts=R at *
 obtain ⟨len,hl⟩:∃len,len=ts.length:=⟨_,rfl⟩
 rw [←hl] at hlen HYES ⊢
 have HL:=H_ hl
 have HK:=H_ tkey
 clear hI hl
 have HB0:Hid (Below w.heap.size w (w.alloc (.cells #[.slice ao len cap,.func (.func 212) #[] #[],.func (.func 213) #[] #[]] 190))):=H_ ((Below.refl _ _).alloc (Nat.le_refl _) _)
 have HX0:Hid (Blk w.heap.size [.slice ao len cap,.func (.func 212) #[] #[],.func (.func 213) #[] #[]] (w.alloc (.cells #[.slice ao len cap,.func (.func 212) #[] #[],.func (.func 213) #[] #[]] 190))):=H_ (Blk.new w _ _)
 go_enter Tryz.func220,Tryz.ntmps220
 go_wp2_with fail
 go_loopw [3] (fun z wr=>∃j:Nat,(j=0∨j+1≤len)∧z=.int .i64 ((j:Int)+1)∧Hid (RiseTo lt tz ts (j+1))∧Hid (Below w.heap.size w wr)∧Hid (Blk w.heap.size [.slice ao len cap,.func (.func 212) #[] #[],.func (.func 213) #[] #[]] wr)) (fun z _=>len-(intOf z).toNat)
 case atStart=>exact ⟨0,by omega,rfl,H_ (rise_one _ (by omega)),HB0,HX0⟩
 case round =>
  obtain ⟨j,hj,rfl,HR,HB,HX⟩:=hrel
  obtain ⟨xl,xc⟩:=HX.out
  have x0:wr.cell? ⟨w.heap.size,0,none⟩=some (.slice ao len cap):=xc 0 (by simp)
  have x1:wr.cell? ⟨w.heap.size,1,none⟩=some (.func (.func 212) #[] #[]):=xc 1 (by simp)
  clear xc
  by_cases hlt:j+1<len
  ·have hlt2:(j:Int)+1<(len:Int):=by omega
   obtain ⟨b,off,rfl,hbl,c1⟩:=(HI.out.below HB.out).at (j+1) (by have:=HL.out;omega)
   obtain ⟨b',off',he,_,c0⟩:=(HI.out.below HB.out).at j (by have:=HL.out;omega)
   obtain ⟨rfl,rfl⟩:b=b'∧off=off':=by simpa using he
   have HN:=H_ (HNO.out (j+1) (by have:=HL.out;omega) (by omega))
   have HM:=H_ (fun h=>HR.out.more (k:=j+1) h)
   rw [Nat.add_sub_cancel] at HN HM
   generalize ts.getD (j+1) tz=X at *
   generalize ts.getD j tz=Y at *
   cases hle:(Op.bytesLess X.toList Y.toList||(X.toList==Y.toList))
   ·have HM2:=H_ (HM.out (fun _=>leq_no hle))
    go_wp2_with fail
    go_quiet ((go_at_call 212;exact Calls.quiet_of_same (HK.out _ _)))
    go_wp2_with fail
    go_roundw
    case rel=>exact ⟨j+1,by omega,by go_num,HM2,H_ (bdN HB.out _),H_ (HX.out.drewN _)⟩
    case measure=>simp [intOf];omega
   ·have HF:Hid (R=false):=H_ (HN.out (leq_yes hle))
    go_wp2_with fail
    go_quiet ((go_at_call 212;exact Calls.quiet_of_same (HK.out _ _)))
    go_wp2_with fail
    go_ret
    exact ⟨ret_bool HF.out.symm,bdN HB.out _⟩
  ·have hlt2:¬(j:Int)+1<(len:Int):=by omega
   have HF:Hid (R=true):=H_ (HYES.out (fun i h1 h2=>HR.out i (by omega) h2))
   go_wp2_with fail
   go_ret
   exact ⟨ret_bool HF.out.symm,HB.out⟩
end WinR
end Go.Proofs.YtnceeaccbcfopaaGreatDoor
