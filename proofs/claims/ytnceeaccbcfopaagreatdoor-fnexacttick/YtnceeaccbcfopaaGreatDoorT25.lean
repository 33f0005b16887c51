/-
  A text of seen bytes alone (33 to 126): what the program says rune by rune and what the model says byte by byte. No condition but the length.
-/
import Derived.Laws.RangeAny
import Derived.Test.YtnceeaccbcfopaaGreatDoorT24
namespace Go.Proofs.YtnceeaccbcfopaaGreatDoor
open Go.ChangeShapes Go.WideShapes Go.ChangeAt Go.RowKit
set_option linter.unusedVariables false
namespace WordR
def seen (c:Int):Bool:=decide (33≤c∧c≤126)
def upTo (s:ByteArray) (k:Nat):Prop:=∀i (h:i<s.size),i<k→seen (s[i].toNat:Int)=true
def upToDec (s:ByteArray) (k:Nat):Decidable (upTo s k):=inferInstanceAs (Decidable (∀i (h:i<s.size),i<k→seen (s[i].toNat:Int)=true))
def printB (s:ByteArray):Bool:=@decide (upTo s s.size) (upToDec s s.size)
theorem print_no {s:ByteArray} {k:Nat} (h:k<s.size) (hb:seen (s[k].toNat:Int)=false):printB s=false:=by
 unfold printB;simp;intro hu;have:=hu k h h;simp [hb] at this
theorem print_yes {s:ByteArray} (hu:upTo s s.size):printB s=true:=by unfold printB;simpa using hu
theorem upTo_zero (s:ByteArray):upTo s 0:=fun _ _ h=>absurd h (by omega)
theorem upTo_succ {s:ByteArray} {k:Nat} (hu:upTo s k) (h:k<s.size) (hb:seen (s[k].toNat:Int)=true):upTo s (k+1):=by
 intro i hi hk
 by_cases e:i=k
 ·subst e;exact hb
 ·exact hu i hi (by omega)
theorem hid_intro' {p:Prop} (h:p):Hid p:=h
set_option maxRecDepth 100000 in
set_option maxHeartbeats 2000000 in
theorem impl_printed (s:ByteArray) (w:World) (hs:s.size≤1048576) :
 Calls Tryz.prog 219 #[.string s] w fun e w'=>e=.returned (.bool (printB s))∧Below w.heap.size w w':=by
 have HB:∀pos,Hid (Below w.heap.size w (w.iter s pos)):=fun pos=>(Below.refl w.heap.size w).alloc (Nat.le_refl _) _
 go_enter Tryz.func219,Tryz.ntmps219
 go_wp2
 go_loopw [2] (fun _ w'=>∃pos:Nat,w'=w.iter s pos∧upTo s pos∧pos≤s.size) (fun _ w'=>s.size-w'.iterPos w.heap.size)
 case atStart=>exact ⟨0,rfl,upTo_zero s,Nat.zero_le _⟩
 case round =>
  obtain ⟨pos,rfl,hu,hle⟩:=hrel
  by_cases hp:pos<s.size
  ·have HN:=print_no (s:=s) hp
   have HY:=upTo_succ hu hp
   by_cases ha:(s[pos]'hp).toNat<128
   ·have hnx:∀ty,(Instr.next (.pointer (some ⟨w.heap.size,0,none⟩)) true ty).run Tryz.prog (w.iter s pos)=_:=fun ty=>run_next_ascii w s pos ty hp ha
    obtain ⟨c,hc⟩:∃c,c=(s[pos]'hp).toNat:=⟨_,rfl⟩
    rw [←hc] at HN HY ha hnx
    have HN':=hid_intro' HN
    have HY':=hid_intro' HY
    clear HN HY hc hu
    rcases (show ((c:Int)<33)∨(33≤(c:Int)∧(c:Int)≤126)∨(126<(c:Int)) by omega) with h|⟨h1,h2⟩|h
    ·have h':¬33≤(c:Int):=by omega
     go_wp2
     go_ret
     exact ⟨ret_bool (HN'.out (by unfold seen;simp;omega)).symm,(HB _).out⟩
    ·go_wp2
     go_roundw
     case rel=>exact ⟨pos+1,rfl,HY'.out (by unfold seen;simp;omega),by omega⟩
     case measure=>simp;omega
    ·have h':¬(c:Int)≤126:=by omega
     have h'':33≤(c:Int):=by omega
     go_wp2
     go_ret
     exact ⟨ret_bool (HN'.out (by unfold seen;simp;omega)).symm,(HB _).out⟩
   ·have hnx:∀ty,(Instr.next (.pointer (some ⟨w.heap.size,0,none⟩)) true ty).run Tryz.prog (w.iter s pos)=_:=fun ty=>run_next_any w s pos ty hp
    obtain ⟨d1,d2⟩:=decode_high s pos hp (by omega)
    have HN':=hid_intro' (HN (by unfold seen;simp;omega))
    clear HN HY hu
    generalize (Utf8.decode s pos).1=c at *
    generalize (Utf8.decode s pos).2=k at *
    have h':¬(c:Int)≤126:=by omega
    have h'':33≤(c:Int):=by omega
    go_wp2
    go_ret
    exact ⟨ret_bool HN'.out.symm,(HB _).out⟩
  ·have hnx:∀ty,(Instr.next (.pointer (some ⟨w.heap.size,0,none⟩)) true ty).run Tryz.prog (w.iter s pos)=_:=fun ty=>run_next_end w s pos ty hp
   go_wp2
   go_ret
   obtain rfl:pos=s.size:=by omega
   exact ⟨ret_bool (print_yes hu).symm,(HB _).out⟩
set_option maxHeartbeats 2000000 in
theorem spec_word (s:ByteArray) (most:Int) (w:World) (hs:s.size≤1048576) :
 Calls Tryz.prog 105 #[.string s,.int .i64 most] w fun e w'=>e=.returned (.bool (printB s&&decide ((s.size:Int)≤most)))∧w'=w:=by
 go_enter Tryz.func105,Tryz.ntmps105
 go_wp2
 go_loop [5] (fun i=>∃k:Nat,k≤s.size∧i=.int .i64 k∧upTo s k) (fun i=>s.size-(intOf i).toNat)
 case atStart=>exact ⟨0,Nat.zero_le _,rfl,upTo_zero s⟩
 case round =>
  obtain ⟨k,hk,rfl,hu⟩:=hrel
  by_cases hlt:k<s.size
  ·have HN:=hid_intro' (print_no (s:=s) hlt)
   have HY:=hid_intro' (upTo_succ hu hlt)
   clear hu
   rcases (show ((s[k].toNat:Int)<33)∨(¬(s[k].toNat:Int)<33∧(s[k].toNat:Int)≤126)∨(¬(s[k].toNat:Int)<33∧126<(s[k].toNat:Int)) by omega) with h|⟨h1,h2⟩|⟨h1,h2⟩
   ·go_wp2
    go_ret
    exact ⟨ret_bool (by rw [HN.out (by unfold seen;simp;omega)];rfl),rfl⟩
   ·have h3:¬126<(s[k].toNat:Int):=by omega
    go_wp2
    go_round
    case rel=>exact ⟨k+1,by omega,by go_num,HY.out (by unfold seen;simp;omega)⟩
    case measure=>simp [intOf];omega
   ·go_wp2
    go_ret
    exact ⟨ret_bool (by rw [HN.out (by unfold seen;simp;omega)];rfl),rfl⟩
  ·obtain rfl:k=s.size:=by omega
   have HP:=hid_intro' (print_yes hu)
   clear hu
   by_cases hm:(s.size:Int)≤most
   all_goals
    go_wp2
    go_ret
    exact ⟨ret_bool (by simp [HP.out,hm]),rfl⟩
end WordR
end Go.Proofs.YtnceeaccbcfopaaGreatDoor
