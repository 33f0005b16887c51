/-
  What the program calls a name is what the model calls one, of every text of at most 1048576 bytes. No condition.
  A text of seen bytes alone (33 to 126): what the program says rune by rune and what the model says byte by byte. No condition but the length.
  What a right Id and a minute are: both sides say the same. No condition but the lengths.
  What a right event is: both sides say the same. No condition but the lengths.
  An event's block that nothing has written yet, and worlds in which one block alone was written. No condition.
-/
import Derived.Laws.RangeAny
import Derived.Deep.RegionHeld3
import Derived.Test.YtcilbmhkhllmjaaGreatDoorF1
namespace Go.Proofs.YtcilbmhkhllmjaaGreatDoor
open Go.ChangeShapes Go.WideShapes Go.ChangeAt Go.RowKit
open Go.ChangeMaps (open_string shut_string)
namespace NameR
def okAt (i:Nat) (c:Int):Bool:=decide ((97≤c∧c≤122)∨(i≠0∧((48≤c∧c≤57)∨c=95)))
def upTo (s:ByteArray) (k:Nat):Prop:=∀i (h:i<s.size),i<k→okAt i (s[i].toNat:Int)=true
def upToDec (s:ByteArray) (k:Nat):Decidable (upTo s k):=inferInstanceAs (Decidable (∀i (h:i<s.size),i<k→okAt i (s[i].toNat:Int)=true))
def nameB (s:ByteArray):Bool:=@decide (1≤s.size∧s.size≤20∧upTo s s.size) (@instDecidableAnd _ _ _ (@instDecidableAnd _ _ _ (upToDec s s.size)))
theorem name_size {s:ByteArray} (h:s.size<1∨20<s.size):nameB s=false:=by
 unfold nameB;simp;intro h1 h2;omega
theorem name_no {s:ByteArray} {k:Nat} (h:k<s.size) (hb:okAt k (s[k].toNat:Int)=false):nameB s=false:=by
 unfold nameB;simp;intro _ _ hu;have:=hu k h h;simp [hb] at this
theorem name_yes {s:ByteArray} (h1:1≤s.size) (h2:s.size≤20) (hu:upTo s s.size):nameB s=true:=by
 unfold nameB;simp;exact ⟨h1,h2,hu⟩
theorem upTo_zero (s:ByteArray):upTo s 0:=fun _ _ h=>absurd h (by omega)
theorem upTo_succ {s:ByteArray} {k:Nat} (hu:upTo s k) (h:k<s.size) (hb:okAt k (s[k].toNat:Int)=true):upTo s (k+1):=by
 intro i hi hk
 by_cases e:i=k
 ·subst e;exact hb
 ·exact hu i hi (by omega)
set_option maxHeartbeats 2000000 in
theorem spec_any (s:ByteArray) (w:World) (hs:s.size≤1048576) :
 Calls Tryz.prog 35 #[.string s] w fun e w'=>e=.returned (.bool (nameB s))∧w'=w:=by
 by_cases h1:s.size<1
 ·have hn:=name_size (s:=s) (.inl h1)
  rw [hn]
  go_enter Tryz.func35,Tryz.ntmps35
  go_wp2
  go_ret
  exact ⟨rfl,rfl⟩
 by_cases h2:20<s.size
 ·have hn:=name_size (s:=s) (.inr h2)
  rw [hn]
  go_enter Tryz.func35,Tryz.ntmps35
  go_wp2
  go_ret
  exact ⟨rfl,rfl⟩
 go_enter Tryz.func35,Tryz.ntmps35
 go_wp2
 go_loop [3,4] (fun i _=>∃k:Nat,k≤s.size∧i=.int .i64 k∧upTo s k) (fun i _=>s.size-(intOf i).toNat)
 case atStart=>exact ⟨0,Nat.zero_le _,rfl,upTo_zero s⟩
 case round =>
  obtain ⟨k,hk,rfl,hu⟩:=hrel
  by_cases hlt:k<s.size
  ·have hno:=name_no (s:=s) hlt
   have hyes:=upTo_succ hu hlt
   have HN:Hid (okAt k (s[k].toNat:Int)=false→nameB s=false):=hno
   have HY:Hid (okAt k (s[k].toNat:Int)=true→upTo s (k+1)):=hyes
   clear hno hyes hu
   by_cases hk0:k=0
   ·subst hk0
    rcases (show ((s[0].toNat:Int)<48)∨(48≤(s[0].toNat:Int)∧(s[0].toNat:Int)≤57)∨(57<(s[0].toNat:Int)∧(s[0].toNat:Int)<95)∨(95≤(s[0].toNat:Int)∧(s[0].toNat:Int)≤95)∨(95<(s[0].toNat:Int)∧(s[0].toNat:Int)<97)∨(97≤(s[0].toNat:Int)∧(s[0].toNat:Int)≤122)∨122<(s[0].toNat:Int) from by omega) with hc|hc|hc|hc|hc|hc|hc
    all_goals
     (first|have a0:(97:Int)≤(s[0].toNat:Int):=by omega|have a0:¬(97:Int)≤(s[0].toNat:Int):=by omega)
     (first|have a1:(s[0].toNat:Int)≤122:=by omega|have a1:¬(s[0].toNat:Int)≤122:=by omega)
     (first|have a2:(48:Int)≤(s[0].toNat:Int):=by omega|have a2:¬(48:Int)≤(s[0].toNat:Int):=by omega)
     (first|have a3:(s[0].toNat:Int)≤57:=by omega|have a3:¬(s[0].toNat:Int)≤57:=by omega)
     (first|have a5:((s[0].toNat:Int) != 95)=true:=by simp;omega|have a5:((s[0].toNat:Int) != 95)=false:=by simp;omega)
     (first|have a6:((s[0].toNat:Int)==95)=true:=by simp;omega|have a6:((s[0].toNat:Int)==95)=false:=by simp;omega)
     go_wp2
     first
      | (go_ret;exact ⟨ret_bool (HN.out (by unfold okAt;simp;omega)).symm,rfl⟩)
      | (
       go_round
       case rel=>exact ⟨1,by omega,by go_num,HY.out (by unfold okAt;simp;omega)⟩
       case measure=>simp [intOf];omega)
   ·rcases (show ((s[k].toNat:Int)<48)∨(48≤(s[k].toNat:Int)∧(s[k].toNat:Int)≤57)∨(57<(s[k].toNat:Int)∧(s[k].toNat:Int)<95)∨(95≤(s[k].toNat:Int)∧(s[k].toNat:Int)≤95)∨(95<(s[k].toNat:Int)∧(s[k].toNat:Int)<97)∨(97≤(s[k].toNat:Int)∧(s[k].toNat:Int)≤122)∨122<(s[k].toNat:Int) from by omega) with hc|hc|hc|hc|hc|hc|hc
    all_goals
     (first|have a0:(97:Int)≤(s[k].toNat:Int):=by omega|have a0:¬(97:Int)≤(s[k].toNat:Int):=by omega)
     (first|have a1:(s[k].toNat:Int)≤122:=by omega|have a1:¬(s[k].toNat:Int)≤122:=by omega)
     (first|have a2:(48:Int)≤(s[k].toNat:Int):=by omega|have a2:¬(48:Int)≤(s[k].toNat:Int):=by omega)
     (first|have a3:(s[k].toNat:Int)≤57:=by omega|have a3:¬(s[k].toNat:Int)≤57:=by omega)
     (first|have a5:((s[k].toNat:Int) != 95)=true:=by simp;omega|have a5:((s[k].toNat:Int) != 95)=false:=by simp;omega)
     (first|have a6:((s[k].toNat:Int)==95)=true:=by simp;omega|have a6:((s[k].toNat:Int)==95)=false:=by simp;omega)
     have a7:((k:Int)==0)=false:=by simp;omega
     go_wp2
     first
      | (go_ret;exact ⟨ret_bool (HN.out (by unfold okAt;simp;omega)).symm,rfl⟩)
      | (
       go_round
       case rel=>exact ⟨k+1,by omega,by go_num,HY.out (by unfold okAt;simp;omega)⟩
       case measure=>simp [intOf];omega)
  ·go_wp2
   go_ret
   have:k=s.size:=by omega
   subst this
   exact ⟨ret_bool (name_yes (by omega) (by omega) hu).symm,rfl⟩
set_option maxHeartbeats 2000000 in
theorem impl_any (s:ByteArray) (w:World) (hs:s.size≤1048576) :
 Calls Tryz.prog 42 #[.string s] w fun e w'=>e=.returned (.bool (nameB s))∧w'=w:=by
 by_cases h1:s.size<1
 ·have hn:=name_size (s:=s) (.inl h1)
  rw [hn]
  go_enter Tryz.func42,Tryz.ntmps42
  go_wp2
  go_ret
  exact ⟨rfl,rfl⟩
 by_cases h2:20<s.size
 ·have hn:=name_size (s:=s) (.inr h2)
  rw [hn]
  go_enter Tryz.func42,Tryz.ntmps42
  go_wp2
  go_ret
  exact ⟨rfl,rfl⟩
 go_enter Tryz.func42,Tryz.ntmps42
 go_wp2
 go_loop [3,4,5] (fun i _ _=>∃k:Nat,k≤s.size∧i=.int .i64 k∧upTo s k) (fun i _ _=>s.size-(intOf i).toNat)
 case atStart=>exact ⟨0,Nat.zero_le _,rfl,upTo_zero s⟩
 case round =>
  obtain ⟨k,hk,rfl,hu⟩:=hrel
  by_cases hlt:k<s.size
  ·have hno:=name_no (s:=s) hlt
   have hyes:=upTo_succ hu hlt
   have HN:Hid (okAt k (s[k].toNat:Int)=false→nameB s=false):=hno
   have HY:Hid (okAt k (s[k].toNat:Int)=true→upTo s (k+1)):=hyes
   clear hno hyes hu
   by_cases hk0:k=0
   ·subst hk0
    rcases (show ((s[0].toNat:Int)<48)∨(48≤(s[0].toNat:Int)∧(s[0].toNat:Int)≤57)∨(57<(s[0].toNat:Int)∧(s[0].toNat:Int)<95)∨(95≤(s[0].toNat:Int)∧(s[0].toNat:Int)≤95)∨(95<(s[0].toNat:Int)∧(s[0].toNat:Int)<97)∨(97≤(s[0].toNat:Int)∧(s[0].toNat:Int)≤122)∨122<(s[0].toNat:Int) from by omega) with hc|hc|hc|hc|hc|hc|hc
    all_goals
     (first|have a0:(97:Int)≤(s[0].toNat:Int):=by omega|have a0:¬(97:Int)≤(s[0].toNat:Int):=by omega)
     (first|have a1:(s[0].toNat:Int)≤122:=by omega|have a1:¬(s[0].toNat:Int)≤122:=by omega)
     (first|have a2:(48:Int)≤(s[0].toNat:Int):=by omega|have a2:¬(48:Int)≤(s[0].toNat:Int):=by omega)
     (first|have a3:(s[0].toNat:Int)≤57:=by omega|have a3:¬(s[0].toNat:Int)≤57:=by omega)
     (first|have a5:((s[0].toNat:Int) != 95)=true:=by simp;omega|have a5:((s[0].toNat:Int) != 95)=false:=by simp;omega)
     (first|have a6:((s[0].toNat:Int)==95)=true:=by simp;omega|have a6:((s[0].toNat:Int)==95)=false:=by simp;omega)
     go_wp2
     first
      | (go_ret;exact ⟨ret_bool (HN.out (by unfold okAt;simp;omega)).symm,rfl⟩)
      | (
       go_round
       case rel=>exact ⟨1,by omega,by go_num,HY.out (by unfold okAt;simp;omega)⟩
       case measure=>simp [intOf];omega)
   ·rcases (show ((s[k].toNat:Int)<48)∨(48≤(s[k].toNat:Int)∧(s[k].toNat:Int)≤57)∨(57<(s[k].toNat:Int)∧(s[k].toNat:Int)<95)∨(95≤(s[k].toNat:Int)∧(s[k].toNat:Int)≤95)∨(95<(s[k].toNat:Int)∧(s[k].toNat:Int)<97)∨(97≤(s[k].toNat:Int)∧(s[k].toNat:Int)≤122)∨122<(s[k].toNat:Int) from by omega) with hc|hc|hc|hc|hc|hc|hc
    all_goals
     (first|have a0:(97:Int)≤(s[k].toNat:Int):=by omega|have a0:¬(97:Int)≤(s[k].toNat:Int):=by omega)
     (first|have a1:(s[k].toNat:Int)≤122:=by omega|have a1:¬(s[k].toNat:Int)≤122:=by omega)
     (first|have a2:(48:Int)≤(s[k].toNat:Int):=by omega|have a2:¬(48:Int)≤(s[k].toNat:Int):=by omega)
     (first|have a3:(s[k].toNat:Int)≤57:=by omega|have a3:¬(s[k].toNat:Int)≤57:=by omega)
     (first|have a5:((s[k].toNat:Int) != 95)=true:=by simp;omega|have a5:((s[k].toNat:Int) != 95)=false:=by simp;omega)
     (first|have a6:((s[k].toNat:Int)==95)=true:=by simp;omega|have a6:((s[k].toNat:Int)==95)=false:=by simp;omega)
     have a7:((k:Int)==0)=false:=by simp;omega
     go_wp2
     first
      | (go_ret;exact ⟨ret_bool (HN.out (by unfold okAt;simp;omega)).symm,rfl⟩)
      | (
       go_round
       case rel=>exact ⟨k+1,by omega,by go_num,HY.out (by unfold okAt;simp;omega)⟩
       case measure=>simp [intOf];omega)
  ·go_wp2
   go_ret
   have:k=s.size:=by omega
   subst this
   exact ⟨ret_bool (name_yes (by omega) (by omega) hu).symm,rfl⟩
end NameR
end Go.Proofs.YtcilbmhkhllmjaaGreatDoor
namespace Go.Proofs.YtcilbmhkhllmjaaGreatDoor
open Go.ChangeShapes Go.WideShapes Go.ChangeAt Go.RowKit
set_option linter.unusedVariables false
namespace WordR
def seen (c:Int):Bool:=decide (33≤c∧c≤126)
def upTo (s:ByteArray) (k:Nat):Prop:=∀i (h:i<s.size),i<k→seen (s[i].toNat:Int)=true
def upToDec (s:ByteArray) (k:Nat):Decidable (upTo s k):=inferInstanceAs (Decidable (∀i (h:i<s.size),i<k→seen (s[i].toNat:Int)=true))
def printB (s:ByteArray):Bool:=@decide (upTo s s.size) (upToDec s s.size)
theorem print_no {s:ByteArray} {k:Nat} (h:k<s.size) (hb:seen (s[k].toNat:Int)=false):printB s=false:=by
 unfold printB;simp;intro hu;have:=hu k h h;simp [hb] at this
theorem print_yes {s:ByteArray} (hu:upTo s s.size):printB s=true:=by unfold printB;simpa using hu
theorem upTo_zero (s:ByteArray):upTo s 0:=fun _ _ h=>absurd h (by omega)
theorem upTo_succ {s:ByteArray} {k:Nat} (hu:upTo s k) (h:k<s.size) (hb:seen (s[k].toNat:Int)=true):upTo s (k+1):=by
 intro i hi hk
 by_cases e:i=k
 ·subst e;exact hb
 ·exact hu i hi (by omega)
theorem hid_intro' {p:Prop} (h:p):Hid p:=h
theorem byte_lt (s:ByteArray) (k:Nat) (h:k<s.size):(s[k].toNat:Int)<256:=by
 have:=s[k].toNat_lt;omega
set_option maxRecDepth 100000 in
set_option maxHeartbeats 2000000 in
theorem impl_printed (s:ByteArray) (w:World) (hs:s.size≤1048576) :
 Calls Tryz.prog 203 #[.string s] w fun e w'=>e=.returned (.bool (printB s))∧Below w.heap.size w w':=by
 have HB:∀pos,Hid (Below w.heap.size w (w.iter s pos)):=fun pos=>(Below.refl w.heap.size w).alloc (Nat.le_refl _) _
 go_enter Tryz.func203,Tryz.ntmps203
 go_wp2
 go_loopw [2] (fun _ w'=>∃pos:Nat,w'=w.iter s pos∧upTo s pos∧pos≤s.size) (fun _ w'=>s.size-w'.iterPos w.heap.size)
 case atStart=>exact ⟨0,rfl,upTo_zero s,Nat.zero_le _⟩
 case round =>
  obtain ⟨pos,rfl,hu,hle⟩:=hrel
  by_cases hp:pos<s.size
  ·have HN:=print_no (s:=s) hp
   have HY:=upTo_succ hu hp
   by_cases ha:(s[pos]'hp).toNat<128
   ·have hnx:∀ty,(Instr.next (.pointer (some ⟨w.heap.size,0,none⟩)) true ty).run Tryz.prog (w.iter s pos)=_:=fun ty=>run_next_ascii w s pos ty hp ha
    obtain ⟨c,hc⟩:∃c,c=(s[pos]'hp).toNat:=⟨_,rfl⟩
    rw [←hc] at HN HY ha hnx
    have HN':=hid_intro' HN
    have HY':=hid_intro' HY
    clear HN HY hc hu
    rcases (show ((c:Int)<33)∨(33≤(c:Int)∧(c:Int)≤126)∨(126<(c:Int)) by omega) with h|⟨h1,h2⟩|h
    ·have h':¬33≤(c:Int):=by omega
     go_wp2
     go_ret
     exact ⟨ret_bool (HN'.out (by unfold seen;simp;omega)).symm,(HB _).out⟩
    ·go_wp2
     go_roundw
     case rel=>exact ⟨pos+1,rfl,HY'.out (by unfold seen;simp;omega),by omega⟩
     case measure=>simp;omega
    ·have h':¬(c:Int)≤126:=by omega
     have h'':33≤(c:Int):=by omega
     go_wp2
     go_ret
     exact ⟨ret_bool (HN'.out (by unfold seen;simp;omega)).symm,(HB _).out⟩
   ·have hnx:∀ty,(Instr.next (.pointer (some ⟨w.heap.size,0,none⟩)) true ty).run Tryz.prog (w.iter s pos)=_:=fun ty=>run_next_any w s pos ty hp
    obtain ⟨d1,d2⟩:=decode_high s pos hp (by omega)
    have HN':=hid_intro' (HN (by unfold seen;simp;omega))
    clear HN HY hu
    generalize (Utf8.decode s pos).1=c at *
    generalize (Utf8.decode s pos).2=k at *
    have h':¬(c:Int)≤126:=by omega
    have h'':33≤(c:Int):=by omega
    go_wp2
    go_ret
    exact ⟨ret_bool HN'.out.symm,(HB _).out⟩
  ·have hnx:∀ty,(Instr.next (.pointer (some ⟨w.heap.size,0,none⟩)) true ty).run Tryz.prog (w.iter s pos)=_:=fun ty=>run_next_end w s pos ty hp
   go_wp2
   go_ret
   obtain rfl:pos=s.size:=by omega
   exact ⟨ret_bool (print_yes hu).symm,(HB _).out⟩
set_option maxHeartbeats 2000000 in
theorem spec_word (s:ByteArray) (most:Int) (w:World) (hs:s.size≤1048576) :
 Calls Tryz.prog 113 #[.string s,.int .i64 most] w fun e w'=>e=.returned (.bool (printB s&&decide ((s.size:Int)≤most)))∧w'=w:=by
 go_enter Tryz.func113,Tryz.ntmps113
 go_wp2
 go_loop [5] (fun i=>∃k:Nat,k≤s.size∧i=.int .i64 k∧upTo s k) (fun i=>s.size-(intOf i).toNat)
 case atStart=>exact ⟨0,Nat.zero_le _,rfl,upTo_zero s⟩
 case round =>
  obtain ⟨k,hk,rfl,hu⟩:=hrel
  by_cases hlt:k<s.size
  ·have HN:=hid_intro' (print_no (s:=s) hlt)
   have HY:=hid_intro' (upTo_succ hu hlt)
   clear hu
   rcases (show ((s[k].toNat:Int)<33)∨(¬(s[k].toNat:Int)<33∧(s[k].toNat:Int)≤126)∨(¬(s[k].toNat:Int)<33∧126<(s[k].toNat:Int)) by omega) with h|⟨h1,h2⟩|⟨h1,h2⟩
   ·go_wp2
    go_ret
    exact ⟨ret_bool (by rw [HN.out (by unfold seen;simp;omega)];rfl),rfl⟩
   ·have h3:¬126<(s[k].toNat:Int):=by omega
    go_wp2
    go_round
    case rel=>exact ⟨k+1,by omega,by go_num,HY.out (by unfold seen;simp;omega)⟩
    case measure=>simp [intOf];omega
   ·go_wp2
    go_ret
    exact ⟨ret_bool (by rw [HN.out (by unfold seen;simp;omega)];rfl),rfl⟩
  ·obtain rfl:k=s.size:=by omega
   have HP:=hid_intro' (print_yes hu)
   clear hu
   by_cases hm:(s.size:Int)≤most
   all_goals
    go_wp2
    go_ret
    exact ⟨ret_bool (by simp [HP.out,hm]),rfl⟩
end WordR
namespace EvtR
open WordR
theorem hid_intro {p:Prop} (h:p):Hid p:=h
def idB (s:ByteArray):Bool:=decide (1≤s.size∧s.size≤20)&&printB s
theorem within_any (n low high:Int) (w:World) :
 Calls Tryz.prog 66 #[.int .i64 n,.int .i64 low,.int .i64 high] w fun e w'=>e=.returned (.bool (decide (low≤n∧n≤high)))∧w'=w:=by
 rcases (show (¬low≤n)∨(low≤n∧¬n≤high)∨(low≤n∧n≤high) by omega) with h|⟨h1,h2⟩|⟨h1,h2⟩
 all_goals
  go_enter Tryz.func66,Tryz.ntmps66
  go_wp2
  go_ret
  exact ⟨ret_bool (by first|(simp [*];done)|(simp;omega)),rfl⟩
theorem minute_any (n:Int) (w:World):Calls Tryz.prog 209 #[.int .i64 n] w fun e w'=>e=.returned (.bool (decide (0≤n∧n≤121000000)))∧w'=w:=by
 have H:=within_any n 0 121000000
 generalize decide (0≤n∧n≤121000000)=b at *
 go_enter Tryz.func209,Tryz.ntmps209
 go_wp2_with (go_at_call 66;refine (H _).mono ?_;rintro e w' ⟨rfl,rfl⟩)
 go_ret
 exact ⟨rfl,rfl⟩
theorem is_any (n low high:Int) (w:World) :
 Calls Tryz.prog 69 #[.int .i64 n,.int .i64 low,.int .i64 high] w fun e w'=>e=.returned (.bool (decide (low≤n∧n≤high)))∧w'=w:=by
 rcases (show (¬low≤n)∨(low≤n∧¬n≤high)∨(low≤n∧n≤high) by omega) with h|⟨h1,h2⟩|⟨h1,h2⟩
 all_goals
  go_enter Tryz.func69,Tryz.ntmps69
  go_wp2
  go_ret
  exact ⟨ret_bool (by first|(simp [*];done)|(simp;omega)),rfl⟩
theorem sminute_any (n:Int) (w:World):Calls Tryz.prog 198 #[.int .i64 n] w fun e w'=>e=.returned (.bool (decide (0≤n∧n≤121000000)))∧w'=w:=by
 have H:=is_any n 0 121000000
 generalize decide (0≤n∧n≤121000000)=b at *
 go_enter Tryz.func198,Tryz.ntmps198
 go_wp2_with (go_at_call 69;refine (H _).mono ?_;rintro e w' ⟨rfl,rfl⟩)
 go_ret
 exact ⟨rfl,rfl⟩
theorem empty_of (i:ByteArray) (h:i.size=0):i.toList=[]:=by
 rw [ByteArray.toList_eq]
 exact List.eq_nil_of_length_eq_zero h
theorem full_of (i:ByteArray) (h:i.size≠0):i.toList≠[]∧i.toList.isEmpty=false:=by
 have a:i.toList≠[]:=by
  rw [ByteArray.toList_eq]
  intro e
  exact h (show i.data.toList.length=0 by rw [e];rfl)
 exact ⟨a,by cases hl:i.toList with
  | nil=>exact absurd hl a
  | cons x l=>rfl⟩
end EvtR
namespace EvtR
open NameR WordR
def ev (i a m:ByteArray) (n k:Int) (t:ByteArray):Value:=.agg #[.string i,.string a,.string m,.int .i64 n,.int .i64 k,.string t]
def tagB (s:ByteArray):Bool:=decide (s.size≤10)&&printB s
def evB (i a m:ByteArray) (n k:Int) (t:ByteArray):Bool:=idB i&&(nameB a&&(nameB m&&(decide (0≤n∧n≤121000000)&&(decide (0≤k∧k≤1000000000)&&tagB t))))
theorem six (b1 b2 b3 b4 b5 b6:Bool):(b1=false)∨(b1=true∧b2=false)∨(b1=true∧b2=true∧b3=false)∨(b1=true∧b2=true∧b3=true∧b4=false)∨(b1=true∧b2=true∧b3=true∧b4=true∧b5=false)∨(b1=true∧b2=true∧b3=true∧b4=true∧b5=true∧b6=false)∨(b1=true∧b2=true∧b3=true∧b4=true∧b5=true∧b6=true):=by
 cases b1<;>cases b2<;>cases b3<;>cases b4<;>cases b5<;>cases b6<;>simp
theorem impl_tag (s:ByteArray) (w:World) (hs:s.size≤1048576):Calls Tryz.prog 189 #[.string s] w fun e w'=>e=.returned (.bool (tagB s))∧Below w.heap.size w w':=by
 have HP:=hid_intro (fun w=>impl_printed s w hs)
 unfold tagB
 generalize printB s=p at *
 by_cases h:s.size≤10
 ·have h':(s.size:Int)≤10:=by omega
  go_enter Tryz.func189,Tryz.ntmps189
  go_wp2_with (go_at_call 203;refine (HP.out _).mono ?_;rintro e w1 ⟨rfl,hb1⟩)
  go_ret
  exact ⟨ret_bool (by simp [h]),hb1⟩
 ·have h':¬(s.size:Int)≤10:=by omega
  go_enter Tryz.func189,Tryz.ntmps189
  go_wp2_with fail
  go_ret
  exact ⟨ret_bool (by first|(simp;done)|(simp;omega)),Below.refl _ _⟩
set_option maxRecDepth 100000 in
set_option maxHeartbeats 4000000 in
theorem spec_event (i a m:ByteArray) (n k:Int) (t:ByteArray) (h1:i.size≤1048576) (h2:a.size≤1048576) (h3:m.size≤1048576) (h6:t.size≤1048576) (w:World) :
 Calls Tryz.prog 172 #[ev i a m n k t] w fun e w'=>e=.returned (.bool (evB i a m n k t))∧Below w.heap.size w w':=by
 by_cases hi:i.size=0
 ·have he:=empty_of i hi
  have hv:evB i a m n k t=false:=by
   unfold evB idB
   simp [hi]
  rw [hv]
  unfold ev
  clear hi
  go_enter Tryz.func172,Tryz.ntmps172
  go_wp2_with fail
  go_ret
  exact ⟨rfl,(Below.refl _ _).alloc (Nat.le_refl _) _⟩
 ·obtain ⟨he,he2⟩:=full_of i hi
  have H1:=hid_intro (fun w=>spec_word i 20 w h1)
  have H6:=hid_intro (fun w=>spec_word t 10 w h6)
  have H2:=hid_intro (fun w=>NameR.spec_any a w h2)
  have H3:=hid_intro (fun w=>NameR.spec_any m w h3)
  have H4:=hid_intro (fun w=>sminute_any n w)
  have H5:=hid_intro (fun w=>is_any k 0 1000000000 w)
  rw [show (printB i&&decide ((i.size:Int)≤20))=idB i by unfold idB;rw [Bool.and_comm];congr 1;exact decide_eq_decide.2 (by omega)] at H1
  rw [show (printB t&&decide ((t.size:Int)≤10))=tagB t by unfold tagB;rw [Bool.and_comm];congr 1;exact decide_eq_decide.2 (by omega)] at H6
  unfold evB ev
  generalize idB i=b1 at *
  generalize nameB a=b2 at *
  generalize nameB m=b3 at *
  generalize decide (0≤n∧n≤121000000)=b4 at *
  generalize decide (0≤k∧k≤1000000000)=b5 at *
  generalize tagB t=b6 at *
  clear hi
  rcases six b1 b2 b3 b4 b5 b6 with rfl|⟨rfl,rfl⟩|⟨rfl,rfl,rfl⟩|⟨rfl,rfl,rfl,rfl⟩|⟨rfl,rfl,rfl,rfl,rfl⟩|⟨rfl,rfl,rfl,rfl,rfl,rfl⟩|⟨rfl,rfl,rfl,rfl,rfl,rfl⟩
  all_goals
   go_enter Tryz.func172,Tryz.ntmps172
   go_wp2_with (first|(go_at_call_of 113 (Value.string i);refine (H1.out _).mono ?_;rintro e w' ⟨rfl,rfl⟩)|(go_at_call_of 35 (Value.string a);refine (H2.out _).mono ?_;rintro e w' ⟨rfl,rfl⟩)|(go_at_call_of 35 (Value.string m);refine (H3.out _).mono ?_;rintro e w' ⟨rfl,rfl⟩)|(go_at_call 198;refine (H4.out _).mono ?_;rintro e w' ⟨rfl,rfl⟩)|(go_at_call 69;refine (H5.out _).mono ?_;rintro e w' ⟨rfl,rfl⟩)|(go_at_call_of 113 (Value.string t);refine (H6.out _).mono ?_;rintro e w' ⟨rfl,rfl⟩))
   go_ret
   exact ⟨by first|rfl|(simp only [he2];rfl),(Below.refl _ _).alloc (Nat.le_refl _) _⟩
end EvtR
namespace DrawR
def zeroE:List Value:=[.string ⟨#[]⟩,.string ⟨#[]⟩,.string ⟨#[]⟩,.int .i64 0,.int .i64 0,.string ⟨#[]⟩]
theorem rset (w:World) (b o:Nat) (v:Value):w.grownBy (w.setCell ⟨b,o,none⟩ v) (some b):=by
 refine ⟨rfl,rfl,rfl,by simp,fun k hk hne=>?_⟩
 simp only [World.setCell]
 rw [Array.getElem?_modify,if_neg (fun e=>hne (by rw [e]))]
theorem rgrown {w w':World} (hb:Below w.heap.size w w') (row:Option Nat):w.grownBy w' row:=⟨hb.os,hb.tape,hb.output,hb.size,fun k hk _=>hb.block k hk⟩
def Z6 (B:Nat) (w:World):Prop:=B<w.heap.size∧(∀k,k<6→w.cell? ⟨B,k,none⟩=zeroE[k]?∧w.frozen? ⟨B,k,none⟩=false)
theorem Z6.new (w:World) (T:TypeId):Z6 w.heap.size (w.alloc (.cells #[.string ⟨#[]⟩,.string ⟨#[]⟩,.string ⟨#[]⟩,.int .i64 0,.int .i64 0,.string ⟨#[]⟩] T)):=by
 refine ⟨by simp,fun k hk=>?_⟩
 match k,hk with
 | 0,_=>exact ⟨by simp [go_sem,zeroE],by simp [go_sem]⟩
 | 1,_=>exact ⟨by simp [go_sem,zeroE],by simp [go_sem]⟩
 | 2,_=>exact ⟨by simp [go_sem,zeroE],by simp [go_sem]⟩
 | 3,_=>exact ⟨by simp [go_sem,zeroE],by simp [go_sem]⟩
 | 4,_=>exact ⟨by simp [go_sem,zeroE],by simp [go_sem]⟩
 | 5,_=>exact ⟨by simp [go_sem,zeroE],by simp [go_sem]⟩
theorem Z6.grown {B:Nat} {w w':World} {row:Option Nat} (h:Z6 B w) (hg:w.grownBy w' row) (hne:some B≠row):Z6 B w':=by
 have e:=hg.block B h.1 hne
 exact ⟨by have:=hg.size;have:=h.1;omega,fun k hk=>⟨(World.cell?_of_block (a:=⟨B,k,none⟩) e).trans (h.2 k hk).1,(World.frozen?_of_block (a:=⟨B,k,none⟩) e).trans (h.2 k hk).2⟩⟩
theorem gnew' {w wx:World} {g X o:Nat} {v:Value} (h:w.grownBy wx (some g)) (hX:w.heap.size≤X):w.grownBy (wx.setCell ⟨X,o,none⟩ v) (some g):=by
 have hg:=rset wx X o v
 refine ⟨hg.os.trans h.os,hg.tape.trans h.tape,hg.output.trans h.output,by have:=h.size;have:=hg.size;omega,fun k hk hne=>?_⟩
 have hs:=h.size
 exact (hg.block k (by omega) (by intro e;cases e;omega)).trans (h.block k hk hne)
end DrawR
end Go.Proofs.YtcilbmhkhllmjaaGreatDoor
