/-
  A text of seen bytes alone (33 to 126): what the program says rune by rune and what the model says byte by byte. No condition but the length.
  What a right Id and a minute are: both sides say the same. No condition but the lengths.
  What a right event is: both sides say the same. No condition but the lengths.
  An event's block that nothing has written yet, and worlds in which one block alone was written. No condition.
  A drawn event: some event of short texts; drawing writes the source's own block alone. The condition: the bytes are at most 1048576.
  A row of cells that may be written. No condition.
  Rows of things of so many cells each, read, written cell by cell, made by append. No condition.
  A block of cells that stays. No condition.
-/
import Derived.Laws.RangeAny
import Derived.Deep.RegionHeld3
import Derived.Deep.RegionWith
import Derived.Deep.QuietTactic
import Derived.BigQuiet
import Derived.Deep.CutRange
import Derived.Deep.DeepCutAuto
import Derived.OwnWalk
import Derived.Test.YteejpnkmnmoebaaDoorJ1
namespace Go.Proofs.YteejpnkmnmoebaaDoor
open Go.ChangeShapes Go.WideShapes Go.ChangeAt Go.RowKit
set_option linter.unusedVariables false
namespace WordR
def seen (c:Int):Bool:=decide (33≤c∧c≤126)
def upTo (s:ByteArray) (k:Nat):Prop:=∀i (h:i<s.size),i<k→seen (s[i].toNat:Int)=true
def upToDec (s:ByteArray) (k:Nat):Decidable (upTo s k):=inferInstanceAs (Decidable (∀i (h:i<s.size),i<k→seen (s[i].toNat:Int)=true))
def printB (s:ByteArray):Bool:=@decide (upTo s s.size) (upToDec s s.size)
theorem print_no {s:ByteArray} {k:Nat} (h:k<s.size) (hb:seen (s[k].toNat:Int)=false):printB s=false:=by
 unfold printB;simp;intro hu;have:=hu k h h;simp [hb] at this
theorem print_yes {s:ByteArray} (hu:upTo s s.size):printB s=true:=by unfold printB;simpa using hu
theorem upTo_zero (s:ByteArray):upTo s 0:=fun _ _ h=>absurd h (by omega)
theorem upTo_succ {s:ByteArray} {k:Nat} (hu:upTo s k) (h:k<s.size) (hb:seen (s[k].toNat:Int)=true):upTo s (k+1):=by
 intro i hi hk
 by_cases e:i=k
 ·subst e;exact hb
 ·exact hu i hi (by omega)
theorem hid_intro' {p:Prop} (h:p):Hid p:=h
set_option maxRecDepth 100000 in
set_option maxHeartbeats 2000000 in
theorem impl_printed (s:ByteArray) (w:World) (hs:s.size≤1048576) :
 Calls Tryd.prog 78 #[.string s] w fun e w'=>e=.returned (.bool (printB s))∧Below w.heap.size w w':=by
 have HB:∀pos,Hid (Below w.heap.size w (w.iter s pos)):=fun pos=>(Below.refl w.heap.size w).alloc (Nat.le_refl _) _
 go_enter Tryd.func78,Tryd.ntmps78
 go_wp2
 go_loopw [2] (fun _ w'=>∃pos:Nat,w'=w.iter s pos∧upTo s pos∧pos≤s.size) (fun _ w'=>s.size-w'.iterPos w.heap.size)
 case atStart=>exact ⟨0,rfl,upTo_zero s,Nat.zero_le _⟩
 case round =>
  obtain ⟨pos,rfl,hu,hle⟩:=hrel
  by_cases hp:pos<s.size
  ·have HN:=print_no (s:=s) hp
   have HY:=upTo_succ hu hp
   by_cases ha:(s[pos]'hp).toNat<128
   ·have hnx:∀ty,(Instr.next (.pointer (some ⟨w.heap.size,0,none⟩)) true ty).run Tryd.prog (w.iter s pos)=_:=fun ty=>run_next_ascii w s pos ty hp ha
    obtain ⟨c,hc⟩:∃c,c=(s[pos]'hp).toNat:=⟨_,rfl⟩
    rw [←hc] at HN HY ha hnx
    have HN':=hid_intro' HN
    have HY':=hid_intro' HY
    clear HN HY hc hu
    rcases (show ((c:Int)<33)∨(33≤(c:Int)∧(c:Int)≤126)∨(126<(c:Int)) by omega) with h|⟨h1,h2⟩|h
    ·have h':¬33≤(c:Int):=by omega
     go_wp2
     go_ret
     exact ⟨ret_bool (HN'.out (by unfold seen;simp;omega)).symm,(HB _).out⟩
    ·go_wp2
     go_roundw
     case rel=>exact ⟨pos+1,rfl,HY'.out (by unfold seen;simp;omega),by omega⟩
     case measure=>simp;omega
    ·have h':¬(c:Int)≤126:=by omega
     have h'':33≤(c:Int):=by omega
     go_wp2
     go_ret
     exact ⟨ret_bool (HN'.out (by unfold seen;simp;omega)).symm,(HB _).out⟩
   ·have hnx:∀ty,(Instr.next (.pointer (some ⟨w.heap.size,0,none⟩)) true ty).run Tryd.prog (w.iter s pos)=_:=fun ty=>run_next_any w s pos ty hp
    obtain ⟨d1,d2⟩:=decode_high s pos hp (by omega)
    have HN':=hid_intro' (HN (by unfold seen;simp;omega))
    clear HN HY hu
    generalize (Utf8.decode s pos).1=c at *
    generalize (Utf8.decode s pos).2=k at *
    have h':¬(c:Int)≤126:=by omega
    have h'':33≤(c:Int):=by omega
    go_wp2
    go_ret
    exact ⟨ret_bool HN'.out.symm,(HB _).out⟩
  ·have hnx:∀ty,(Instr.next (.pointer (some ⟨w.heap.size,0,none⟩)) true ty).run Tryd.prog (w.iter s pos)=_:=fun ty=>run_next_end w s pos ty hp
   go_wp2
   go_ret
   obtain rfl:pos=s.size:=by omega
   exact ⟨ret_bool (print_yes hu).symm,(HB _).out⟩
set_option maxHeartbeats 2000000 in
theorem spec_word (s:ByteArray) (most:Int) (w:World) (hs:s.size≤1048576) :
 Calls Tryd.prog 54 #[.string s,.int .i64 most] w fun e w'=>e=.returned (.bool (printB s&&decide ((s.size:Int)≤most)))∧w'=w:=by
 go_enter Tryd.func54,Tryd.ntmps54
 go_wp2
 go_loop [5] (fun i=>∃k:Nat,k≤s.size∧i=.int .i64 k∧upTo s k) (fun i=>s.size-(intOf i).toNat)
 case atStart=>exact ⟨0,Nat.zero_le _,rfl,upTo_zero s⟩
 case round =>
  obtain ⟨k,hk,rfl,hu⟩:=hrel
  by_cases hlt:k<s.size
  ·have HN:=hid_intro' (print_no (s:=s) hlt)
   have HY:=hid_intro' (upTo_succ hu hlt)
   clear hu
   rcases (show ((s[k].toNat:Int)<33)∨(¬(s[k].toNat:Int)<33∧(s[k].toNat:Int)≤126)∨(¬(s[k].toNat:Int)<33∧126<(s[k].toNat:Int)) by omega) with h|⟨h1,h2⟩|⟨h1,h2⟩
   ·go_wp2
    go_ret
    exact ⟨ret_bool (by rw [HN.out (by unfold seen;simp;omega)];rfl),rfl⟩
   ·have h3:¬126<(s[k].toNat:Int):=by omega
    go_wp2
    go_round
    case rel=>exact ⟨k+1,by omega,by go_num,HY.out (by unfold seen;simp;omega)⟩
    case measure=>simp [intOf];omega
   ·go_wp2
    go_ret
    exact ⟨ret_bool (by rw [HN.out (by unfold seen;simp;omega)];rfl),rfl⟩
  ·obtain rfl:k=s.size:=by omega
   have HP:=hid_intro' (print_yes hu)
   clear hu
   by_cases hm:(s.size:Int)≤most
   all_goals
    go_wp2
    go_ret
    exact ⟨ret_bool (by simp [HP.out,hm]),rfl⟩
end WordR
namespace EvtR
open WordR
theorem H_ {p:Prop} (h:p):Hid p:=h
def idB (s:ByteArray):Bool:=decide (1≤s.size∧s.size≤20)&&printB s
theorem within_any (n low high:Int) (w:World) :
 Calls Tryd.prog 66 #[.int .i64 n,.int .i64 low,.int .i64 high] w fun e w'=>e=.returned (.bool (decide (low≤n∧n≤high)))∧w'=w:=by
 rcases (show (¬low≤n)∨(low≤n∧¬n≤high)∨(low≤n∧n≤high) by omega) with h|⟨h1,h2⟩|⟨h1,h2⟩
 all_goals
  go_enter Tryd.func66,Tryd.ntmps66
  go_wp2
  go_ret
  exact ⟨ret_bool (by first|(simp [*];done)|(simp;omega)),rfl⟩
theorem is_any (n low high:Int) (w:World) :
 Calls Tryd.prog 27 #[.int .i64 n,.int .i64 low,.int .i64 high] w fun e w'=>e=.returned (.bool (decide (low≤n∧n≤high)))∧w'=w:=by
 rcases (show (¬low≤n)∨(low≤n∧¬n≤high)∨(low≤n∧n≤high) by omega) with h|⟨h1,h2⟩|⟨h1,h2⟩
 all_goals
  go_enter Tryd.func27,Tryd.ntmps27
  go_wp2
  go_ret
  exact ⟨ret_bool (by first|(simp [*];done)|(simp;omega)),rfl⟩
theorem sminute_any (n:Int) (w:World):Calls Tryd.prog 76 #[.int .i64 n] w fun e w'=>e=.returned (.bool (decide (0≤n∧n≤121000000)))∧w'=w:=by
 have H:=is_any n 0 121000000
 generalize decide (0≤n∧n≤121000000)=b at *
 go_enter Tryd.func76,Tryd.ntmps76
 go_wp2_with (go_at_call 27;refine (H _).mono ?_;rintro e w' ⟨rfl,rfl⟩)
 go_ret
 exact ⟨rfl,rfl⟩
theorem empty_of (i:ByteArray) (h:i.size=0):i.toList=[]:=by
 rw [ByteArray.toList_eq]
 exact List.eq_nil_of_length_eq_zero h
theorem full_of (i:ByteArray) (h:i.size≠0):i.toList≠[]∧i.toList.isEmpty=false:=by
 have a:i.toList≠[]:=by
  rw [ByteArray.toList_eq]
  intro e
  exact h (show i.data.toList.length=0 by rw [e];rfl)
 exact ⟨a,by cases hl:i.toList with
  | nil=>exact absurd hl a
  | cons x l=>rfl⟩
end EvtR
namespace EvtR
open NameR WordR
def ev (i a m:ByteArray) (n k:Int) (t:ByteArray):Value:=.agg #[.string i,.string a,.string m,.int .i64 n,.int .i64 k,.string t]
def tagB (s:ByteArray):Bool:=decide (s.size≤10)&&printB s
def evB (i a m:ByteArray) (n k:Int) (t:ByteArray):Bool:=idB i&&(nameB a&&(nameB m&&(decide (0≤n∧n≤121000000)&&(decide (0≤k∧k≤1000000000)&&tagB t))))
theorem six (b1 b2 b3 b4 b5 b6:Bool):(b1=false)∨(b1=true∧b2=false)∨(b1=true∧b2=true∧b3=false)∨(b1=true∧b2=true∧b3=true∧b4=false)∨(b1=true∧b2=true∧b3=true∧b4=true∧b5=false)∨(b1=true∧b2=true∧b3=true∧b4=true∧b5=true∧b6=false)∨(b1=true∧b2=true∧b3=true∧b4=true∧b5=true∧b6=true):=by
 cases b1<;>cases b2<;>cases b3<;>cases b4<;>cases b5<;>cases b6<;>simp
theorem impl_tag (s:ByteArray) (w:World) (hs:s.size≤1048576):Calls Tryd.prog 68 #[.string s] w fun e w'=>e=.returned (.bool (tagB s))∧Below w.heap.size w w':=by
 have HP:=H_ (fun w=>impl_printed s w hs)
 unfold tagB
 generalize printB s=p at *
 by_cases h:s.size≤10
 ·have h':(s.size:Int)≤10:=by omega
  go_enter Tryd.func68,Tryd.ntmps68
  go_wp2_with (go_at_call 78;refine (HP.out _).mono ?_;rintro e w1 ⟨rfl,hb1⟩)
  go_ret
  exact ⟨ret_bool (by simp [h]),hb1⟩
 ·have h':¬(s.size:Int)≤10:=by omega
  go_enter Tryd.func68,Tryd.ntmps68
  go_wp2_with fail
  go_ret
  exact ⟨ret_bool (by first|(simp;done)|(simp;omega)),Below.refl _ _⟩
set_option maxRecDepth 100000 in
set_option maxHeartbeats 4000000 in
theorem spec_event (i a m:ByteArray) (n k:Int) (t:ByteArray) (h1:i.size≤1048576) (h2:a.size≤1048576) (h3:m.size≤1048576) (h6:t.size≤1048576) (w:World) :
 Calls Tryd.prog 56 #[ev i a m n k t] w fun e w'=>e=.returned (.bool (evB i a m n k t))∧Below w.heap.size w w':=by
 by_cases hi:i.size=0
 ·have he:=empty_of i hi
  have hv:evB i a m n k t=false:=by
   unfold evB idB
   simp [hi]
  rw [hv]
  unfold ev
  clear hi
  go_enter Tryd.func56,Tryd.ntmps56
  go_wp2_with fail
  go_ret
  exact ⟨rfl,(Below.refl _ _).alloc (Nat.le_refl _) _⟩
 ·obtain ⟨he,he2⟩:=full_of i hi
  have H1:=H_ (fun w=>spec_word i 20 w h1)
  have H6:=H_ (fun w=>spec_word t 10 w h6)
  have H2:=H_ (fun w=>NameR.spec_any a w h2)
  have H3:=H_ (fun w=>NameR.spec_any m w h3)
  have H4:=H_ (fun w=>sminute_any n w)
  have H5:=H_ (fun w=>is_any k 0 1000000000 w)
  rw [show (printB i&&decide ((i.size:Int)≤20))=idB i by unfold idB;rw [Bool.and_comm];congr 1;exact decide_eq_decide.2 (by omega)] at H1
  rw [show (printB t&&decide ((t.size:Int)≤10))=tagB t by unfold tagB;rw [Bool.and_comm];congr 1;exact decide_eq_decide.2 (by omega)] at H6
  unfold evB ev
  generalize idB i=b1 at *
  generalize nameB a=b2 at *
  generalize nameB m=b3 at *
  generalize decide (0≤n∧n≤121000000)=b4 at *
  generalize decide (0≤k∧k≤1000000000)=b5 at *
  generalize tagB t=b6 at *
  clear hi
  rcases six b1 b2 b3 b4 b5 b6 with rfl|⟨rfl,rfl⟩|⟨rfl,rfl,rfl⟩|⟨rfl,rfl,rfl,rfl⟩|⟨rfl,rfl,rfl,rfl,rfl⟩|⟨rfl,rfl,rfl,rfl,rfl,rfl⟩|⟨rfl,rfl,rfl,rfl,rfl,rfl⟩
  all_goals
   go_enter Tryd.func56,Tryd.ntmps56
   go_wp2_with (first|(go_at_call_of 54 (Value.string i);refine (H1.out _).mono ?_;rintro e w' ⟨rfl,rfl⟩)|(go_at_call_of 25 (Value.string a);refine (H2.out _).mono ?_;rintro e w' ⟨rfl,rfl⟩)|(go_at_call_of 25 (Value.string m);refine (H3.out _).mono ?_;rintro e w' ⟨rfl,rfl⟩)|(go_at_call 76;refine (H4.out _).mono ?_;rintro e w' ⟨rfl,rfl⟩)|(go_at_call 27;refine (H5.out _).mono ?_;rintro e w' ⟨rfl,rfl⟩)|(go_at_call_of 54 (Value.string t);refine (H6.out _).mono ?_;rintro e w' ⟨rfl,rfl⟩))
   go_ret
   exact ⟨by first|rfl|(simp only [he2];rfl),(Below.refl _ _).alloc (Nat.le_refl _) _⟩
end EvtR
namespace DrawR
def zeroE:List Value:=[.string ⟨#[]⟩,.string ⟨#[]⟩,.string ⟨#[]⟩,.int .i64 0,.int .i64 0,.string ⟨#[]⟩]
theorem rset (w:World) (b o:Nat) (v:Value):w.grownBy (w.setCell ⟨b,o,none⟩ v) (some b):=by
 refine ⟨rfl,rfl,rfl,by simp,fun k hk hne=>?_⟩
 simp only [World.setCell]
 rw [Array.getElem?_modify,if_neg (fun e=>hne (by rw [e]))]
theorem rgrown {w w':World} (hb:Below w.heap.size w w') (row:Option Nat):w.grownBy w' row:=⟨hb.os,hb.tape,hb.output,hb.size,fun k hk _=>hb.block k hk⟩
def Z6 (B:Nat) (w:World):Prop:=B<w.heap.size∧(∀k,k<6→w.cell? ⟨B,k,none⟩=zeroE[k]?∧w.frozen? ⟨B,k,none⟩=false)
theorem Z6.new (w:World) (T:TypeId):Z6 w.heap.size (w.alloc (.cells #[.string ⟨#[]⟩,.string ⟨#[]⟩,.string ⟨#[]⟩,.int .i64 0,.int .i64 0,.string ⟨#[]⟩] T)):=by
 refine ⟨by simp,fun k hk=>?_⟩
 match k,hk with
 | 0,_=>exact ⟨by simp [go_sem,zeroE],by simp [go_sem]⟩
 | 1,_=>exact ⟨by simp [go_sem,zeroE],by simp [go_sem]⟩
 | 2,_=>exact ⟨by simp [go_sem,zeroE],by simp [go_sem]⟩
 | 3,_=>exact ⟨by simp [go_sem,zeroE],by simp [go_sem]⟩
 | 4,_=>exact ⟨by simp [go_sem,zeroE],by simp [go_sem]⟩
 | 5,_=>exact ⟨by simp [go_sem,zeroE],by simp [go_sem]⟩
theorem Z6.grown {B:Nat} {w w':World} {row:Option Nat} (h:Z6 B w) (hg:w.grownBy w' row) (hne:some B≠row):Z6 B w':=by
 have e:=hg.block B h.1 hne
 exact ⟨by have:=hg.size;have:=h.1;omega,fun k hk=>⟨(World.cell?_of_block (a:=⟨B,k,none⟩) e).trans (h.2 k hk).1,(World.frozen?_of_block (a:=⟨B,k,none⟩) e).trans (h.2 k hk).2⟩⟩
theorem gnew' {w wx:World} {g X o:Nat} {v:Value} (h:w.grownBy wx (some g)) (hX:w.heap.size≤X):w.grownBy (wx.setCell ⟨X,o,none⟩ v) (some g):=by
 have hg:=rset wx X o v
 refine ⟨hg.os.trans h.os,hg.tape.trans h.tape,hg.output.trans h.output,by have:=h.size;have:=hg.size;omega,fun k hk hne=>?_⟩
 have hs:=h.size
 exact (hg.block k (by omega) (by intro e;cases e;omega)).trans (h.block k hk hne)
end DrawR
namespace DrawR
open EvtR (ev)
set_option maxHeartbeats 4000000 in
theorem start_any (w:World):Calls Tryd.prog 59 #[.int .i64 600] w fun e w'=>(∃v:Int,e=.returned (.int .i64 v))∧Below w.heap.size w w':=by
 have HD:=H_ (fun w=>DateR.spec_dayof 2020 1 1 w)
 generalize (if DateM.rightB 2020 1 1=true then DateM.num 2020 1 1 else -1)=D at *
 unfold DateR.date at *
 go_enter Tryd.func59,Tryd.ntmps59
 go_wp2_with (go_at_call 77;refine (HD.out _).mono ?_;rintro e w1 ⟨rfl,hb1⟩)
 go_ret
 exact ⟨⟨_,rfl⟩,by first|exact hb1|exact bel_alloc hb1⟩
theorem strs_new (w:World) (L:List ByteArray) (K:Nat) (T:TypeId) (hK:∀x∈L,x.size≤K):Strs w.heap.size L.length K (w.alloc (.cells (L.map Value.string).toArray T)):=by
 refine ⟨by simp,fun j hj=>⟨L[j],?_,hK _ (List.getElem_mem hj)⟩⟩
 simp [go_sem,hj]
theorem ints_cell (w:World) (L:List Int) (T:TypeId) (j:Nat) (X:Int) (h:L[j]? = some X):(w.alloc (.cells (L.map (Value.int .i64)).toArray T)).cell? ⟨w.heap.size,j,none⟩=some (.int .i64 X):=by
 rw [World.cell?_alloc_at _ _ _ _ rfl]
 simp [h]
theorem own_str {w:World} {base n:Nat} {v:Value} {xs:List Int} (h:w.ownsRow base 5 1 v n (xs.map (Value.int .u8))) (hne:v≠.slice none 0 0) :
 ∃g cap,v=.slice (some ⟨g,0,none⟩) n cap∧(convert 22 9 (.slice (some ⟨g,0,none⟩) n cap)).run Tryd.prog w=.ok (.string (strOfNums xs)) w:=by
 have hl:=h.1
 rcases h.2 with ⟨h0,_⟩|⟨g,cap,cur,hv,_⟩
 ·exact absurd h0 hne
 ·refine ⟨g,cap,hv,?_⟩
  have hlen:xs.length=n:=by simpa using hl
  refine run_convert_bytes_arg w 22 5 Tryd.underlying22 Tryd.underlying5 g 0 n cap xs hlen ?_ 9 Tryd.underlying9
  intro i hi
  have:=h.cells (g:=g) (by rw [hv];rfl) i (.int .u8 (xs.getD i 0)) (by simp [List.getElem?_map,List.getD,List.getElem?_eq_getElem (show i<xs.length by omega)])
  rw [←this]
  congr 1
  unfold Addr.add;split<;>simp_all
def B6 (B:Nat) (i a m:ByteArray) (n k:Int) (t:ByteArray) (w:World):Prop:=B<w.heap.size∧(w.cell? ⟨B,0,none⟩=some (.string i)∧w.cell? ⟨B,1,none⟩=some (.string a)∧w.cell? ⟨B,2,none⟩=some (.string m)∧w.cell? ⟨B,3,none⟩=some (.int .i64 n)∧w.cell? ⟨B,4,none⟩=some (.int .i64 k)∧w.cell? ⟨B,5,none⟩=some (.string t))∧∀o,o<6→w.frozen? ⟨B,o,none⟩=false
theorem B6.new (w:World) (i a m:ByteArray) (n k:Int) (t:ByteArray) (T:TypeId):B6 w.heap.size i a m n k t (w.alloc (.cells #[.string i,.string a,.string m,.int .i64 n,.int .i64 k,.string t] T)) :=
 ⟨by simp,⟨by simp [go_sem],by simp [go_sem],by simp [go_sem],by simp [go_sem],by simp [go_sem],by simp [go_sem]⟩,fun o _=>by simp [go_sem]⟩
theorem B6.grown {B:Nat} {i a m:ByteArray} {n k:Int} {t:ByteArray} {w w':World} {row:Option Nat} (h:B6 B i a m n k t w) (hg:w.grownBy w' row) (hne:some B≠row):B6 B i a m n k t w':=by
 obtain ⟨hl,⟨h0,h1,h2,h3,h4,h5⟩,hf⟩:=h
 have e:=hg.block B hl hne
 have c:=fun j=>World.cell?_of_block (a:=⟨B,j,none⟩) e
 have z:=fun j=>World.frozen?_of_block (a:=⟨B,j,none⟩) e
 exact ⟨by have:=hg.size;omega,⟨(c 0).trans h0,(c 1).trans h1,(c 2).trans h2,(c 3).trans h3,(c 4).trans h4,(c 5).trans h5⟩,fun o ho=>(z o).trans (hf o ho)⟩
theorem src_set {ao:Option Addr} {len cap g:Nat} {w:World} (h:Src ao len cap g w) {X:Nat} (hX:g<X) (o:Nat) (v:Value):Src ao len cap g (w.setCell ⟨X,o,none⟩ v):=h.kept (rset w X o v) (fun k e=>by cases e;exact hX)
theorem set_new {w wx:World} {g X:Nat} (h:w.grownBy wx (some g)) (hX:w.heap.size≤X) (o:Nat) (v:Value):w.grownBy (wx.setCell ⟨X,o,none⟩ v) (some g):=gnew' h hX
def EvOut (ao:Option Addr) (len cap g:Nat) (w:World) (e:Ending) (w':World):Prop:=(∃(i a m:ByteArray) (n k:Int) (t:ByteArray),e=.returned (ev i a m n k t)∧i.size≤100∧a.size≤100∧m.size≤100∧t.size≤100)∧Src ao len cap g w'∧w.grownBy w' (some g)
set_option maxRecDepth 100000 in
set_option maxHeartbeats 8000000 in
theorem event_any (ao:Option Addr) (len cap g:Nat) (w:World) (hS:Src ao len cap g w) :
 Calls Tryd.prog 58 #[.pointer (some ⟨g,0,none⟩)] w fun e w'=>EvOut ao len cap g w e w':=by
 have HS:=H_ hS
 have hgl:=hS.lt
 clear hS
 go_enter Tryd.func58,Tryd.ntmps58
 obtain ⟨W0,hW0⟩:∃W0,W0=w.alloc (.cells #[.string ⟨#[]⟩,.string ⟨#[]⟩,.string ⟨#[]⟩,.int .i64 0,.int .i64 0,.string ⟨#[]⟩] 76):=⟨_,rfl⟩
 have HW0:=H_ hW0
 have HZP:Hid (Z6 w.heap.size W0):=H_ (by rw [hW0];exact Z6.new w 76)
 have HGP:Hid (w.grownBy W0 (some g)):=H_ (by rw [hW0];exact World.grownBy_alloc _ _ _)
 have HSP:Hid (Src ao len cap g W0):=H_ (by rw [hW0];exact HS.out.alloc _)
 have HLP:Hid (w.heap.size<W0.heap.size):=H_ (by rw [hW0];simp)
 clear hW0
 go_wp2_with fail
 rw [←HW0.out]
 have ew0:w.heap.size+1=W0.heap.size:=by rw [HW0.out];simp
 rw [ew0]
 have HS1:=H_ (HSP.out.alloc (.cells (List.map Value.string [⟨#[101,49]⟩,⟨#[101,50]⟩,⟨#[101,51]⟩,⟨#[101,52]⟩,⟨#[101,53]⟩]).toArray 9))
 have HT1:=H_ (strs_new W0 [⟨#[101,49]⟩,⟨#[101,50]⟩,⟨#[101,51]⟩,⟨#[101,52]⟩,⟨#[101,53]⟩] 100 9 (by decide))
 refine (pick_any ao len cap g W0.heap.size 5 100 _ (by omega) (by omega) (by have:=HLP.out;omega) HS1.out HT1.out).mono ?_
 rintro e w1 ⟨⟨t1,rfl,ht1⟩,hS,hg⟩
 replace HZP:=H_ ((HZP.out.grown (World.grownBy_alloc W0 (.cells (List.map Value.string [⟨#[101,49]⟩,⟨#[101,50]⟩,⟨#[101,51]⟩,⟨#[101,52]⟩,⟨#[101,53]⟩]).toArray 9) none) (by simp)).grown hg (by simp;omega))
 replace HGP:=H_ (Lib.grownBy_trans (Lib.grownBy_trans HGP.out (World.grownBy_alloc W0 (.cells (List.map Value.string [⟨#[101,49]⟩,⟨#[101,50]⟩,⟨#[101,51]⟩,⟨#[101,52]⟩,⟨#[101,53]⟩]).toArray 9) (some g))) hg)
 replace HSP:=H_ hS
 replace HLP:Hid (w.heap.size<w1.heap.size):=H_ HZP.out.1
 have Ht1:=H_ ht1
 clear hS hg HS1 HT1 ht1
 go_wp2_with fail
 have HS1:=H_ (HSP.out.alloc (.cells (List.map Value.string [⟨#[97,110,110]⟩,⟨#[98,111,98]⟩]).toArray 9))
 have HT1:=H_ (strs_new w1 [⟨#[97,110,110]⟩,⟨#[98,111,98]⟩] 100 9 (by decide))
 refine (pick_any ao len cap g w1.heap.size 2 100 _ (by omega) (by omega) (by have:=HLP.out;omega) HS1.out HT1.out).mono ?_
 rintro e w2 ⟨⟨t2,rfl,ht2⟩,hS,hg⟩
 replace HZP:=H_ ((HZP.out.grown (World.grownBy_alloc w1 (.cells (List.map Value.string [⟨#[97,110,110]⟩,⟨#[98,111,98]⟩]).toArray 9) none) (by simp)).grown hg (by simp;omega))
 replace HGP:=H_ (Lib.grownBy_trans (Lib.grownBy_trans HGP.out (World.grownBy_alloc w1 (.cells (List.map Value.string [⟨#[97,110,110]⟩,⟨#[98,111,98]⟩]).toArray 9) (some g))) hg)
 replace HSP:=H_ hS
 replace HLP:Hid (w.heap.size<w2.heap.size):=H_ HZP.out.1
 have Ht2:=H_ ht2
 clear hS hg HS1 HT1 ht2
 go_wp2_with fail
 have HS1:=H_ (HSP.out.alloc (.cells (List.map Value.string [⟨#[99,112,117]⟩,⟨#[100,105,115,107]⟩,⟨#[110,101,116]⟩,⟨#[117,115,101,114,115]⟩]).toArray 9))
 have HT1:=H_ (strs_new w2 [⟨#[99,112,117]⟩,⟨#[100,105,115,107]⟩,⟨#[110,101,116]⟩,⟨#[117,115,101,114,115]⟩] 100 9 (by decide))
 refine (pick_any ao len cap g w2.heap.size 4 100 _ (by omega) (by omega) (by have:=HLP.out;omega) HS1.out HT1.out).mono ?_
 rintro e w3 ⟨⟨t3,rfl,ht3⟩,hS,hg⟩
 replace HZP:=H_ ((HZP.out.grown (World.grownBy_alloc w2 (.cells (List.map Value.string [⟨#[99,112,117]⟩,⟨#[100,105,115,107]⟩,⟨#[110,101,116]⟩,⟨#[117,115,101,114,115]⟩]).toArray 9) none) (by simp)).grown hg (by simp;omega))
 replace HGP:=H_ (Lib.grownBy_trans (Lib.grownBy_trans HGP.out (World.grownBy_alloc w2 (.cells (List.map Value.string [⟨#[99,112,117]⟩,⟨#[100,105,115,107]⟩,⟨#[110,101,116]⟩,⟨#[117,115,101,114,115]⟩]).toArray 9) (some g))) hg)
 replace HSP:=H_ hS
 replace HLP:Hid (w.heap.size<w3.heap.size):=H_ HZP.out.1
 have Ht3:=H_ ht3
 clear hS hg HS1 HT1 ht3
 go_wp2_with fail
 refine (start_any _).mono ?_
 rintro e w4 ⟨⟨v4,rfl⟩,hb4⟩
 replace HZP:=H_ (HZP.out.grown (rgrown hb4 none) (by simp))
 replace HGP:=H_ (Lib.grownBy_trans HGP.out (rgrown hb4 (some g)))
 replace HSP:=H_ (HSP.out.kept (rgrown hb4 none) (fun k e=>by cases e))
 replace HLP:Hid (w.heap.size<w4.heap.size):=H_ HZP.out.1
 clear hb4
 go_wp2_with fail
 refine (n_any ao len cap g 900 _ (by omega) HSP.out).mono ?_
 rintro e w5 ⟨v5,rfl,lo5,_,hi5,hS,hg⟩
 have ht5:v5<900:=hi5 (by omega)
 replace HZP:=H_ (HZP.out.grown hg (by simp;omega))
 replace HGP:=H_ (Lib.grownBy_trans HGP.out hg)
 replace HSP:=H_ hS
 replace HLP:Hid (w.heap.size<w5.heap.size):=H_ HZP.out.1
 clear hS hg hi5
 go_wp2_with fail
 refine (n_any ao len cap g 60 _ (by omega) HSP.out).mono ?_
 rintro e w6 ⟨v6,rfl,lo6,_,hi6,hS,hg⟩
 have ht6:v6<60:=hi6 (by omega)
 replace HZP:=H_ (HZP.out.grown hg (by simp;omega))
 replace HGP:=H_ (Lib.grownBy_trans HGP.out hg)
 replace HSP:=H_ hS
 replace HLP:Hid (w.heap.size<w6.heap.size):=H_ HZP.out.1
 clear hS hg hi6
 go_wp2_with fail
 refine (n_any ao len cap g 500 _ (by omega) HSP.out).mono ?_
 rintro e w7 ⟨v7,rfl,lo7,_,hi7,hS,hg⟩
 have ht7:v7<500:=hi7 (by omega)
 replace HZP:=H_ (HZP.out.grown hg (by simp;omega))
 replace HGP:=H_ (Lib.grownBy_trans HGP.out hg)
 replace HSP:=H_ hS
 replace HLP:Hid (w.heap.size<w7.heap.size):=H_ HZP.out.1
 clear hS hg hi7
 go_wp2_with fail
 have HS1:=H_ (HSP.out.alloc (.cells (List.map Value.string [⟨#[]⟩,⟨#[97]⟩,⟨#[98]⟩,⟨#[99]⟩]).toArray 9))
 have HT1:=H_ (strs_new w7 [⟨#[]⟩,⟨#[97]⟩,⟨#[98]⟩,⟨#[99]⟩] 100 9 (by decide))
 refine (pick_any ao len cap g w7.heap.size 4 100 _ (by omega) (by omega) (by have:=HLP.out;omega) HS1.out HT1.out).mono ?_
 rintro e w8 ⟨⟨t8,rfl,ht8⟩,hS,hg⟩
 replace HZP:=H_ ((HZP.out.grown (World.grownBy_alloc w7 (.cells (List.map Value.string [⟨#[]⟩,⟨#[97]⟩,⟨#[98]⟩,⟨#[99]⟩]).toArray 9) none) (by simp)).grown hg (by simp;omega))
 replace HGP:=H_ (Lib.grownBy_trans (Lib.grownBy_trans HGP.out (World.grownBy_alloc w7 (.cells (List.map Value.string [⟨#[]⟩,⟨#[97]⟩,⟨#[98]⟩,⟨#[99]⟩]).toArray 9) (some g))) hg)
 replace HSP:=H_ hS
 replace HLP:Hid (w.heap.size<w8.heap.size):=H_ HZP.out.1
 have Ht8:=H_ ht8
 clear hS hg HS1 HT1 ht8
 go_wp2_with fail
 generalize wrap64 (wrap64 (v4+60*v5)+v6)=nn at *
 have HEP:Hid (B6 w8.heap.size t1 t2 t3 nn v7 t8 (w8.alloc (.cells #[.string t1,.string t2,.string t3,.int .i64 nn,.int .i64 v7,.string t8] 76))):=H_ (B6.new w8 t1 t2 t3 nn v7 t8 _)
 have HEB:Hid (w.heap.size<w8.heap.size∧g<w8.heap.size):=H_ (by have:=HLP.out;omega)
 replace HZP:=H_ (HZP.out.grown (World.grownBy_alloc w8 (.cells #[.string t1,.string t2,.string t3,.int .i64 nn,.int .i64 v7,.string t8] 76) none) (by simp))
 replace HGP:=H_ (Lib.grownBy_trans HGP.out (World.grownBy_alloc w8 (.cells #[.string t1,.string t2,.string t3,.int .i64 nn,.int .i64 v7,.string t8] 76) (some g)))
 replace HSP:=H_ (HSP.out.alloc (.cells #[.string t1,.string t2,.string t3,.int .i64 nn,.int .i64 v7,.string t8] 76))
 refine (one_any ao len cap g 25 _ (by omega) HSP.out).mono ?_
 rintro e w9 ⟨⟨q,rfl⟩,hS,hg⟩
 replace HZP:=H_ (HZP.out.grown hg (by simp;omega))
 replace HEP:=H_ (HEP.out.grown hg (by have:=HEB.out;simp;omega))
 replace HGP:=H_ (Lib.grownBy_trans HGP.out hg)
 replace HSP:=H_ hS
 clear hS hg
 cases q
 ·obtain ⟨be,⟨x0,x1,x2,x3,x4,x5⟩,xf⟩:=HEP.out
  obtain ⟨bz,zz⟩:=HZP.out
  have z0:w9.cell? ⟨w.heap.size,0,none⟩=some (.string ⟨#[]⟩):=(zz 0 (by omega)).1
  have z1:w9.cell? ⟨w.heap.size,1,none⟩=some (.string ⟨#[]⟩):=(zz 1 (by omega)).1
  have z2:w9.cell? ⟨w.heap.size,2,none⟩=some (.string ⟨#[]⟩):=(zz 2 (by omega)).1
  have z3:w9.cell? ⟨w.heap.size,3,none⟩=some (.int .i64 0):=(zz 3 (by omega)).1
  have z4:w9.cell? ⟨w.heap.size,4,none⟩=some (.int .i64 0):=(zz 4 (by omega)).1
  have z5:w9.cell? ⟨w.heap.size,5,none⟩=some (.string ⟨#[]⟩):=(zz 5 (by omega)).1
  have y0:=(zz 0 (by omega)).2
  have y1:=(zz 1 (by omega)).2
  have y2:=(zz 2 (by omega)).2
  have y3:=(zz 3 (by omega)).2
  have y4:=(zz 4 (by omega)).2
  have y5:=(zz 5 (by omega)).2
  have xf0:=xf 0 (by omega)
  have xf1:=xf 1 (by omega)
  have xf2:=xf 2 (by omega)
  have xf3:=xf 3 (by omega)
  have xf4:=xf 4 (by omega)
  have xf5:=xf 5 (by omega)
  have hEB:=HEB.out
  clear zz xf
  have HSE:=HSP
  have HGE:=HGP
  go_wp2_with fail
  refine bodyPost_ret (v:=ev t1 t2 t3 nn v7 t8) (by simp [ev,results,Tryd.results58,go_sem,z0,z1,z2,z3,z4,z5]) rfl ⟨⟨t1,t2,t3,nn,v7,t8,rfl,Ht1.out,Ht2.out,Ht3.out,Ht8.out⟩,?_,?_⟩
  ·exact src_set (src_set (src_set (src_set (src_set (src_set HSE.out (by omega) _ _) (by omega) _ _) (by omega) _ _) (by omega) _ _) (by omega) _ _) (by omega) _ _
  ·exact set_new (set_new (set_new (set_new (set_new (set_new HGE.out (Nat.le_refl _) _ _) (Nat.le_refl _) _ _) (Nat.le_refl _) _ _) (Nat.le_refl _) _ _) (Nat.le_refl _) _ _) (Nat.le_refl _) _ _
 ·go_wp2_with fail
  refine (n_any ao len cap g 5 _ (by omega) HSP.out).mono ?_
  rintro e w10 ⟨v10,rfl,lo10,_,hi10,hS,hg⟩
  have ht10:v10<5:=hi10 (by omega)
  replace HEP:=H_ (HEP.out.grown hg (by have:=HEB.out;simp;omega))
  replace HZP:=H_ (HZP.out.grown hg (by simp;omega))
  replace HGP:=H_ (Lib.grownBy_trans HGP.out hg)
  replace HSP:=H_ hS
  have HL10:Hid (w8.heap.size<w10.heap.size):=H_ HEP.out.1
  clear hS hg hi10
  rcases (show v10=0∨v10=1∨v10=2∨v10=3∨v10=4 by omega) with rfl|rfl|rfl|rfl|rfl
  ·obtain ⟨i0,hi,hz0,hz1,hz2⟩:=info_parts Trydinfo5
   go_wp2_with (at_make;refine wpList_make_full _ rfl _ _ 22 rfl w.heap.size 5 i0 (.int .u8 0) 1 Tryd.underlying22 hi hz0 hz1 .i64 .i64 _ _ 21 rfl rfl rfl rfl ?b2 ?b3 ?b4 ?_)
   case b2=>rw [hz2];omega
   case b3=>unfold maxLen;omega
   case b4=>have:=HL10.out;have:=HEB.out;omega
   intro wm hown hgrow
   have hx:(madeCells #[Value.int IntKind.u8 0] 21).toList=(List.replicate 21 (0:Int)).map (Value.int .u8):=by
    rw [toList_madeCells_one,List.map_replicate]
   rw [hx] at hown
   obtain ⟨g2,cap2,hv,hconv⟩:=own_str hown (by simp)
   simp only [Value.slice.injEq,Option.some.injEq,Addr.mk.injEq,and_true,true_and] at hv
   obtain ⟨rfl,rfl⟩:=hv
   have hT:(strOfNums (List.replicate 21 (0:Int))).size=21:=by rw [strOfNums_size,List.length_replicate]
   generalize strOfNums (List.replicate 21 (0:Int))=T21 at *
   replace HEP:=H_ (HEP.out.grown hgrow (by simp))
   replace HZP:=H_ (HZP.out.grown hgrow (by simp))
   replace HGP:=H_ (Lib.grownBy_trans HGP.out (⟨hgrow.os,hgrow.tape,hgrow.output,hgrow.size,fun k hk _=>hgrow.block k hk (by simp)⟩:w10.grownBy wm (some g)))
   replace HSP:=H_ (HSP.out.kept hgrow (fun k e=>by cases e))
   have HL11:Hid (w8.heap.size<wm.heap.size):=H_ HEP.out.1
   clear hown hgrow hx hi hz0 hz1 hz2
   go_wp2_with fail
   have HS1:=H_ (HSP.out.alloc (.cells (List.map Value.string [⟨#[]⟩,⟨#[32]⟩,T21]).toArray 9))
   have HT1:=H_ (strs_new wm [⟨#[]⟩,⟨#[32]⟩,T21] 100 9 (by
    intro x hx
    simp only [List.mem_cons,List.not_mem_nil,or_false] at hx
    rcases hx with rfl|rfl|rfl
    ·decide
    ·decide
    ·omega))
   refine (pick_any ao len cap g wm.heap.size 3 100 _ (by omega) (by omega) (by have:=HL11.out;have:=HEB.out;omega) HS1.out HT1.out).mono ?_
   rintro e w11 ⟨⟨t11,rfl,ht11⟩,hS,hg⟩
   replace HEP:=H_ ((HEP.out.grown (World.grownBy_alloc wm (.cells (List.map Value.string [⟨#[]⟩,⟨#[32]⟩,T21]).toArray 9) none) (by simp)).grown hg (by have:=HEB.out;simp;omega))
   replace HZP:=H_ ((HZP.out.grown (World.grownBy_alloc wm (.cells (List.map Value.string [⟨#[]⟩,⟨#[32]⟩,T21]).toArray 9) none) (by simp)).grown hg (by simp;omega))
   replace HGP:=H_ (Lib.grownBy_trans (Lib.grownBy_trans HGP.out (World.grownBy_alloc wm (.cells (List.map Value.string [⟨#[]⟩,⟨#[32]⟩,T21]).toArray 9) (some g))) hg)
   replace HSP:=H_ hS
   have Ht11:=H_ ht11
   clear hS hg HS1 HT1 ht11 hconv
   obtain ⟨be,⟨x0,x1,x2,x3,x4,x5⟩,xf⟩:=HEP.out
   obtain ⟨bz,zz⟩:=HZP.out
   have z0:w11.cell? ⟨w.heap.size,0,none⟩=some (.string ⟨#[]⟩):=(zz 0 (by omega)).1
   have z1:w11.cell? ⟨w.heap.size,1,none⟩=some (.string ⟨#[]⟩):=(zz 1 (by omega)).1
   have z2:w11.cell? ⟨w.heap.size,2,none⟩=some (.string ⟨#[]⟩):=(zz 2 (by omega)).1
   have z3:w11.cell? ⟨w.heap.size,3,none⟩=some (.int .i64 0):=(zz 3 (by omega)).1
   have z4:w11.cell? ⟨w.heap.size,4,none⟩=some (.int .i64 0):=(zz 4 (by omega)).1
   have z5:w11.cell? ⟨w.heap.size,5,none⟩=some (.string ⟨#[]⟩):=(zz 5 (by omega)).1
   have y0:=(zz 0 (by omega)).2
   have y1:=(zz 1 (by omega)).2
   have y2:=(zz 2 (by omega)).2
   have y3:=(zz 3 (by omega)).2
   have y4:=(zz 4 (by omega)).2
   have y5:=(zz 5 (by omega)).2
   have xf0:=xf 0 (by omega)
   have xf1:=xf 1 (by omega)
   have xf2:=xf 2 (by omega)
   have xf3:=xf 3 (by omega)
   have xf4:=xf 4 (by omega)
   have xf5:=xf 5 (by omega)
   have hEB:=HEB.out
   clear zz xf
   have HSE:=H_ (src_set HSP.out (X:=w8.heap.size) (by omega) 0 (.string t11))
   have HGE:=H_ (set_new HGP.out (X:=w8.heap.size) (by omega) 0 (.string t11))
   go_wp2_with fail
   refine bodyPost_ret (v:=ev t11 t2 t3 nn v7 t8) (by simp [ev,results,Tryd.results58,go_sem,z0,z1,z2,z3,z4,z5]) rfl ⟨⟨t11,t2,t3,nn,v7,t8,rfl,Ht11.out,Ht2.out,Ht3.out,Ht8.out⟩,?_,?_⟩
   ·exact src_set (src_set (src_set (src_set (src_set (src_set HSE.out (by omega) _ _) (by omega) _ _) (by omega) _ _) (by omega) _ _) (by omega) _ _) (by omega) _ _
   ·exact set_new (set_new (set_new (set_new (set_new (set_new HGE.out (Nat.le_refl _) _ _) (Nat.le_refl _) _ _) (Nat.le_refl _) _ _) (Nat.le_refl _) _ _) (Nat.le_refl _) _ _) (Nat.le_refl _) _ _
  ·go_wp2_with fail
   have HS1:=H_ (HSP.out.alloc (.cells (List.map (Value.int .i64) [-1,0,121000000,121000001]).toArray 2))
   refine (n_any ao len cap g 4 _ (by omega) HS1.out).mono ?_
   rintro e w11 ⟨v11,rfl,lo11,_,hi11,hS,hg⟩
   have ht11:v11<4:=hi11 (by omega)
   obtain ⟨j,rfl⟩:∃j:Nat,v11=j:=⟨v11.toNat,by omega⟩
   have hj:j<4:=by omega
   obtain ⟨X,hX⟩:∃X:Int,([-1,0,121000000,121000001]:List Int)[j]? = some X:=⟨_,List.getElem?_eq_getElem (by simpa using hj)⟩
   have cX:w11.cell? ⟨w10.heap.size,j,none⟩=some (.int .i64 X):=(World.cell?_of_block (a:=⟨w10.heap.size,j,none⟩) (hg.block w10.heap.size (by simp) (by have:=HEB.out;have:=HL10.out;simp;omega))).trans (ints_cell w10 _ _ j X hX)
   replace HEP:=H_ ((HEP.out.grown (World.grownBy_alloc w10 (.cells (List.map (Value.int .i64) [-1,0,121000000,121000001]).toArray 2) none) (by simp)).grown hg (by have:=HEB.out;simp;omega))
   replace HZP:=H_ ((HZP.out.grown (World.grownBy_alloc w10 (.cells (List.map (Value.int .i64) [-1,0,121000000,121000001]).toArray 2) none) (by simp)).grown hg (by simp;omega))
   replace HGP:=H_ (Lib.grownBy_trans (Lib.grownBy_trans HGP.out (World.grownBy_alloc w10 (.cells (List.map (Value.int .i64) [-1,0,121000000,121000001]).toArray 2) (some g))) hg)
   replace HSP:=H_ hS
   have hl11:w10.heap.size<w11.heap.size:=by have:=hg.size;simp at this;omega
   clear hS hg HS1 hX hi11
   obtain ⟨be,⟨x0,x1,x2,x3,x4,x5⟩,xf⟩:=HEP.out
   obtain ⟨bz,zz⟩:=HZP.out
   have z0:w11.cell? ⟨w.heap.size,0,none⟩=some (.string ⟨#[]⟩):=(zz 0 (by omega)).1
   have z1:w11.cell? ⟨w.heap.size,1,none⟩=some (.string ⟨#[]⟩):=(zz 1 (by omega)).1
   have z2:w11.cell? ⟨w.heap.size,2,none⟩=some (.string ⟨#[]⟩):=(zz 2 (by omega)).1
   have z3:w11.cell? ⟨w.heap.size,3,none⟩=some (.int .i64 0):=(zz 3 (by omega)).1
   have z4:w11.cell? ⟨w.heap.size,4,none⟩=some (.int .i64 0):=(zz 4 (by omega)).1
   have z5:w11.cell? ⟨w.heap.size,5,none⟩=some (.string ⟨#[]⟩):=(zz 5 (by omega)).1
   have y0:=(zz 0 (by omega)).2
   have y1:=(zz 1 (by omega)).2
   have y2:=(zz 2 (by omega)).2
   have y3:=(zz 3 (by omega)).2
   have y4:=(zz 4 (by omega)).2
   have y5:=(zz 5 (by omega)).2
   have xf0:=xf 0 (by omega)
   have xf1:=xf 1 (by omega)
   have xf2:=xf 2 (by omega)
   have xf3:=xf 3 (by omega)
   have xf4:=xf 4 (by omega)
   have xf5:=xf 5 (by omega)
   have hEB:=HEB.out
   clear zz xf
   have HSE:=H_ (src_set HSP.out (X:=w8.heap.size) (by omega) 3 (.int .i64 X))
   have HGE:=H_ (set_new HGP.out (X:=w8.heap.size) (by omega) 3 (.int .i64 X))
   go_wp2_with fail
   refine bodyPost_ret (v:=ev t1 t2 t3 X v7 t8) (by simp [ev,results,Tryd.results58,go_sem,z0,z1,z2,z3,z4,z5]) rfl ⟨⟨t1,t2,t3,X,v7,t8,rfl,Ht1.out,Ht2.out,Ht3.out,Ht8.out⟩,?_,?_⟩
   ·exact src_set (src_set (src_set (src_set (src_set (src_set HSE.out (by omega) _ _) (by omega) _ _) (by omega) _ _) (by omega) _ _) (by omega) _ _) (by omega) _ _
   ·exact set_new (set_new (set_new (set_new (set_new (set_new HGE.out (Nat.le_refl _) _ _) (Nat.le_refl _) _ _) (Nat.le_refl _) _ _) (Nat.le_refl _) _ _) (Nat.le_refl _) _ _) (Nat.le_refl _) _ _
  ·go_wp2_with fail
   have HS1:=H_ (HSP.out.alloc (.cells (List.map (Value.int .i64) [-1,1000000000,1000000001]).toArray 2))
   refine (n_any ao len cap g 3 _ (by omega) HS1.out).mono ?_
   rintro e w11 ⟨v11,rfl,lo11,_,hi11,hS,hg⟩
   have ht11:v11<3:=hi11 (by omega)
   obtain ⟨j,rfl⟩:∃j:Nat,v11=j:=⟨v11.toNat,by omega⟩
   have hj:j<3:=by omega
   obtain ⟨X,hX⟩:∃X:Int,([-1,1000000000,1000000001]:List Int)[j]? = some X:=⟨_,List.getElem?_eq_getElem (by simpa using hj)⟩
   have cX:w11.cell? ⟨w10.heap.size,j,none⟩=some (.int .i64 X):=(World.cell?_of_block (a:=⟨w10.heap.size,j,none⟩) (hg.block w10.heap.size (by simp) (by have:=HEB.out;have:=HL10.out;simp;omega))).trans (ints_cell w10 _ _ j X hX)
   replace HEP:=H_ ((HEP.out.grown (World.grownBy_alloc w10 (.cells (List.map (Value.int .i64) [-1,1000000000,1000000001]).toArray 2) none) (by simp)).grown hg (by have:=HEB.out;simp;omega))
   replace HZP:=H_ ((HZP.out.grown (World.grownBy_alloc w10 (.cells (List.map (Value.int .i64) [-1,1000000000,1000000001]).toArray 2) none) (by simp)).grown hg (by simp;omega))
   replace HGP:=H_ (Lib.grownBy_trans (Lib.grownBy_trans HGP.out (World.grownBy_alloc w10 (.cells (List.map (Value.int .i64) [-1,1000000000,1000000001]).toArray 2) (some g))) hg)
   replace HSP:=H_ hS
   have hl11:w10.heap.size<w11.heap.size:=by have:=hg.size;simp at this;omega
   clear hS hg HS1 hX hi11
   obtain ⟨be,⟨x0,x1,x2,x3,x4,x5⟩,xf⟩:=HEP.out
   obtain ⟨bz,zz⟩:=HZP.out
   have z0:w11.cell? ⟨w.heap.size,0,none⟩=some (.string ⟨#[]⟩):=(zz 0 (by omega)).1
   have z1:w11.cell? ⟨w.heap.size,1,none⟩=some (.string ⟨#[]⟩):=(zz 1 (by omega)).1
   have z2:w11.cell? ⟨w.heap.size,2,none⟩=some (.string ⟨#[]⟩):=(zz 2 (by omega)).1
   have z3:w11.cell? ⟨w.heap.size,3,none⟩=some (.int .i64 0):=(zz 3 (by omega)).1
   have z4:w11.cell? ⟨w.heap.size,4,none⟩=some (.int .i64 0):=(zz 4 (by omega)).1
   have z5:w11.cell? ⟨w.heap.size,5,none⟩=some (.string ⟨#[]⟩):=(zz 5 (by omega)).1
   have y0:=(zz 0 (by omega)).2
   have y1:=(zz 1 (by omega)).2
   have y2:=(zz 2 (by omega)).2
   have y3:=(zz 3 (by omega)).2
   have y4:=(zz 4 (by omega)).2
   have y5:=(zz 5 (by omega)).2
   have xf0:=xf 0 (by omega)
   have xf1:=xf 1 (by omega)
   have xf2:=xf 2 (by omega)
   have xf3:=xf 3 (by omega)
   have xf4:=xf 4 (by omega)
   have xf5:=xf 5 (by omega)
   have hEB:=HEB.out
   clear zz xf
   have HSE:=H_ (src_set HSP.out (X:=w8.heap.size) (by omega) 4 (.int .i64 X))
   have HGE:=H_ (set_new HGP.out (X:=w8.heap.size) (by omega) 4 (.int .i64 X))
   go_wp2_with fail
   refine bodyPost_ret (v:=ev t1 t2 t3 nn X t8) (by simp [ev,results,Tryd.results58,go_sem,z0,z1,z2,z3,z4,z5]) rfl ⟨⟨t1,t2,t3,nn,X,t8,rfl,Ht1.out,Ht2.out,Ht3.out,Ht8.out⟩,?_,?_⟩
   ·exact src_set (src_set (src_set (src_set (src_set (src_set HSE.out (by omega) _ _) (by omega) _ _) (by omega) _ _) (by omega) _ _) (by omega) _ _) (by omega) _ _
   ·exact set_new (set_new (set_new (set_new (set_new (set_new HGE.out (Nat.le_refl _) _ _) (Nat.le_refl _) _ _) (Nat.le_refl _) _ _) (Nat.le_refl _) _ _) (Nat.le_refl _) _ _) (Nat.le_refl _) _ _
  ·go_wp2_with fail
   have HS1:=H_ (HSP.out.alloc (.cells (List.map Value.string [⟨#[]⟩,⟨#[65]⟩]).toArray 9))
   have HT1:=H_ (strs_new w10 [⟨#[]⟩,⟨#[65]⟩] 100 9 (by decide))
   refine (pick_any ao len cap g w10.heap.size 2 100 _ (by omega) (by omega) (by have:=HL10.out;have:=HEB.out;omega) HS1.out HT1.out).mono ?_
   rintro e w11 ⟨⟨t11,rfl,ht11⟩,hS,hg⟩
   replace HEP:=H_ ((HEP.out.grown (World.grownBy_alloc w10 (.cells (List.map Value.string [⟨#[]⟩,⟨#[65]⟩]).toArray 9) none) (by simp)).grown hg (by have:=HEB.out;simp;omega))
   replace HZP:=H_ ((HZP.out.grown (World.grownBy_alloc w10 (.cells (List.map Value.string [⟨#[]⟩,⟨#[65]⟩]).toArray 9) none) (by simp)).grown hg (by simp;omega))
   replace HGP:=H_ (Lib.grownBy_trans (Lib.grownBy_trans HGP.out (World.grownBy_alloc w10 (.cells (List.map Value.string [⟨#[]⟩,⟨#[65]⟩]).toArray 9) (some g))) hg)
   replace HSP:=H_ hS
   have Ht11:=H_ ht11
   clear hS hg HS1 HT1 ht11
   obtain ⟨be,⟨x0,x1,x2,x3,x4,x5⟩,xf⟩:=HEP.out
   obtain ⟨bz,zz⟩:=HZP.out
   have z0:w11.cell? ⟨w.heap.size,0,none⟩=some (.string ⟨#[]⟩):=(zz 0 (by omega)).1
   have z1:w11.cell? ⟨w.heap.size,1,none⟩=some (.string ⟨#[]⟩):=(zz 1 (by omega)).1
   have z2:w11.cell? ⟨w.heap.size,2,none⟩=some (.string ⟨#[]⟩):=(zz 2 (by omega)).1
   have z3:w11.cell? ⟨w.heap.size,3,none⟩=some (.int .i64 0):=(zz 3 (by omega)).1
   have z4:w11.cell? ⟨w.heap.size,4,none⟩=some (.int .i64 0):=(zz 4 (by omega)).1
   have z5:w11.cell? ⟨w.heap.size,5,none⟩=some (.string ⟨#[]⟩):=(zz 5 (by omega)).1
   have y0:=(zz 0 (by omega)).2
   have y1:=(zz 1 (by omega)).2
   have y2:=(zz 2 (by omega)).2
   have y3:=(zz 3 (by omega)).2
   have y4:=(zz 4 (by omega)).2
   have y5:=(zz 5 (by omega)).2
   have xf0:=xf 0 (by omega)
   have xf1:=xf 1 (by omega)
   have xf2:=xf 2 (by omega)
   have xf3:=xf 3 (by omega)
   have xf4:=xf 4 (by omega)
   have xf5:=xf 5 (by omega)
   have hEB:=HEB.out
   clear zz xf
   have HSE:=H_ (src_set HSP.out (X:=w8.heap.size) (by omega) 1 (.string t11))
   have HGE:=H_ (set_new HGP.out (X:=w8.heap.size) (by omega) 1 (.string t11))
   go_wp2_with fail
   refine bodyPost_ret (v:=ev t1 t11 t3 nn v7 t8) (by simp [ev,results,Tryd.results58,go_sem,z0,z1,z2,z3,z4,z5]) rfl ⟨⟨t1,t11,t3,nn,v7,t8,rfl,Ht1.out,Ht11.out,Ht3.out,Ht8.out⟩,?_,?_⟩
   ·exact src_set (src_set (src_set (src_set (src_set (src_set HSE.out (by omega) _ _) (by omega) _ _) (by omega) _ _) (by omega) _ _) (by omega) _ _) (by omega) _ _
   ·exact set_new (set_new (set_new (set_new (set_new (set_new HGE.out (Nat.le_refl _) _ _) (Nat.le_refl _) _ _) (Nat.le_refl _) _ _) (Nat.le_refl _) _ _) (Nat.le_refl _) _ _) (Nat.le_refl _) _ _
  ·go_wp2_with fail
   have HS1:=H_ (HSP.out.alloc (.cells (List.map Value.string [⟨#[32]⟩,⟨#[49,50,51,52,53,54,55,56,57,48,49]⟩]).toArray 9))
   have HT1:=H_ (strs_new w10 [⟨#[32]⟩,⟨#[49,50,51,52,53,54,55,56,57,48,49]⟩] 100 9 (by decide))
   refine (pick_any ao len cap g w10.heap.size 2 100 _ (by omega) (by omega) (by have:=HL10.out;have:=HEB.out;omega) HS1.out HT1.out).mono ?_
   rintro e w11 ⟨⟨t11,rfl,ht11⟩,hS,hg⟩
   replace HEP:=H_ ((HEP.out.grown (World.grownBy_alloc w10 (.cells (List.map Value.string [⟨#[32]⟩,⟨#[49,50,51,52,53,54,55,56,57,48,49]⟩]).toArray 9) none) (by simp)).grown hg (by have:=HEB.out;simp;omega))
   replace HZP:=H_ ((HZP.out.grown (World.grownBy_alloc w10 (.cells (List.map Value.string [⟨#[32]⟩,⟨#[49,50,51,52,53,54,55,56,57,48,49]⟩]).toArray 9) none) (by simp)).grown hg (by simp;omega))
   replace HGP:=H_ (Lib.grownBy_trans (Lib.grownBy_trans HGP.out (World.grownBy_alloc w10 (.cells (List.map Value.string [⟨#[32]⟩,⟨#[49,50,51,52,53,54,55,56,57,48,49]⟩]).toArray 9) (some g))) hg)
   replace HSP:=H_ hS
   have Ht11:=H_ ht11
   clear hS hg HS1 HT1 ht11
   obtain ⟨be,⟨x0,x1,x2,x3,x4,x5⟩,xf⟩:=HEP.out
   obtain ⟨bz,zz⟩:=HZP.out
   have z0:w11.cell? ⟨w.heap.size,0,none⟩=some (.string ⟨#[]⟩):=(zz 0 (by omega)).1
   have z1:w11.cell? ⟨w.heap.size,1,none⟩=some (.string ⟨#[]⟩):=(zz 1 (by omega)).1
   have z2:w11.cell? ⟨w.heap.size,2,none⟩=some (.string ⟨#[]⟩):=(zz 2 (by omega)).1
   have z3:w11.cell? ⟨w.heap.size,3,none⟩=some (.int .i64 0):=(zz 3 (by omega)).1
   have z4:w11.cell? ⟨w.heap.size,4,none⟩=some (.int .i64 0):=(zz 4 (by omega)).1
   have z5:w11.cell? ⟨w.heap.size,5,none⟩=some (.string ⟨#[]⟩):=(zz 5 (by omega)).1
   have y0:=(zz 0 (by omega)).2
   have y1:=(zz 1 (by omega)).2
   have y2:=(zz 2 (by omega)).2
   have y3:=(zz 3 (by omega)).2
   have y4:=(zz 4 (by omega)).2
   have y5:=(zz 5 (by omega)).2
   have xf0:=xf 0 (by omega)
   have xf1:=xf 1 (by omega)
   have xf2:=xf 2 (by omega)
   have xf3:=xf 3 (by omega)
   have xf4:=xf 4 (by omega)
   have xf5:=xf 5 (by omega)
   have hEB:=HEB.out
   clear zz xf
   have HSE:=H_ (src_set HSP.out (X:=w8.heap.size) (by omega) 5 (.string t11))
   have HGE:=H_ (set_new HGP.out (X:=w8.heap.size) (by omega) 5 (.string t11))
   go_wp2_with fail
   refine bodyPost_ret (v:=ev t1 t2 t3 nn v7 t11) (by simp [ev,results,Tryd.results58,go_sem,z0,z1,z2,z3,z4,z5]) rfl ⟨⟨t1,t2,t3,nn,v7,t11,rfl,Ht1.out,Ht2.out,Ht3.out,Ht11.out⟩,?_,?_⟩
   ·exact src_set (src_set (src_set (src_set (src_set (src_set HSE.out (by omega) _ _) (by omega) _ _) (by omega) _ _) (by omega) _ _) (by omega) _ _) (by omega) _ _
   ·exact set_new (set_new (set_new (set_new (set_new (set_new HGE.out (Nat.le_refl _) _ _) (Nat.le_refl _) _ _) (Nat.le_refl _) _ _) (Nat.le_refl _) _ _) (Nat.le_refl _) _ _) (Nat.le_refl _) _ _
end DrawR
namespace EvtR
structure Pt (g m:Nat) (w:World):Prop where
 lt:g<w.heap.size
 has:∀o,o<m→∃v,w.cell? ⟨g,o,none⟩=some v
 free:∀o,o<m→w.frozen? ⟨g,o,none⟩=false
theorem Pt.below {g m:Nat} {w w':World} (h:Pt g m w) (hb:Below w.heap.size w w'):Pt g m w' :=
 ⟨by have:=hb.size;have:=h.lt;omega,fun o ho=>by obtain ⟨v,hv⟩:=h.has o ho;exact ⟨v,(hb.cell (p:=⟨g,o,none⟩) h.lt).trans hv⟩,fun o ho=>(hb.frozen (p:=⟨g,o,none⟩) h.lt).trans (h.free o ho)⟩
theorem cell_put {g m:Nat} {w:World} (h:Pt g m w) (o:Nat) (ho:o<m) (v:Value):(w.setCell ⟨g,o,none⟩ v).cell? ⟨g,o,none⟩=some v:=by
 obtain ⟨u,hu⟩:=h.has o ho
 simp [go_sem,hu]
theorem cell_far {g:Nat} {w:World} (o o':Nat) (ho:o≠o') (v:Value):(w.setCell ⟨g,o,none⟩ v).cell? ⟨g,o',none⟩=w.cell? ⟨g,o',none⟩:=by
 simp [go_sem]
theorem Pt.set {g m:Nat} {w:World} (h:Pt g m w) (o:Nat) (v:Value):Pt g m (w.setCell ⟨g,o,none⟩ v):=by
 refine ⟨by simpa using h.lt,fun x hx=>?_,fun x hx=>?_⟩
 ·by_cases e:o=x
  ·subst e;exact ⟨v,cell_put h o hx v⟩
  ·obtain ⟨u,hu⟩:=h.has x hx
   exact ⟨u,(cell_far o x e v).trans hu⟩
 ·have:=h.free x hx
  simp [go_sem,this]
end EvtR
namespace RowG
open EvtR (Pt cell_put cell_far)
theorem H_ {p:Prop} (h:p):Hid p:=h
section
variable {α:Type} (k:Nat) (cells:α→List Value) (z:α)
def AtG (w:World) (b o:Nat) (x:α):Prop:=∀j,j<k→w.cell? ⟨b,o+j,none⟩=(cells x)[j]?
def Rws (ao:Option Addr) (xs:List α) (w:World):Prop:=xs.length=0∨∃b off,ao=some ⟨b,off,none⟩∧b<w.heap.size∧∀j,j<xs.length→AtG k cells w b (off+j*k) (xs.getD j z)
def cellAt (xs:List α) (o:Nat):Option Value:=(cells (xs.getD (o / k) z))[o % k]?
def Wr (f:Nat→Option Value) (j g:Nat) (w:World):Prop:=∀o,o<j→w.cell? ⟨g,o,none⟩=f o
end
section
variable {α:Type} {k:Nat} {cells:α→List Value} {z:α}
theorem AtG.below {w w':World} {b o:Nat} {x:α} (h:AtG k cells w b o x) (hl:b<w.heap.size) (hb:Below w.heap.size w w'):AtG k cells w' b o x :=
 fun j hj=>(hb.cell (p:=⟨b,o+j,none⟩) hl).trans (h j hj)
theorem Rws.below {ao:Option Addr} {xs:List α} {w w':World} (h:Rws k cells z ao xs w) (hb:Below w.heap.size w w'):Rws k cells z ao xs w':=by
 rcases h with h0|⟨b,off,rfl,hlt,hc⟩
 ·exact .inl h0
 ·exact .inr ⟨b,off,rfl,by have:=hb.size;omega,fun j hj=>(hc j hj).below hlt hb⟩
theorem Rws.grown {ao:Option Addr} {xs:List α} {w w':World} {row:Option Nat} (h:Rws k cells z ao xs w) (hg:w.grownBy w' row) (hne:xs.length=0∨∀b off,ao=some ⟨b,off,none⟩→some b≠row):Rws k cells z ao xs w':=by
 rcases h with h0|⟨b,off,rfl,hlt,hc⟩
 ·exact .inl h0
 ·rcases hne with h0|hne
  ·exact .inl h0
  have e:=hg.block b hlt (hne b off rfl)
  exact .inr ⟨b,off,rfl,by have:=hg.size;omega,fun j hj i hi=>(World.cell?_of_block (a:=⟨b,off+j*k+i,none⟩) e).trans (hc j hj i hi)⟩
theorem Rws.at {ao:Option Addr} {xs:List α} {w:World} (h:Rws k cells z ao xs w) (j:Nat) (hj:j<xs.length):∃b off,ao=some ⟨b,off,none⟩∧b<w.heap.size∧AtG k cells w b (off+j*k) (xs.getD j z):=by
 rcases h with h0|⟨b,off,rfl,hlt,hc⟩
 ·omega
 ·exact ⟨b,off,rfl,hlt,hc j hj⟩
theorem getD_mem (xs:List α) (j:Nat) (h:j<xs.length):xs.getD j z∈xs:=by
 have:xs.getD j z=xs[j]:=by simp [List.getD,h]
 rw [this];exact List.getElem_mem h
theorem take_more (xs:List α) (j:Nat) (h:j<xs.length):xs.take (j+1)=xs.take j ++ [xs.getD j z]:=by
 rw [List.take_add_one,List.getElem?_eq_getElem h]
 simp [List.getD,h]
theorem Wr.below {f:Nat→Option Value} {j g m:Nat} {w w':World} (h:Wr f j g w) (hp:Pt g m w) (hb:Below w.heap.size w w'):Wr f j g w' :=
 fun o ho=>(hb.cell (p:=⟨g,o,none⟩) hp.lt).trans (h o ho)
theorem Wr.more {f:Nat→Option Value} {j g m:Nat} {w:World} (h:Wr f j g w) (hp:Pt g m w) (hj:j<m) (v:Value) (hv:f j=some v):Wr f (j+1) g (w.setCell ⟨g,j,none⟩ v):=by
 intro o ho
 by_cases e:j=o
 ·subst e;rw [cell_put hp j hj v,hv]
 ·rw [cell_far j o e v];exact h o (by omega)
theorem Wr.at {xs:List α} {n g:Nat} {w:World} (h:Wr (cellAt k cells z xs) (n*k) g w) (i:Nat) (hi:i<n) (x:Nat) (hx:x<k):w.cell? ⟨g,i*k+x,none⟩=(cells (xs.getD i z))[x]?:=by
 have hlt:i*k+x<n*k:=by
  have:(i+1)*k≤n*k:=Nat.mul_le_mul_right _ hi
  rw [Nat.add_mul,Nat.one_mul] at this
  omega
 rw [h _ hlt]
 unfold cellAt
 rw [show i*k+x=x+k*i by rw [Nat.mul_comm];omega,Nat.add_mul_div_left _ _ (by omega),Nat.div_eq_of_lt hx,Nat.zero_add,Nat.add_mul_mod_self_left,Nat.mod_eq_of_lt hx]
theorem Wr.rws {xs:List α} {g:Nat} {w:World} (h:Wr (cellAt k cells z xs) (xs.length*k) g w) (hl:g<w.heap.size):Rws k cells z (some ⟨g,0,none⟩) xs w :=
 .inr ⟨g,0,rfl,hl,fun j hj i hi=>by rw [Nat.zero_add];exact h.at j hj i hi⟩
def cellsAll (cells:α→List Value) (xs:List α):List Value:=xs.flatMap cells
theorem cellsAll_app (xs:List α) (x:α):cellsAll cells (xs ++ [x])=cellsAll cells xs++cells x:=by simp [cellsAll]
theorem cellsAll_len (hk:∀x,(cells x).length=k) (xs:List α):(cellsAll cells xs).length=xs.length*k:=by
 induction xs with
 | nil=>simp [cellsAll]
 | cons x xs ih=>simp only [cellsAll,List.flatMap_cons,List.length_append,hk,List.length_cons] at *;rw [ih,Nat.add_mul];omega
theorem cellsAll_get (hk:∀x,(cells x).length=k) (xs:List α) (i x:Nat) (hi:i<xs.length) (hx:x<k):(cellsAll cells xs)[i*k+x]? = (cells (xs.getD i z))[x]?:=by
 induction xs generalizing i with
 | nil=>simp at hi
 | cons a xs ih =>
  simp only [cellsAll,List.flatMap_cons]
  cases i with
  | zero =>
   rw [Nat.zero_mul,Nat.zero_add,List.getElem?_append_left (by rw [hk];exact hx)]
   rfl
  | succ i =>
   rw [List.getElem?_append_right (by rw [hk,Nat.add_mul];omega),hk,show (i+1)*k+x-k=i*k+x by rw [Nat.add_mul];omega]
   simp only [List.length_cons] at hi
   exact ih i (by omega)
structure MadeG (k:Nat) (cells:α→List Value) (z:α) (base:Nat) (ao:Option Addr) (xs:List α) (w:World):Prop where
 rws:Rws k cells z ao xs w
 own:xs.length=0∨∃g,ao=some ⟨g,0,none⟩∧base≤g∧Pt g (xs.length*k) w
theorem made_nil (base:Nat) (ao:Option Addr) (w:World):MadeG k cells z base ao [] w:=⟨.inl rfl,.inl rfl⟩
theorem MadeG.below {base:Nat} {ao:Option Addr} {xs:List α} {w w':World} (h:MadeG k cells z base ao xs w) (hb:Below w.heap.size w w'):MadeG k cells z base ao xs w' :=
 ⟨h.rws.below hb,h.own.imp id (fun ⟨g,h1,h2,h3⟩=>⟨g,h1,h2,h3.below hb⟩)⟩
theorem MadeG.low {base base':Nat} {ao:Option Addr} {xs:List α} {w:World} (h:MadeG k cells z base ao xs w) (hb:base'≤base):MadeG k cells z base' ao xs w :=
 ⟨h.rws,h.own.imp id (fun ⟨g,h1,h2,h3⟩=>⟨g,h1,by omega,h3⟩)⟩
theorem own_made (hk:∀x,(cells x).length=k) {w:World} {base T:Nat} {v:Value} {xs:List α} (h:w.ownsRow base T k v xs.length (cellsAll cells xs)):∃ao cap,v=.slice ao xs.length cap∧MadeG k cells z base ao xs w:=by
 rcases h.2 with ⟨h0,h1⟩|⟨g,cap,cur,hv,hg,hh,hc,_,hz,hcur⟩
 ·obtain rfl:xs=[]:=List.length_eq_zero_iff.1 h1
  exact ⟨none,0,h0,made_nil _ _ _⟩
 ·have hm:xs.length*k≤cur.size:=by rw [hz];exact Nat.mul_le_mul_right _ hc
  have hl:=(h.lt g (by rw [hv];rfl)).2
  refine ⟨_,_,hv,.inr ⟨g,0,rfl,hl,fun j hj i hi=>?_⟩,.inr ⟨g,rfl,hg,hl,fun o ho=>?_,fun o ho=>?_⟩⟩
  ·rw [Nat.zero_add,←cellsAll_get hk xs j i hj hi,←hcur]
   have hlt:j*k+i<xs.length*k:=by
    have:(j+1)*k≤xs.length*k:=Nat.mul_le_mul_right _ hj
    rw [Nat.add_mul,Nat.one_mul] at this
    omega
   rw [List.getElem?_take,if_pos hlt]
   simp [World.cell?,hh]
  ·have:o<cur.size:=by omega
   refine ⟨cur[o],?_⟩
   simp [World.cell?,hh,this]
  ·simp [World.frozen?,hh]
end
theorem own_below {w w':World} {base e size n:Nat} {v:Value} {xs:List Value} (h:w.ownsRow base e size v n xs) (hb:Below w.heap.size w w'):w'.ownsRow base e size v n xs:=by
 refine h.kept (row:=none) ⟨hb.os,hb.tape,hb.output,hb.size,fun k hk _=>hb.block k hk⟩ ?_
 rcases hob:v.ownBlock with _|b
 ·exact .inl rfl
 ·exact .inr (by simp)
theorem grown_set (w:World) (b o:Nat) (v:Value):w.grownBy (w.setCell ⟨b,o,none⟩ v) (some b):=by
 refine ⟨rfl,rfl,rfl,by simp,fun k hk hne=>?_⟩
 simp only [World.setCell]
 rw [Array.getElem?_modify,if_neg (fun e=>hne (by rw [e]))]
theorem own_set {w:World} {base e size n:Nat} {v:Value} {xs:List Value} (h:w.ownsRow base e size v n xs) (g o:Nat) (u:Value) (hg:∀b,v.ownBlock=some b→b≠g):(w.setCell ⟨g,o,none⟩ u).ownsRow base e size v n xs:=by
 refine h.kept (grown_set w g o u) ?_
 rcases hob:v.ownBlock with _|b
 ·exact .inl rfl
 ·exact .inr (fun e=>hg b hob (by simpa using e))
end RowG
end Go.Proofs.YteejpnkmnmoebaaDoor
namespace Go.Proofs.YteejpnkmnmoebaaDoor
open Go.ChangeShapes Go.WideShapes Go.ChangeAt Go.RowKit
set_option linter.unusedVariables false
namespace CatR
def Blk (b:Nat) (cs:List Value) (w:World):Prop:=b<w.heap.size∧∀i,i<cs.length→w.cell? ⟨b,i,none⟩=cs[i]?
theorem Blk.below {b:Nat} {cs:List Value} {w w':World} (h:Blk b cs w) (hb:Below w.heap.size w w'):Blk b cs w' :=
 ⟨by have:=hb.size;have:=h.1;omega,fun i hi=>(hb.cell (p:=⟨b,i,none⟩) h.1).trans (h.2 i hi)⟩
theorem Blk.new (w:World) (cs:List Value) (T:TypeId):Blk w.heap.size cs (w.alloc (.cells cs.toArray T)) :=
 ⟨by simp,fun i hi=>by simp [go_sem]⟩
theorem Blk.alloc {b:Nat} {cs:List Value} {w:World} (h:Blk b cs w) (o:Obj):Blk b cs (w.alloc o):=h.below ((Below.refl _ _).alloc (Nat.le_refl _) _)
theorem Blk.drew {b:Nat} {cs:List Value} {w:World} (h:Blk b cs w):Blk b cs w.drew:=h
theorem Blk.drewN {b:Nat} {cs:List Value} {w:World} (h:Blk b cs w) (n:Nat):Blk b cs (w.drewN n):=h
end CatR
end Go.Proofs.YteejpnkmnmoebaaDoor
