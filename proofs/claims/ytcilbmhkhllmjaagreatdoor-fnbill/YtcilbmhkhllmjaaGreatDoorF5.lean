/-
  A right minute's month: both sides hand back the same; whether an hour lies in a month. The condition: the program's table stands in its variable.
  What the program calls a right window. The conditions: texts of at most 1048576 bytes, lists of at most 1048576; the program's table stands in its variable.
  What the program calls a window's right tags. The conditions: texts of at most 1048576 bytes, lists of at most 1048576.
  What the program calls a window's right hours. The conditions: lists of at most 1048576; the sum is one that may be; the program's table stands in its variable.
  A window as the program works with it, and what it calls right. The conditions: texts of at most 1048576 bytes, lists of at most 1048576; the program's table stands in its variable.
  Lists of one's own that grow by append. No condition.
  A window laid in new memory, the program's way. The conditions: texts of at most 1048576 bytes, at most 1048576 tags, 1 to 1048576 hours.
-/
import Derived.Laws.EntriesVeiled
import Derived.OwnWalk
import Derived.Lib.SliceRun
import Derived.Deep.CutRange
import Derived.Test.YtcilbmhkhllmjaaGreatDoorF4
namespace Go.Proofs.YtcilbmhkhllmjaaGreatDoor
open Go.ChangeShapes Go.WideShapes Go.ChangeAt Go.RowKit
set_option linter.unusedVariables false
namespace WinR
open DateM DateR
theorem impl_month_in (n y m d:Int) (h1:0≤n) (h2:n≤121000000) (hy1:1970≤y) (hy2:y≤2200) (hm1:1≤m) (hm2:m≤12) (w:World) (hL:Laid w)
 (hd:∀w,Laid w→Calls Tryz.prog 210 #[.int .i64 (n.tdiv 1440)] w fun e w'=>e=.returned (date y m d)∧Below w.heap.size w w') :
 Calls Tryz.prog 204 #[.int .i64 n] w fun e w'=>e=.returned (.int .i64 (12*(y-1970)+(m-1)))∧Below w.heap.size w w':=by
 have hb:0≤n.tdiv 1440∧n.tdiv 1440≤121000000:=by rw [Int.tdiv_eq_ediv_of_nonneg h1];omega
 obtain ⟨b1,b2⟩:=hb
 generalize hq:n.tdiv 1440=q at *
 have HD:=H_ hd
 have HL:=H_ hL
 clear hd hL
 unfold date at *
 go_enter Tryz.func204,Tryz.ntmps204
 go_wp2_with (first|(go_at_call 209;go_in)|(go_at_call 66;go_in)|(go_at_call 210;(try rw [hq]);refine (HD.out _ HL.out).mono ?_;rintro e w1 ⟨rfl,hb1⟩))
 go_ret
 exact ⟨ret_int (by omega),hb1.alloc hb1.size _⟩
theorem spec_month_in (n y m d:Int) (h1:0≤n) (h2:n≤121000000) (hy1:1970≤y) (hy2:y≤2200) (hm1:1≤m) (hm2:m≤12) (w:World)
 (hd:∀w,Calls Tryz.prog 139 #[.int .i64 (n.tdiv 1440)] w fun e w'=>e=.returned (date y m d)∧Below w.heap.size w w') :
 Calls Tryz.prog 114 #[.int .i64 n] w fun e w'=>e=.returned (.int .i64 (12*(y-1970)+(m-1)))∧Below w.heap.size w w':=by
 have hb:0≤n.tdiv 1440∧n.tdiv 1440≤121000000:=by rw [Int.tdiv_eq_ediv_of_nonneg h1];omega
 obtain ⟨b1,b2⟩:=hb
 generalize hq:n.tdiv 1440=q at *
 have HD:=H_ hd
 clear hd
 unfold date at *
 go_enter Tryz.func114,Tryz.ntmps114
 go_wp2_with (first|(go_at_call 139;(try rw [hq]);refine (HD.out _).mono ?_;rintro e w1 ⟨rfl,hb1⟩))
 go_ret
 exact ⟨ret_int (by omega),hb1.alloc hb1.size _⟩
theorem month_two (n:Int) (h1:0≤n) (h2:n≤121000000):∃k:Nat,k≤2771∧fd k≤n / 1440∧n / 1440<fd (k+1)∧(∀w,Laid w→Calls Tryz.prog 204 #[.int .i64 n] w fun e w'=>e=.returned (.int .i64 (k:Int))∧Below w.heap.size w w')∧(∀w,Calls Tryz.prog 114 #[.int .i64 n] w fun e w'=>e=.returned (.int .i64 (k:Int))∧Below w.heap.size w w'):=by
 obtain ⟨y,m,d,hd,hi,hs⟩:=dateof_both (n.tdiv 1440)
 have e:n.tdiv 1440=n / 1440:=Int.tdiv_eq_ediv_of_nonneg h1
 have:=ys_231
 rcases hd with ⟨_,_,hr,hn⟩|⟨hx,_⟩
 ·obtain ⟨k,k1,k2,k3,k4⟩:=num_fd y m d hr
  obtain ⟨y1,y2,m1,m2,_,_⟩:=(right_iff y m d).1 hr
  exact ⟨k,k1,by omega,by omega,fun w hL=>by rw [←k2];exact impl_month_in n y m d h1 h2 y1 y2 m1 m2 w hL hi,fun w=>by rw [←k2];exact spec_month_in n y m d h1 h2 y1 y2 m1 m2 w hs⟩
 ·omega
theorem impl_hour_of (h mo:Int) (w:World) (hL:Laid w) :
 Calls Tryz.prog 191 #[.int .i64 h,.int .i64 mo] w fun e w'=>e=.returned (.bool (hourIn h mo))∧Below w.heap.size w w':=by
 rcases (show (¬0≤h)∨(0≤h∧¬h≤2016666)∨(0≤h∧h≤2016666) by omega) with q|⟨q,q2⟩|⟨q,q2⟩
 ·rw [hour_far (fun x=>q x.1)]
  clear hL
  go_enter Tryz.func191,Tryz.ntmps191
  go_wp2_with (go_at_call 66;go_in)
  go_ret
  exact ⟨rfl,Below.refl _ _⟩
 ·rw [hour_far (fun x=>q2 x.2)]
  clear hL
  go_enter Tryz.func191,Tryz.ntmps191
  go_wp2_with (go_at_call 66;go_in)
  go_ret
  exact ⟨rfl,Below.refl _ _⟩
 ·obtain ⟨k,k1,f1,f2,hi,hs⟩:=month_two (60*h) (by omega) (by omega)
  rw [hour_month q q2 k rfl f1 f2]
  have HI:=H_ (hi w hL)
  clear hL hi hs f1 f2
  have hm:h*60=60*h:=by omega
  generalize hq:60*h=n at *
  by_cases he:(k:Int)=mo
  ·subst he
   rw [decide_eq_true rfl]
   go_enter Tryz.func191,Tryz.ntmps191
   go_wp2_with (first|(go_at_call 66;go_in)|(go_at_call 204;(try rw [hm]);refine HI.out.mono ?_;rintro e w1 ⟨rfl,hb1⟩))
   go_ret
   exact ⟨rfl,hb1⟩
  ·rw [decide_eq_false he]
   have he2:((k:Int)==mo)=false:=by simpa using he
   go_enter Tryz.func191,Tryz.ntmps191
   go_wp2_with (first|(go_at_call 66;go_in)|(go_at_call 204;(try rw [hm]);refine HI.out.mono ?_;rintro e w1 ⟨rfl,hb1⟩))
   go_ret
   exact ⟨ret_bool (by first|rfl|simpa using he),hb1⟩
end WinR
namespace WinR
open RowG LtR
open CatR (Blk Blk.new)
open DateR (Laid)
theorem withinI (n low high:Int) (w:World) :
 Calls Tryz.prog 182 #[.int .i64 n,.int .i64 low,.int .i64 high] w fun e w'=>e=.returned (.bool (decide (low≤n∧n≤high)))∧w'=w:=by
 rcases (show (¬low≤n)∨(low≤n∧¬n≤high)∨(low≤n∧n≤high) by omega) with h|⟨h1,h2⟩|⟨h1,h2⟩
 all_goals
  go_enter Tryz.func182,Tryz.ntmps182
  go_wp2
  go_ret
  exact ⟨ret_bool (by first|(simp [*];done)|(simp;omega)),rfl⟩
theorem three (b1 b2 b3:Bool):(b1=false)∨(b1=true∧b2=false)∨(b1=true∧b2=true∧b3=false)∨(b1=true∧b2=true∧b3=true):=by
 cases b1<;>cases b2<;>cases b3<;>simp
theorem four (b1 b2 b3 b4:Bool):(b1=false)∨(b1=true∧b2=false)∨(b1=true∧b2=true∧b3=false)∨(b1=true∧b2=true∧b3=true∧b4=false)∨(b1=true∧b2=true∧b3=true∧b4=true):=by
 cases b1<;>cases b2<;>cases b3<;>cases b4<;>simp
theorem isMonth_any (n:Int) (w:World):Calls Tryz.prog 187 #[.int .i64 n] w fun e w'=>e=.returned (.bool (decide (0≤n∧n≤2760)))∧w'=w:=by
 have H:=EvtR.within_any n 0 2760
 generalize decide (0≤n∧n≤2760)=b at *
 go_enter Tryz.func187,Tryz.ntmps187
 go_wp2_with (go_at_call 66;refine (H _).mono ?_;rintro e w' ⟨rfl,rfl⟩)
 go_ret
 exact ⟨rfl,rfl⟩
set_option maxHeartbeats 4000000 in
theorem impl_named (a m:ByteArray) (mo:Int) (w:World) (ha:a.size≤1048576) (hm:m.size≤1048576) :
 Calls Tryz.prog 147 #[.agg #[.string a,.string m,.int .i64 mo]] w fun e w'=>e=.returned (.bool (namedB a m mo))∧Below w.heap.size w w':=by
 unfold namedB
 have H1:=H_ (fun w=>NameR.impl_any a w ha)
 have H2:=H_ (fun w=>NameR.impl_any m w hm)
 have H3:=H_ (fun w=>isMonth_any mo w)
 have HB:Hid (Below w.heap.size w (w.alloc (.cells #[.string a,.string m,.int .i64 mo] 174))):=H_ ((Below.refl _ _).alloc (Nat.le_refl _) _)
 have HX:Hid (∀W,W=w.alloc (.cells #[.string a,.string m,.int .i64 mo] 174)→W.cell? ⟨w.heap.size,0,none⟩=some (.string a)∧W.cell? ⟨w.heap.size,1,none⟩=some (.string m)∧W.cell? ⟨w.heap.size,2,none⟩=some (.int .i64 mo)):=H_ (fun W h=>by subst h;simp [go_sem])
 generalize NameR.nameB a=b1 at *
 generalize NameR.nameB m=b2 at *
 generalize decide (0≤mo∧mo≤2760)=b3 at *
 rcases three b1 b2 b3 with rfl|⟨rfl,rfl⟩|⟨rfl,rfl,rfl⟩|⟨rfl,rfl,rfl⟩
 ·go_enter Tryz.func147,Tryz.ntmps147
  go_wp2_with fail
  refine (H1.out _).mono ?_
  rintro e w1 ⟨rfl,rfl⟩
  go_wp2_with fail
  go_ret
  exact ⟨rfl,HB.out⟩
 ·go_enter Tryz.func147,Tryz.ntmps147
  go_wp2_with fail
  refine (H1.out _).mono ?_
  rintro e w1 ⟨rfl,rfl⟩
  go_wp2_with fail
  refine (H2.out _).mono ?_
  rintro e w1 ⟨rfl,rfl⟩
  go_wp2_with fail
  go_ret
  exact ⟨rfl,HB.out⟩
 ·go_enter Tryz.func147,Tryz.ntmps147
  go_wp2_with fail
  refine (H1.out _).mono ?_
  rintro e w1 ⟨rfl,rfl⟩
  go_wp2_with fail
  refine (H2.out _).mono ?_
  rintro e w1 ⟨rfl,rfl⟩
  go_wp2_with fail
  refine (H3.out _).mono ?_
  rintro e w1 ⟨rfl,rfl⟩
  go_wp2_with fail
  go_ret
  exact ⟨rfl,HB.out⟩
 ·go_enter Tryz.func147,Tryz.ntmps147
  go_wp2_with fail
  refine (H1.out _).mono ?_
  rintro e w1 ⟨rfl,rfl⟩
  go_wp2_with fail
  refine (H2.out _).mono ?_
  rintro e w1 ⟨rfl,rfl⟩
  go_wp2_with fail
  refine (H3.out _).mono ?_
  rintro e w1 ⟨rfl,rfl⟩
  go_wp2_with fail
  go_ret
  exact ⟨rfl,HB.out⟩
set_option maxHeartbeats 4000000 in
theorem impl_counted (ev su mx:Int) (w:World) :
 Calls Tryz.prog 148 #[.agg #[.int .i64 ev,.int .i64 su,.int .i64 mx]] w fun e w'=>e=.returned (.bool (countedB ev su mx))∧Below w.heap.size w w':=by
 unfold countedB
 have H1:=H_ (fun w=>EvtR.within_any ev 1 1000 w)
 have H2:=H_ (fun w=>EvtR.within_any su 0 1000000000000 w)
 have H3:=H_ (fun w=>EvtR.within_any mx 0 su w)
 have HB:Hid (Below w.heap.size w (w.alloc (.cells #[.int .i64 ev,.int .i64 su,.int .i64 mx] 176))):=H_ ((Below.refl _ _).alloc (Nat.le_refl _) _)
 generalize decide (1≤ev∧ev≤1000)=b1 at *
 generalize decide (0≤su∧su≤1000000000000)=b2 at *
 generalize decide (0≤mx∧mx≤su)=b3 at *
 rcases three b1 b2 b3 with rfl|⟨rfl,rfl⟩|⟨rfl,rfl,rfl⟩|⟨rfl,rfl,rfl⟩
 ·go_enter Tryz.func148,Tryz.ntmps148
  go_wp2_with fail
  refine (H1.out _).mono ?_
  rintro e w1 ⟨rfl,rfl⟩
  go_wp2_with fail
  go_ret
  exact ⟨rfl,HB.out⟩
 ·go_enter Tryz.func148,Tryz.ntmps148
  go_wp2_with fail
  refine (H1.out _).mono ?_
  rintro e w1 ⟨rfl,rfl⟩
  go_wp2_with fail
  refine (H2.out _).mono ?_
  rintro e w1 ⟨rfl,rfl⟩
  go_wp2_with fail
  go_ret
  exact ⟨rfl,HB.out⟩
 ·go_enter Tryz.func148,Tryz.ntmps148
  go_wp2_with fail
  refine (H1.out _).mono ?_
  rintro e w1 ⟨rfl,rfl⟩
  go_wp2_with fail
  refine (H2.out _).mono ?_
  rintro e w1 ⟨rfl,rfl⟩
  go_wp2_with fail
  refine (H3.out _).mono ?_
  rintro e w1 ⟨rfl,rfl⟩
  go_wp2_with fail
  go_ret
  exact ⟨rfl,HB.out⟩
 ·go_enter Tryz.func148,Tryz.ntmps148
  go_wp2_with fail
  refine (H1.out _).mono ?_
  rintro e w1 ⟨rfl,rfl⟩
  go_wp2_with fail
  refine (H2.out _).mono ?_
  rintro e w1 ⟨rfl,rfl⟩
  go_wp2_with fail
  refine (H3.out _).mono ?_
  rintro e w1 ⟨rfl,rfl⟩
  go_wp2_with fail
  go_ret
  exact ⟨rfl,HB.out⟩
end WinR
namespace WinR
open RowG LtR
open CatR (Blk Blk.new)
open DateR (Laid)
set_option maxRecDepth 100000 in
set_option maxHeartbeats 4000000 in
theorem impl_tagged (a m:ByteArray) (mo ev su mx:Int) (ts:List ByteArray) (ta:Option Addr) (tc:Nat) (hv:Value) (w:World) (hlen:ts.length≤1048576) (hS:∀t∈ts,t.size≤1048576) (hI:Tgs ta ts w) :
 Calls Tryz.prog 149 #[.agg #[.string a,.string m,.int .i64 mo,.int .i64 ev,.int .i64 su,.int .i64 mx,.slice ta ts.length tc,.func (.func 183) #[] #[],.func (.func 184) #[] #[],hv,.func (.func 185) #[] #[],.func (.func 186) #[] #[]]] w fun e w'=>e=.returned (.bool (tagsB ts))∧Below w.heap.size w w':=by
 have HI:=H_ hI
 have HS:=H_ hS
 have HLO:=H_ (tags_long (ts:=ts))
 have HRI:=H_ (tags_rise (ts:=ts))
 have HEN:=H_ (tags_end (ts:=ts))
 have HC:=H_ (fun W (hW:Below w.heap.size w W)=>tags_rises ta tc ts W hlen (hI.below hW))
 generalize tagsB ts=R at *
 generalize riseB lt tz ts=r at *
 obtain ⟨len,hl⟩:∃len,len=ts.length:=⟨_,rfl⟩
 rw [←hl] at hlen HLO HEN HC ⊢
 have HL:=H_ hl
 clear hI hl hS
 have HB0:Hid (Below w.heap.size w (w.alloc (.cells #[.string a,.string m,.int .i64 mo,.int .i64 ev,.int .i64 su,.int .i64 mx,.slice ta len tc,.func (.func 183) #[] #[],.func (.func 184) #[] #[],hv,.func (.func 185) #[] #[],.func (.func 186) #[] #[]] 185))):=H_ ((Below.refl _ _).alloc (Nat.le_refl _) _)
 have HX0:=H_ (Blk.new w [.string a,.string m,.int .i64 mo,.int .i64 ev,.int .i64 su,.int .i64 mx,.slice ta len tc,.func (.func 183) #[] #[],.func (.func 184) #[] #[],hv,.func (.func 185) #[] #[],.func (.func 186) #[] #[]] 185)
 by_cases h12:12<len
 ·have h12':(12:Int)<(len:Int):=by omega
  have HF:=H_ (HLO.out h12)
  clear HX0 HC HRI HEN HLO
  go_enter Tryz.func149,Tryz.ntmps149
  go_wp2_with fail
  go_ret
  exact ⟨ret_bool HF.out.symm,HB0.out⟩
 ·have h12':¬(12:Int)<(len:Int):=by omega
  cases r
  ·have HF:=H_ (HRI.out rfl)
   clear HX0 HRI HEN HLO
   go_enter Tryz.func149,Tryz.ntmps149
   go_wp2_with fail
   refine (HC.out _ HB0.out).mono ?_
   rintro e w1 ⟨rfl,hb1⟩
   have HB1:=H_ (HB0.out.trans (hb1.mono HB0.out.size))
   clear hb1
   go_wp2_with fail
   go_ret
   exact ⟨ret_bool HF.out.symm,HB1.out⟩
  ·have HE:=H_ (HEN.out (by omega) rfl)
   clear HRI HEN HLO
   go_enter Tryz.func149,Tryz.ntmps149
   go_wp2_with fail
   refine (HC.out _ HB0.out).mono ?_
   rintro e w1 ⟨rfl,hb1⟩
   have HB1:=H_ (HB0.out.trans (hb1.mono HB0.out.size))
   have HX1:=H_ (HX0.out.below hb1)
   clear hb1 HB0 HX0
   obtain ⟨xl,xc⟩:=HX1.out
   have x6:w1.cell? ⟨w.heap.size,6,none⟩=some (.slice ta len tc):=xc 6 (by simp)
   clear xc
   go_wp2_with fail
   go_loopw [20] (fun z wr=>∃k:Nat,k≤len∧z=.int .i64 k∧Hid ((ts.take k).all tagOk=true)∧Hid (Below w.heap.size w wr)) (fun z _=>len-(intOf z).toNat)
   case atStart=>exact ⟨0,by omega,rfl,H_ (by simp),HB1⟩
   case round =>
    obtain ⟨k,hk,rfl,HK,HB⟩:=hrel
    by_cases hlt:k<len
    ·have hlt2:(k:Int)<(len:Int):=by omega
     have hkl:k<ts.length:=by have:=HL.out;omega
     obtain ⟨b,off,rfl,hbl,c0⟩:=(HI.out.below HB.out).at k hkl
     have hsz:=HS.out _ (getD_mem (z:=tz) ts k hkl)
     have HT:=H_ (fun w=>EvtR.impl_tag (ts.getD k tz) w hsz)
     have HNO:=H_ (fun h=>all_no (z:=tz) (xs:=ts) tagOk hkl h)
     have HGO:Hid (tagOk (ts.getD k tz)=true→(ts.take (k+1)).all tagOk=true):=H_ (fun h=>by rw [all_take (z:=tz) _ k hkl,HK.out,h];rfl)
     have HTO:Hid (tagOk (ts.getD k tz)=(decide (1≤(ts.getD k tz).size)&&EvtR.tagB (ts.getD k tz))):=rfl
     generalize tagOk (ts.getD k tz)=q at *
     generalize ts.getD k tz=X at *
     by_cases hi:X.size=0
     ·have he:=EvtR.empty_of X hi
      have HF:Hid (R=false):=H_ (by rw [HE.out];exact HNO.out (by rw [HTO.out,decide_eq_false (by omega),Bool.false_and]))
      go_wp2_with fail
      go_ret
      exact ⟨ret_bool HF.out.symm,HB.out⟩
     ·obtain ⟨he,he2⟩:=EvtR.full_of X hi
      have HTO2:Hid (q=EvtR.tagB X):=H_ (by rw [HTO.out,decide_eq_true (by omega),Bool.true_and])
      generalize EvtR.tagB X=g at *
      cases g
      ·have HF:Hid (R=false):=H_ (by rw [HE.out];exact HNO.out HTO2.out)
       go_wp2_with fail
       refine (HT.out _).mono ?_
       rintro e w2 ⟨rfl,hb2⟩
       have HB2:=H_ (HB.out.trans (hb2.mono HB.out.size))
       clear hb2 c0
       go_wp2_with fail
       go_ret
       exact ⟨ret_bool HF.out.symm,HB2.out⟩
      ·have HG:=H_ (HGO.out HTO2.out)
       go_wp2_with fail
       refine (HT.out _).mono ?_
       rintro e w2 ⟨rfl,hb2⟩
       have HB2:=H_ (HB.out.trans (hb2.mono HB.out.size))
       clear hb2 c0
       go_wp2_with fail
       go_roundw
       case rel=>exact ⟨k+1,by omega,by go_num,HG,HB2⟩
       case measure=>simp [intOf];omega
    ·have hlt2:¬(k:Int)<(len:Int):=by omega
     obtain rfl:k=len:=by omega
     have HF:Hid (R=true):=H_ (by
      rw [HE.out]
      have h:=HK.out
      rwa [List.take_of_length_le (by have:=HL.out;omega)] at h)
     go_wp2_with fail
     go_ret
     exact ⟨ret_bool HF.out.symm,HB.out⟩
end WinR
namespace WinR
open RowG LtR
open CatR (Blk Blk.new)
open DateR (Laid)
theorem timed_few {hs:List H} {mo su:Int} (h:¬(1≤hs.length∧hs.length≤12)):timedB hs mo su=false:=by unfold timedB;rw [decide_eq_false h,Bool.false_and]
theorem timed_in {hs:List H} {mo su:Int} (h:1≤hs.length∧hs.length≤12):timedB hs mo su=hoursB hs mo su:=by unfold timedB;rw [decide_eq_true h,Bool.true_and]
set_option maxRecDepth 100000 in
set_option maxHeartbeats 8000000 in
theorem impl_timed (a m:ByteArray) (mo ev su mx:Int) (hs:List H) (tv:Value) (ha:Option Addr) (hc:Nat) (w:World) (hlen:hs.length≤1048576) (hsu:0≤su∧su≤1000000000000) (hL:Laid w) (hI:Hrs ha hs w) :
 Calls Tryz.prog 150 #[.agg #[.string a,.string m,.int .i64 mo,.int .i64 ev,.int .i64 su,.int .i64 mx,tv,.func (.func 183) #[] #[],.func (.func 184) #[] #[],.slice ha hs.length hc,.func (.func 185) #[] #[],.func (.func 186) #[] #[]]] w fun e w'=>e=.returned (.bool (timedB hs mo su))∧Below w.heap.size w w':=by
 have HI:=H_ hI
 have HLA:=H_ hL
 have HFEW:=H_ (timed_few (hs:=hs) (mo:=mo) (su:=su))
 have HIN:=H_ (timed_in (hs:=hs) (mo:=mo) (su:=su))
 have HRI:=H_ (hours_rise (hs:=hs) (mo:=mo) (su:=su))
 have HEN:=H_ (hours_end (hs:=hs) (mo:=mo) (su:=su))
 have HNO:=H_ (fun k=>hours_no (hs:=hs) (mo:=mo) (su:=su) (k:=k))
 have HC:=H_ (fun W (hW:Below w.heap.size w W)=>hours_rises ha hc hs W hlen (hI.below hW))
 have HWI:=H_ (fun w=>withinI hs.length 1 12 w)
 generalize timedB hs mo su=R at *
 generalize hoursB hs mo su=Q at *
 generalize riseB hlt H.zero hs=r at *
 obtain ⟨len,hl⟩:∃len,len=hs.length:=⟨_,rfl⟩
 rw [←hl] at hlen HFEW HIN HC HWI ⊢
 have HL:=H_ hl
 obtain ⟨hs0,hs1⟩:=hsu
 clear hI hl hL
 have HB0:Hid (Below w.heap.size w (w.alloc (.cells #[.string a,.string m,.int .i64 mo,.int .i64 ev,.int .i64 su,.int .i64 mx,tv,.func (.func 183) #[] #[],.func (.func 184) #[] #[],.slice ha len hc,.func (.func 185) #[] #[],.func (.func 186) #[] #[]] 185))):=H_ ((Below.refl _ _).alloc (Nat.le_refl _) _)
 have HX0:=H_ (Blk.new w [.string a,.string m,.int .i64 mo,.int .i64 ev,.int .i64 su,.int .i64 mx,tv,.func (.func 183) #[] #[],.func (.func 184) #[] #[],.slice ha len hc,.func (.func 185) #[] #[],.func (.func 186) #[] #[]] 185)
 by_cases h12:1≤len∧len≤12
 ·rw [decide_eq_true (show (1:Int)≤(len:Int)∧(len:Int)≤12 by omega)] at HWI
  have HRQ:=H_ (HIN.out h12)
  cases r
  ·have HF:Hid (R=false):=H_ (by rw [HRQ.out];exact HRI.out rfl)
   clear HX0 HRI HEN HNO HFEW HIN
   go_enter Tryz.func150,Tryz.ntmps150
   go_wp2_with fail
   refine (HWI.out _).mono ?_
   rintro e w1 ⟨rfl,rfl⟩
   go_wp2_with fail
   refine (HC.out _ HB0.out).mono ?_
   rintro e w2 ⟨rfl,hb1⟩
   have HB1:=H_ (HB0.out.trans (hb1.mono HB0.out.size))
   clear hb1
   go_wp2_with fail
   go_ret
   exact ⟨ret_bool HF.out.symm,HB1.out⟩
  ·have HE:=H_ (HEN.out rfl)
   clear HRI HEN HFEW HIN
   go_enter Tryz.func150,Tryz.ntmps150
   go_wp2_with fail
   refine (HWI.out _).mono ?_
   rintro e w1 ⟨rfl,rfl⟩
   go_wp2_with fail
   refine (HC.out _ HB0.out).mono ?_
   rintro e w2 ⟨rfl,hb1⟩
   have HB1:=H_ (HB0.out.trans (hb1.mono HB0.out.size))
   have HX1:=H_ (HX0.out.below hb1)
   clear hb1 HB0 HX0
   obtain ⟨xl,xc⟩:=HX1.out
   have x2:w2.cell? ⟨w.heap.size,2,none⟩=some (.int .i64 mo):=xc 2 (by simp)
   have x4:w2.cell? ⟨w.heap.size,4,none⟩=some (.int .i64 su):=xc 4 (by simp)
   have x9:w2.cell? ⟨w.heap.size,9,none⟩=some (.slice ha len hc):=xc 9 (by simp)
   clear xc
   go_wp2_with fail
   go_loopw [3,25] (fun y z wr=>∃k:Nat,k≤len∧y=.int .i64 (su-hsum (hs.take k))∧z=.int .i64 k∧Hid (HUp hs mo su k)∧Hid (Below w.heap.size w wr)∧Hid (w.heap.size<wr.heap.size∧wr.cell? ⟨w.heap.size,2,none⟩=some (.int .i64 mo))) (fun y z _=>len-(intOf z).toNat)
   case atStart=>exact ⟨0,by omega,by simp [hsum],rfl,H_ (HUp.zero _ _ _),HB1,H_ ⟨xl,x2⟩⟩
   case round =>
    obtain ⟨k,hk,rfl,rfl,HK,HB,HX⟩:=hrel
    clear x2 x4 x9 xl
    obtain ⟨xl,x2⟩:=HX.out
    by_cases hlt1:k<len
    ·have hlt2:(k:Int)<(len:Int):=by omega
     have hkl:k<hs.length:=by have:=HL.out;omega
     obtain ⟨b,off,rfl,hbl,c0,c1⟩:=(HI.out.below HB.out).at k hkl
     have HN:=H_ (HNO.out k hkl)
     have HM:=H_ (fun h1 h2 h3=>HK.out.more h1 h2 h3)
     have HST:=H_ (hsum_take hs k hkl)
     have HSN:=H_ (HK.out.nn (by omega))
     have HHO:=H_ (fun W hW=>impl_hour_of (hs.getD k H.zero).h mo W hW)
     have HWS:=H_ (fun w=>EvtR.within_any (hs.getD k H.zero).s 0 (su-hsum (hs.take k)) w)
     have hq0:0≤su-hsum (hs.take k)∨su-hsum (hs.take k)<0:=by omega
     have hq1:su-hsum (hs.take k)≤1000000000000:=by have:=HSN.out;omega
     generalize hourIn (hs.getD k H.zero).h mo=g at *
     generalize hs.getD k H.zero=X at *
     obtain ⟨xh,xs⟩:=X
     dsimp only at c0 c1 HHO HWS HM HN HST
     generalize hT:hsum (hs.take k)=T at *
     have HLA2:=H_ ((HLA.out.below HB.out).below ((Below.refl wr.heap.size wr).alloc (Nat.le_refl _) (Obj.cells #[.int .i64 xh,.int .i64 xs] 149)))
     have HBX:=H_ (HB.out.alloc HB.out.size (Obj.cells #[.int .i64 xh,.int .i64 xs] 149))
     have HZ:=H_ (Blk.new wr [.int .i64 xh,.int .i64 xs] 149)
     cases g
     ·have HF:Hid (R=false):=H_ (by rw [HRQ.out];exact HN.out (fun h=>by cases h.1))
      go_wp2_with fail
      refine (HHO.out _ HLA2.out).mono ?_
      rintro e w3 ⟨rfl,hb3⟩
      have HB3:=H_ (HBX.out.trans (hb3.mono HBX.out.size))
      clear hb3
      go_wp2_with fail
      go_ret
      exact ⟨ret_bool HF.out.symm,HB3.out⟩
     ·go_wp2_with fail
      refine (HHO.out _ HLA2.out).mono ?_
      rintro e w3 ⟨rfl,hb3⟩
      have HB3:=H_ (HBX.out.trans (hb3.mono HBX.out.size))
      have HZ3:=H_ (HZ.out.below hb3)
      have HX3:Hid (w.heap.size<w3.heap.size∧w3.cell? ⟨w.heap.size,2,none⟩=some (.int .i64 mo)):=H_ (by
       have hc:=hb3.cell (p:=⟨w.heap.size,2,none⟩) (by simp;omega)
       have:=hb3.size
       simp at this
       exact ⟨by omega,(hc.trans (((Below.refl wr.heap.size wr).alloc (Nat.le_refl _) _).cell (p:=⟨w.heap.size,2,none⟩) xl)).trans x2⟩)
      clear hb3 HZ HBX
      obtain ⟨zl,zc⟩:=HZ3.out
      have z1:w3.cell? ⟨wr.heap.size,1,none⟩=some (.int .i64 xs):=zc 1 (by simp)
      clear zc c0 c1 x2
      by_cases hin:0≤xs∧xs≤su-T
      ·rw [decide_eq_true hin] at HWS
       have HM2:=H_ (HM.out (by first|rfl|trivial) hin.1 hin.2)
       obtain ⟨hin1,hin2⟩:=hin
       go_wp2_with fail
       refine (HWS.out _).mono ?_
       rintro e w4 ⟨rfl,rfl⟩
       go_wp2_with fail
       go_roundw
       case rel=>exact ⟨k+1,by omega,by rw [HST.out];congr 1;omega,by go_num,HM2,HB3,HX3⟩
       case measure=>simp [intOf];omega
      ·rw [decide_eq_false hin] at HWS
       have HF:Hid (R=false):=H_ (by rw [HRQ.out];exact HN.out (fun h=>hin h.2))
       go_wp2_with fail
       refine (HWS.out _).mono ?_
       rintro e w4 ⟨rfl,rfl⟩
       go_wp2_with fail
       go_ret
       exact ⟨ret_bool HF.out.symm,HB3.out⟩
    ·have hlt2:¬(k:Int)<(len:Int):=by omega
     obtain rfl:k=len:=by omega
     have HF:Hid (R=decide (su-hsum (hs.take k)=0)):=H_ (by
      rw [HRQ.out,HE.out (by rw [←HL.out];exact HK.out),List.take_of_length_le (by have:=HL.out;omega)])
     generalize hsum (hs.take k)=T at *
     by_cases hz:su-T=0
     ·rw [decide_eq_true hz] at HF
      go_wp2_with fail
      go_ret
      exact ⟨ret_bool (by rw [HF.out];try simp [hz]),HB.out⟩
     ·rw [decide_eq_false hz] at HF
      go_wp2_with fail
      go_ret
      exact ⟨ret_bool (by rw [HF.out];try simp [hz]),HB.out⟩
 ·rw [decide_eq_false (show ¬((1:Int)≤(len:Int)∧(len:Int)≤12) by omega)] at HWI
  have HF:=H_ (HFEW.out h12)
  clear HX0 HC HRI HEN HNO HFEW HIN
  go_enter Tryz.func150,Tryz.ntmps150
  go_wp2_with fail
  refine (HWI.out _).mono ?_
  rintro e w1 ⟨rfl,rfl⟩
  go_wp2_with fail
  go_ret
  exact ⟨ret_bool HF.out.symm,HB0.out⟩
end WinR
namespace WinR
open RowG LtR
open CatR (Blk Blk.new)
open DateR (Laid)
open EvtR (Pt)
theorem impl_rtags (ta:Option Addr) (tl tc:Nat) (w:World) :
 Calls Tryz.prog 145 #[.slice ta tl tc] w fun e w'=>e=.returned (.agg #[.slice ta tl tc,.func (.func 183) #[] #[],.func (.func 184) #[] #[]])∧Below w.heap.size w w':=by
 go_enter Tryz.func145,Tryz.ntmps145
 go_wp2_with fail
 refine bodyPost_ret (v:=.agg #[.slice ta tl tc,.func (.func 183) #[] #[],.func (.func 184) #[] #[]]) (by simp [results,Tryz.results145,go_sem]) rfl ⟨rfl,?_⟩
 repeat' first|exact Below.refl _ _|apply Below.setCell|apply Below.alloc
 all_goals first|omega|(simp;done)|(simp;omega)
theorem impl_rhours (ta:Option Addr) (tl tc:Nat) (w:World) :
 Calls Tryz.prog 146 #[.slice ta tl tc] w fun e w'=>e=.returned (.agg #[.slice ta tl tc,.func (.func 185) #[] #[],.func (.func 186) #[] #[]])∧Below w.heap.size w w':=by
 go_enter Tryz.func146,Tryz.ntmps146
 go_wp2_with fail
 refine bodyPost_ret (v:=.agg #[.slice ta tl tc,.func (.func 185) #[] #[],.func (.func 186) #[] #[]]) (by simp [results,Tryz.results146,go_sem]) rfl ⟨rfl,?_⟩
 repeat' first|exact Below.refl _ _|apply Below.setCell|apply Below.alloc
 all_goals first|omega|(simp;done)|(simp;omega)
def UBx (w:World) (a m:ByteArray) (mo ev su mx:Int) (ta:Option Addr) (tl tc:Nat) (ha:Option Addr) (hl hc:Nat) (W:World):Prop:=Below w.heap.size w W∧w.heap.size+1<W.heap.size∧W.cell? ⟨w.heap.size,0,none⟩=some (.string a)∧W.cell? ⟨w.heap.size,1,none⟩=some (.string m)∧W.cell? ⟨w.heap.size,2,none⟩=some (.int .i64 mo)∧W.cell? ⟨w.heap.size,3,none⟩=some (.int .i64 ev)∧W.cell? ⟨w.heap.size,4,none⟩=some (.int .i64 su)∧W.cell? ⟨w.heap.size,5,none⟩=some (.int .i64 mx)∧W.cell? ⟨w.heap.size,6,none⟩=some (.slice ta tl tc)∧W.cell? ⟨w.heap.size,7,none⟩=some (.slice ha hl hc)∧Pt (w.heap.size+1) 12 W
theorem UBx.below {w:World} {a m:ByteArray} {mo ev su mx:Int} {ta:Option Addr} {tl tc:Nat} {ha:Option Addr} {hl hc:Nat} {W W':World} (h:UBx w a m mo ev su mx ta tl tc ha hl hc W) (hb:Below W.heap.size W W'):UBx w a m mo ev su mx ta tl tc ha hl hc W':=by
 obtain ⟨h0,h1,c0,c1,c2,c3,c4,c5,c6,c7,hp⟩:=h
 have c:=fun o=>hb.cell (p:=⟨w.heap.size,o,none⟩) (Nat.lt_trans (Nat.lt_succ_self _) h1)
 have:=hb.size
 exact ⟨h0.trans (hb.mono h0.size),by omega,(c 0).trans c0,(c 1).trans c1,(c 2).trans c2,(c 3).trans c3,(c 4).trans c4,(c 5).trans c5,(c 6).trans c6,(c 7).trans c7,hp.below hb⟩
theorem UBx.put {w:World} {a m:ByteArray} {mo ev su mx:Int} {ta:Option Addr} {tl tc:Nat} {ha:Option Addr} {hl hc:Nat} {W:World} (h:UBx w a m mo ev su mx ta tl tc ha hl hc W) (o:Nat) (v:Value):UBx w a m mo ev su mx ta tl tc ha hl hc (W.setCell ⟨w.heap.size+1,o,none⟩ v):=by
 obtain ⟨h0,h1,c0,c1,c2,c3,c4,c5,c6,c7,hp⟩:=h
 exact ⟨h0.setCell (by simp) _,by simpa using h1,by simp [go_sem,c0],by simp [go_sem,c1],by simp [go_sem,c2],by simp [go_sem,c3],by simp [go_sem,c4],by simp [go_sem,c5],by simp [go_sem,c6],by simp [go_sem,c7],hp.set _ _⟩
theorem UBx.out {w:World} {a m:ByteArray} {mo ev su mx:Int} {ta:Option Addr} {tl tc:Nat} {ha:Option Addr} {hl hc:Nat} {W:World} (h:UBx w a m mo ev su mx ta tl tc ha hl hc W):∃v0 v1 v2 v3 v4 v5 v6 v7 v8 v9 v10 v11,W.cell? ⟨w.heap.size+1,0,none⟩=some v0∧W.cell? ⟨w.heap.size+1,1,none⟩=some v1∧W.cell? ⟨w.heap.size+1,2,none⟩=some v2∧W.cell? ⟨w.heap.size+1,3,none⟩=some v3∧W.cell? ⟨w.heap.size+1,4,none⟩=some v4∧W.cell? ⟨w.heap.size+1,5,none⟩=some v5∧W.cell? ⟨w.heap.size+1,6,none⟩=some v6∧W.cell? ⟨w.heap.size+1,7,none⟩=some v7∧W.cell? ⟨w.heap.size+1,8,none⟩=some v8∧W.cell? ⟨w.heap.size+1,9,none⟩=some v9∧W.cell? ⟨w.heap.size+1,10,none⟩=some v10∧W.cell? ⟨w.heap.size+1,11,none⟩=some v11∧W.frozen? ⟨w.heap.size+1,0,none⟩=false∧W.frozen? ⟨w.heap.size+1,1,none⟩=false∧W.frozen? ⟨w.heap.size+1,2,none⟩=false∧W.frozen? ⟨w.heap.size+1,3,none⟩=false∧W.frozen? ⟨w.heap.size+1,4,none⟩=false∧W.frozen? ⟨w.heap.size+1,5,none⟩=false∧W.frozen? ⟨w.heap.size+1,6,none⟩=false∧W.frozen? ⟨w.heap.size+1,7,none⟩=false∧W.frozen? ⟨w.heap.size+1,8,none⟩=false∧W.frozen? ⟨w.heap.size+1,9,none⟩=false∧W.frozen? ⟨w.heap.size+1,10,none⟩=false∧W.frozen? ⟨w.heap.size+1,11,none⟩=false:=by
 obtain ⟨_,_,_,_,_,_,_,_,_,_,hp⟩:=h
 obtain ⟨v0,e0⟩:=hp.has 0 (by omega)
 obtain ⟨v1,e1⟩:=hp.has 1 (by omega)
 obtain ⟨v2,e2⟩:=hp.has 2 (by omega)
 obtain ⟨v3,e3⟩:=hp.has 3 (by omega)
 obtain ⟨v4,e4⟩:=hp.has 4 (by omega)
 obtain ⟨v5,e5⟩:=hp.has 5 (by omega)
 obtain ⟨v6,e6⟩:=hp.has 6 (by omega)
 obtain ⟨v7,e7⟩:=hp.has 7 (by omega)
 obtain ⟨v8,e8⟩:=hp.has 8 (by omega)
 obtain ⟨v9,e9⟩:=hp.has 9 (by omega)
 obtain ⟨v10,e10⟩:=hp.has 10 (by omega)
 obtain ⟨v11,e11⟩:=hp.has 11 (by omega)
 exact ⟨v0,v1,v2,v3,v4,v5,v6,v7,v8,v9,v10,v11,e0,e1,e2,e3,e4,e5,e6,e7,e8,e9,e10,e11,hp.free 0 (by omega),hp.free 1 (by omega),hp.free 2 (by omega),hp.free 3 (by omega),hp.free 4 (by omega),hp.free 5 (by omega),hp.free 6 (by omega),hp.free 7 (by omega),hp.free 8 (by omega),hp.free 9 (by omega),hp.free 10 (by omega),hp.free 11 (by omega)⟩
set_option maxRecDepth 100000 in
set_option maxHeartbeats 8000000 in
theorem impl_usage (a m:ByteArray) (mo ev su mx:Int) (ta:Option Addr) (tl tc:Nat) (ha:Option Addr) (hl hc:Nat) (w:World) :
 Calls Tryz.prog 123 #[.agg #[.string a,.string m,.int .i64 mo,.int .i64 ev,.int .i64 su,.int .i64 mx,.slice ta tl tc,.slice ha hl hc]] w fun e w'=>e=.returned (.agg #[.string a,.string m,.int .i64 mo,.int .i64 ev,.int .i64 su,.int .i64 mx,.slice ta tl tc,.func (.func 183) #[] #[],.func (.func 184) #[] #[],.slice ha hl hc,.func (.func 185) #[] #[],.func (.func 186) #[] #[]])∧Below w.heap.size w w':=by
 go_enter Tryz.func123,Tryz.ntmps123
 go_wp2_with fail
 have HT0:Hid (UBx w a m mo ev su mx ta tl tc ha hl hc (((w.alloc (.cells #[.string a,.string m,.int .i64 mo,.int .i64 ev,.int .i64 su,.int .i64 mx,.slice ta tl tc,.slice ha hl hc] 74)).alloc (.cells #[.string ⟨#[]⟩,.string ⟨#[]⟩,.int .i64 0,.int .i64 0,.int .i64 0,.int .i64 0,.slice none 0 0,.nilFunc,.nilFunc,.slice none 0 0,.nilFunc,.nilFunc] 185)).drew)):=H_ (by
  refine ⟨((((Below.refl _ _).alloc (Nat.le_refl _) _).alloc (by simp) _).drew),by simp,by simp [go_sem],by simp [go_sem],by simp [go_sem],by simp [go_sem],by simp [go_sem],by simp [go_sem],by simp [go_sem],by simp [go_sem],by simp,fun o ho=>?_,fun o ho=>?_⟩
  ·match o,ho with
   | 0,_=>exact ⟨_,by simp [go_sem];rfl⟩
   | 1,_=>exact ⟨_,by simp [go_sem];rfl⟩
   | 2,_=>exact ⟨_,by simp [go_sem];rfl⟩
   | 3,_=>exact ⟨_,by simp [go_sem];rfl⟩
   | 4,_=>exact ⟨_,by simp [go_sem];rfl⟩
   | 5,_=>exact ⟨_,by simp [go_sem];rfl⟩
   | 6,_=>exact ⟨_,by simp [go_sem];rfl⟩
   | 7,_=>exact ⟨_,by simp [go_sem];rfl⟩
   | 8,_=>exact ⟨_,by simp [go_sem];rfl⟩
   | 9,_=>exact ⟨_,by simp [go_sem];rfl⟩
   | 10,_=>exact ⟨_,by simp [go_sem];rfl⟩
   | 11,_=>exact ⟨_,by simp [go_sem];rfl⟩
  ·match o,ho with
   | 0,_=>simp [go_sem]
   | 1,_=>simp [go_sem]
   | 2,_=>simp [go_sem]
   | 3,_=>simp [go_sem]
   | 4,_=>simp [go_sem]
   | 5,_=>simp [go_sem]
   | 6,_=>simp [go_sem]
   | 7,_=>simp [go_sem]
   | 8,_=>simp [go_sem]
   | 9,_=>simp [go_sem]
   | 10,_=>simp [go_sem]
   | 11,_=>simp [go_sem]
)
 refine wp_region_held_drew (S:=(fun W=>Below w.heap.size w W∧w.heap.size+1<W.heap.size∧W.cell? ⟨w.heap.size,0,none⟩=some (.string a)∧W.cell? ⟨w.heap.size,1,none⟩=some (.string m)∧W.cell? ⟨w.heap.size,2,none⟩=some (.int .i64 mo)∧W.cell? ⟨w.heap.size,3,none⟩=some (.int .i64 ev)∧W.cell? ⟨w.heap.size,4,none⟩=some (.int .i64 su)∧W.cell? ⟨w.heap.size,5,none⟩=some (.int .i64 mx)∧W.cell? ⟨w.heap.size,6,none⟩=some (.slice ta tl tc)∧W.cell? ⟨w.heap.size,7,none⟩=some (.slice ha hl hc)∧Pt (w.heap.size+1) 12 W)) (by kernel_rfl) HT0.out (fun hHeld=>?_)
 refine tk 0 (⟨some 3,.fieldAddr 74 (.tmp 1) 0,0,"l07_window.go:134",#[],none⟩) ?_
 refine tk 1 (⟨some 4,.load 9 (.tmp 3),9,"l07_window.go:134",#[⟨0,.data⟩],none⟩) ?_
 refine tk 2 (⟨some 5,.fieldAddr 74 (.tmp 1) 1,0,"l07_window.go:134",#[],none⟩) ?_
 refine tk 3 (⟨some 6,.load 9 (.tmp 5),9,"l07_window.go:134",#[⟨2,.data⟩],none⟩) ?_
 refine tk 4 (⟨some 7,.fieldAddr 74 (.tmp 1) 2,0,"l07_window.go:134",#[],none⟩) ?_
 refine tk 5 (⟨some 8,.load 2 (.tmp 7),2,"l07_window.go:134",#[⟨4,.data⟩],none⟩) ?_
 refine tk 6 (⟨some 9,.build 174 #[(0,.tmp 4),(1,.tmp 6),(2,.tmp 8)],174,"l07_window.go:134",#[⟨1,.data⟩,⟨3,.data⟩,⟨5,.data⟩],none⟩) ?_
 refine tk 7 (⟨some 10,.fieldAddr 74 (.tmp 1) 3,0,"l07_window.go:134",#[],none⟩) ?_
 refine tk 8 (⟨some 11,.load 2 (.tmp 10),2,"l07_window.go:134",#[⟨7,.data⟩],none⟩) ?_
 refine tk 9 (⟨some 12,.fieldAddr 74 (.tmp 1) 4,0,"l07_window.go:134",#[],none⟩) ?_
 refine tk 10 (⟨some 13,.load 2 (.tmp 12),2,"l07_window.go:134",#[⟨9,.data⟩],none⟩) ?_
 refine tk 11 (⟨some 14,.fieldAddr 74 (.tmp 1) 5,0,"l07_window.go:134",#[],none⟩) ?_
 refine tk 12 (⟨some 15,.load 2 (.tmp 14),2,"l07_window.go:134",#[⟨11,.data⟩],none⟩) ?_
 refine tk 13 (⟨some 16,.build 176 #[(0,.tmp 11),(1,.tmp 13),(2,.tmp 15)],176,"l07_window.go:134",#[⟨8,.data⟩,⟨10,.data⟩,⟨12,.data⟩],none⟩) ?_
 refine tk 14 (⟨some 17,.fieldAddr 74 (.tmp 1) 6,0,"l07_window.go:134",#[],none⟩) ?_
 refine tk 15 (⟨some 18,.load 64 (.tmp 17),64,"l07_window.go:134",#[⟨14,.data⟩],none⟩) ?_
 refine tk 17 (⟨some 20,.fieldAddr 74 (.tmp 1) 7,0,"l07_window.go:134",#[],none⟩) ?_
 refine tk 18 (⟨some 21,.load 72 (.tmp 20),72,"l07_window.go:134",#[⟨17,.data⟩],none⟩) ?_
 refine rd 16 (⟨some 19,.call {callee:=Callee.value (.func 145),args:=#[.tmp 18],argTypes:=#[64]},179,"l07_window.go:137",#[⟨15,.data⟩],none⟩) (fun K hK=>?_)
 go_simp
 go_at_call 145
 refine (impl_rtags _ _ _ _).mono ?_
 rintro e q1 ⟨rfl,hq1⟩
 try go_wp2_with fail
 have hk1:=@UBx.below w a m mo ev su mx ta tl tc ha hl hc _ _ HT0.out hq1
 refine hK.out _ _ hk1 (fun _=>?_)
 clear hK K
 try simp only [Act.put,SL]
 refine rd 19 (⟨some 22,.call {callee:=Callee.value (.func 146),args:=#[.tmp 21],argTypes:=#[72]},183,"l07_window.go:138",#[⟨18,.data⟩,⟨16,.chain⟩],none⟩) (fun K hK=>?_)
 go_simp
 go_at_call 146
 refine (impl_rhours _ _ _ _).mono ?_
 rintro e q2 ⟨rfl,hq2⟩
 try go_wp2_with fail
 have hk2:=@UBx.below w a m mo ev su mx ta tl tc ha hl hc _ _ hk1 hq2
 refine hK.out _ _ hk2 (fun _=>?_)
 clear hK K
 try simp only [Act.put,SL]
 refine tk 20 (⟨some 23,.build 185 #[(0,.tmp 9),(1,.tmp 16),(2,.tmp 19),(3,.tmp 22)],185,"l07_window.go:134",#[⟨6,.data⟩,⟨13,.data⟩,⟨16,.data⟩,⟨19,.data⟩],none⟩) ?_
 obtain ⟨v0,v1,v2,v3,v4,v5,v6,v7,v8,v9,v10,v11,r0,r1,r2,r3,r4,r5,r6,r7,r8,r9,r10,r11,z0,z1,z2,z3,z4,z5,z6,z7,z8,z9,z10,z11⟩:=@UBx.out w a m mo ev su mx ta tl tc ha hl hc _ hk2
 have hlt:=hk2.2.1
 refine rd 21 (⟨none,.store 185 (.tmp 2) (.tmp 23),0,"l07_window.go:134",#[⟨20,.data⟩,⟨19,.chain⟩,⟨0,.phase⟩,⟨1,.phase⟩,⟨2,.phase⟩,⟨3,.phase⟩,⟨4,.phase⟩,⟨5,.phase⟩,⟨6,.phase⟩,⟨7,.phase⟩,⟨8,.phase⟩,⟨9,.phase⟩,⟨10,.phase⟩,⟨11,.phase⟩,⟨12,.phase⟩,⟨13,.phase⟩,⟨14,.phase⟩,⟨15,.phase⟩,⟨16,.phase⟩,⟨17,.phase⟩,⟨18,.phase⟩,⟨19,.phase⟩,⟨20,.phase⟩],none⟩) (fun K hK=>?_)
 go_simp
 try go_wp2_with fail
 have hk3:=(@UBx.put w a m mo ev su mx ta tl tc ha hl hc _ (@UBx.put w a m mo ev su mx ta tl tc ha hl hc _ (@UBx.put w a m mo ev su mx ta tl tc ha hl hc _ (@UBx.put w a m mo ev su mx ta tl tc ha hl hc _ (@UBx.put w a m mo ev su mx ta tl tc ha hl hc _ (@UBx.put w a m mo ev su mx ta tl tc ha hl hc _ (@UBx.put w a m mo ev su mx ta tl tc ha hl hc _ (@UBx.put w a m mo ev su mx ta tl tc ha hl hc _ (@UBx.put w a m mo ev su mx ta tl tc ha hl hc _ (@UBx.put w a m mo ev su mx ta tl tc ha hl hc _ (@UBx.put w a m mo ev su mx ta tl tc ha hl hc _ (@UBx.put w a m mo ev su mx ta tl tc ha hl hc _ hk2 0 (.string a)) 1 (.string m)) 2 (.int .i64 mo)) 3 (.int .i64 ev)) 4 (.int .i64 su)) 5 (.int .i64 mx)) 6 (.slice ta tl tc)) 7 (.func (.func 183) #[] #[])) 8 (.func (.func 184) #[] #[])) 9 (.slice ha hl hc)) 10 (.func (.func 185) #[] #[])) 11 (.func (.func 186) #[] #[]))
 refine hK.out _ _ hk3 (fun _=>?_)
 clear hK K
 try simp only [Act.put,SL]
 refine wpAnyH_done (by kernel_rfl) ?_ _
 have HB:=H_ hk3.1
 clear hk3 hk2 hk1
 go_wp2_with fail
 refine bodyPost_ret (v:=.agg #[.string a,.string m,.int .i64 mo,.int .i64 ev,.int .i64 su,.int .i64 mx,.slice ta tl tc,.func (.func 183) #[] #[],.func (.func 184) #[] #[],.slice ha hl hc,.func (.func 185) #[] #[],.func (.func 186) #[] #[]]) (by simp [results,Tryz.results123,go_sem,r0,r1,r2,r3,r4,r5,r6,r7,r8,r9,r10,r11]) rfl ⟨rfl,HB.out⟩
end WinR
namespace WinR
open CatR (Blk)
theorem own_drew {w:World} {base e size n:Nat} {v:Value} {xs:List Value} (h:w.ownsRow base e size v n xs):w.drew.ownsRow base e size v n xs:=h
theorem step_append_own {P:Program} {w:World} {ops:Array Oper} {o:Oper} {a:Act} {K:Act→World→Prop} {Q:Exit→Act→World→Prop} {E:Prop} (hgd:o.guard=none) (s x:Operand) (t:TypeId)
 (ho:o.op=.call {callee:=.builtin .append,args:=#[s,x],argTypes:=#[t,t]})
 (base:Nat) (e:TypeId) (i:TypeInfo) (z:Value) (size bytes:Nat) (ht:P.underlying t=some (.slice e)) (hi:P.info? e=some i) (hz:i.zero=some z)
 (hsize:i.size=size) (hby:i.bytes=bytes) (hzs:z.cells.size=size) (hsz:0<size)
 (v:Value) (n:Nat) (xs:List Value) (hs:a.eval s=v) (hown:w.ownsRow base e size v n xs)
 (ad:Addr) (m c:Nat) (news:List Value) (hx:a.eval x=.slice (some ad) m c) (hl:news.length=m*size) (hnews:∀j u,news[j]? = some u→w.cell? (ad.add j)=some u) (h1:∀u∈news,u.oneCell'=true)
 (h63:n+m≤maxLen) (hbytes:(n+m)*bytes≤140737488355328) (hbase:base≤w.heap.size)
 (h:∀v' w',w'.ownsRow base e size v' (n+m) (xs++news)→w.grownBy w' v.ownBlock→(v'=.slice none 0 0↔v=.slice none 0 0∧m=0)→K (a.put o.dst v') w'):if Region.wanted o (yielded ops a.tmps)=true then Oper.wp P o a w K Q else E:=by
 have hw:Region.wanted o (yielded ops a.tmps)=true:=by simp [Region.wanted,hgd]
 rw [if_pos hw]
 exact wp_append_own w s x t ho base e i z size bytes ht hi hz hsize hby hzs hsz v n xs hs hown ad m c news hx hl hnews h1 h63 hbytes hbase h
theorem two_cells (w:World) (x y:ByteArray) (T:TypeId):∀j u,[Value.string x,Value.string y][j]? = some u→(w.alloc (.cells #[.string x,.string y] T)).cell? ((⟨w.heap.size,0,none⟩:Addr).add j)=some u:=by
 intro j u hj
 match j,hj with
 | 0,hj=>simp at hj;subst hj;simp [Addr.add]
 | 1,hj=>simp at hj;subst hj;simp [Addr.add,go_sem]
theorem two_one (x y:ByteArray):∀u∈[Value.string x,Value.string y],u.oneCell'=true:=by
 intro u hu
 simp at hu
 rcases hu with rfl|rfl<;>rfl
theorem one_cell (w:World) (x:ByteArray) (T:TypeId):∀j u,[Value.string x][j]? = some u→(w.alloc (.cells #[.string x] T)).cell? ((⟨w.heap.size,0,none⟩:Addr).add j)=some u:=by
 intro j u hj
 match j,hj with
 | 0,hj=>simp at hj;subst hj;simp [Addr.add]
theorem one_one (x:ByteArray):∀u∈[Value.string x],u.oneCell'=true:=by
 intro u hu
 simp at hu
 subst hu;rfl
end WinR
namespace WinR
open RowG (MadeG Rws cellsAll cellsAll_len cellsAll_get own_made take_more getD_mem own_set)
open EvtR (Pt)
open CatR (Blk Blk.new)
theorem hrs_cells {b off:Nat} {hs:List H} {w:World} (h:Hrs (some ⟨b,off,none⟩) hs w):∀j u,(cellsAll H.cells hs)[j]? = some u→w.cell? ⟨b,off+j,none⟩=some u:=by
 intro j u hj
 have hlt:=(List.getElem?_eq_some_iff.1 hj).1
 rw [cellsAll_len H.len hs] at hlt
 have e:j=(j / 2)*2+j % 2:=by omega
 have hi:j / 2<hs.length:=by omega
 rw [e,cellsAll_get (z:=H.zero) H.len hs (j / 2) (j % 2) hi (by omega)] at hj
 rcases h with h0|⟨b',off',he,_,hc⟩
 ·omega
 ·simp only [Option.some.injEq,Addr.mk.injEq,and_true] at he
  obtain ⟨rfl,rfl⟩:=he
  have:=hc (j / 2) hi (j % 2) (by omega)
  rw [show off+j=off+j / 2*2+j % 2 by omega,this]
  exact hj
theorem hrs_one (hs:List H):∀v∈cellsAll H.cells hs,v.oneCell'=true:=by
 intro v hv
 simp only [cellsAll,List.mem_flatMap,H.cells,List.mem_cons,List.not_mem_nil,or_false] at hv
 obtain ⟨x,_,rfl|rfl⟩:=hv<;>rfl
def VWx (W0:World) (V:Nat) (tv:Value) (W:World):Prop:=Below W0.heap.size W0 W∧V<W.heap.size∧W.cell? ⟨V,6,none⟩=some tv∧W.frozen? ⟨V,6,none⟩=false
theorem VWx.below {W0:World} {V:Nat} {tv:Value} {W W':World} (h:VWx W0 V tv W) (hb:Below W.heap.size W W'):VWx W0 V tv W' :=
 ⟨h.1.trans (hb.mono h.1.size),Nat.lt_of_lt_of_le h.2.1 hb.size,(hb.cell (p:=⟨V,6,none⟩) h.2.1).trans h.2.2.1,(hb.frozen (p:=⟨V,6,none⟩) h.2.1).trans h.2.2.2⟩
theorem VWx.grown {W0:World} {V:Nat} {tv:Value} {W W':World} {row:Option Nat} (h:VWx W0 V tv W) (hg:W.grownBy W' row) (hr:∀g,row=some g→V+1≤g) (hV:W0.heap.size≤V):VWx W0 V tv W':=by
 have e:=hg.block V h.2.1 (fun q=>by have:=hr V q.symm;omega)
 exact ⟨h.1.grown hg h.1.size (fun k q=>by have:=hr k q;omega),Nat.lt_of_lt_of_le h.2.1 hg.size,(World.cell?_of_block (a:=⟨V,6,none⟩) e).trans h.2.2.1,(World.frozen?_of_block (a:=⟨V,6,none⟩) e).trans h.2.2.2⟩
theorem BlkW.grown {b:Nat} {cs:List Value} {w w':World} {row:Option Nat} (h:BlkW b cs w) (hg:w.grownBy w' row) (hne:some b≠row):BlkW b cs w':=by
 have e:=hg.block b h.1.1 hne
 exact ⟨⟨Nat.lt_of_lt_of_le h.1.1 hg.size,fun i hi=>(World.cell?_of_block (a:=⟨b,i,none⟩) e).trans (h.1.2 i hi)⟩,fun i hi=>(World.frozen?_of_block (a:=⟨b,i,none⟩) e).trans (h.2 i hi)⟩
def UWx (w W0:World) (a m:ByteArray) (mo ev su mx:Int) (W:World):Prop:=Below W0.heap.size W0 W∧w.heap.size<W0.heap.size∧W.cell? ⟨w.heap.size,0,none⟩=some (.string a)∧W.cell? ⟨w.heap.size,1,none⟩=some (.string m)∧W.cell? ⟨w.heap.size,2,none⟩=some (.int .i64 mo)∧W.cell? ⟨w.heap.size,3,none⟩=some (.int .i64 ev)∧W.cell? ⟨w.heap.size,4,none⟩=some (.int .i64 su)∧W.cell? ⟨w.heap.size,5,none⟩=some (.int .i64 mx)
theorem UWx.below {w W0:World} {a m:ByteArray} {mo ev su mx:Int} {W W':World} (h:UWx w W0 a m mo ev su mx W) (hb:Below W.heap.size W W'):UWx w W0 a m mo ev su mx W':=by
 obtain ⟨h0,h1,c0,c1,c2,c3,c4,c5⟩:=h
 have c:=fun o=>hb.cell (p:=⟨w.heap.size,o,none⟩) (Nat.lt_of_lt_of_le h1 h0.size)
 exact ⟨h0.trans (hb.mono h0.size),h1,(c 0).trans c0,(c 1).trans c1,(c 2).trans c2,(c 3).trans c3,(c 4).trans c4,(c 5).trans c5⟩
theorem UWx.put {w W0:World} {a m:ByteArray} {mo ev su mx:Int} {W:World} (h:UWx w W0 a m mo ev su mx W) (V o:Nat) (v:Value) (hV:W0.heap.size≤V):UWx w W0 a m mo ev su mx (W.setCell ⟨V,o,none⟩ v):=by
 obtain ⟨h0,h1,c0,c1,c2,c3,c4,c5⟩:=h
 have e:=(RowG.grown_set W V o v).block w.heap.size (Nat.lt_of_lt_of_le h1 h0.size) (by simp;omega)
 have c:=fun k=>World.cell?_of_block (a:=⟨w.heap.size,k,none⟩) e
 exact ⟨h0.setCell hV _,h1,(c 0).trans c0,(c 1).trans c1,(c 2).trans c2,(c 3).trans c3,(c 4).trans c4,(c 5).trans c5⟩
end WinR
end Go.Proofs.YtcilbmhkhllmjaaGreatDoor
