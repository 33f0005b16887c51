/-
  The program's rising lists: whether hours rise. The condition: at most 1048576 of them.
  A right minute's month: both sides hand back the same; whether an hour lies in a month. The condition: the program's table stands in its variable.
  What the program calls a right window. The conditions: texts of at most 1048576 bytes, lists of at most 1048576; the program's table stands in its variable.
  What the program calls a window's right tags. The conditions: texts of at most 1048576 bytes, lists of at most 1048576.
  What the program calls a window's right hours. The conditions: lists of at most 1048576; the sum is one that may be; the program's table stands in its variable.
-/
import Derived.Test.YtmalfhhkjdkadaaGreatDoorN12
namespace Go.Proofs.YtmalfhhkjdkadaaGreatDoor
open Go.ChangeShapes Go.WideShapes Go.ChangeAt Go.RowKit
set_option linter.unusedVariables false
namespace WinR
open RowG LtR
open CatR (Blk Blk.new)
def HSt (w:World) (ao:Option Addr) (len cap:Nat) (b o1 o2:Nat) (x y:H) (W:World):Prop:=Below w.heap.size w W∧w.heap.size<W.heap.size∧b<W.heap.size∧W.cell? ⟨w.heap.size,0,none⟩=some (.slice ao len cap)∧W.cell? ⟨w.heap.size,1,none⟩=some (.func (.func 217) #[] #[])∧W.cell? ⟨w.heap.size,2,none⟩=some (.func (.func 218) #[] #[])∧W.cell? ⟨b,o1,none⟩=some (.int .i64 x.h)∧W.cell? ⟨b,o1+1,none⟩=some (.int .i64 x.s)∧W.cell? ⟨b,o2,none⟩=some (.int .i64 y.h)∧W.cell? ⟨b,o2+1,none⟩=some (.int .i64 y.s)
theorem HSt.below {w:World} {ao:Option Addr} {len cap b o1 o2:Nat} {x y:H} {W W':World} (h:HSt w ao len cap b o1 o2 x y W) (hb:Below W.heap.size W W'):HSt w ao len cap b o1 o2 x y W':=by
 obtain ⟨h0,h1,h2,c0,c1,c2,d0,d1,d2,d3⟩:=h
 have c:=fun o=>hb.cell (p:=⟨w.heap.size,o,none⟩) h1
 have d:=fun o=>hb.cell (p:=⟨b,o,none⟩) h2
 have:=hb.size
 exact ⟨h0.trans (hb.mono h0.size),by omega,by omega,(c 0).trans c0,(c 1).trans c1,(c 2).trans c2,(d _).trans d0,(d _).trans d1,(d _).trans d2,(d _).trans d3⟩
set_option maxRecDepth 100000 in
set_option maxHeartbeats 4000000 in
theorem hours_rises (ao:Option Addr) (cap:Nat) (hs:List H) (w:World) (hlen:hs.length≤1048576) (hI:Hrs ao hs w) :
 Calls Tryz.prog 221 #[.agg #[.slice ao hs.length cap,.func (.func 217) #[] #[],.func (.func 218) #[] #[]]] w fun e w'=>e=.returned (.bool (riseB hlt H.zero hs))∧Below w.heap.size w w':=by
 have HI:=hid_intro hI
 have HNO:=hid_intro (fun k=>rise_no (r:=hlt) (z:=H.zero) (xs:=hs) (k:=k))
 have HYES:Hid (RiseTo hlt H.zero hs hs.length→riseB hlt H.zero hs=true):=hid_intro rise_yes
 generalize riseB hlt H.zero hs=R at *
 obtain ⟨len,hl⟩:∃len,len=hs.length:=⟨_,rfl⟩
 rw [←hl] at hlen HYES ⊢
 have HL:=hid_intro hl
 clear hI hl
 have HB0:Hid (Below w.heap.size w (w.alloc (.cells #[.slice ao len cap,.func (.func 217) #[] #[],.func (.func 218) #[] #[]] 243))):=hid_intro ((Below.refl _ _).alloc (Nat.le_refl _) _)
 have HX0:Hid (Blk w.heap.size [.slice ao len cap,.func (.func 217) #[] #[],.func (.func 218) #[] #[]] (w.alloc (.cells #[.slice ao len cap,.func (.func 217) #[] #[],.func (.func 218) #[] #[]] 243))):=hid_intro (Blk.new w _ _)
 go_enter Tryz.func221,Tryz.ntmps221
 go_wp2_with fail
 go_loopw [3] (fun z wr=>∃k:Nat,1≤k∧(k=1∨k≤len)∧z=.int .i64 (k:Int)∧Hid (RiseTo hlt H.zero hs k)∧Hid (Below w.heap.size w wr)∧Hid (Blk w.heap.size [.slice ao len cap,.func (.func 217) #[] #[],.func (.func 218) #[] #[]] wr)) (fun z _=>len-(intOf z).toNat)
 case atStart=>exact ⟨1,by omega,by omega,rfl,hid_intro (rise_one _ (by omega)),HB0,HX0⟩
 case round =>
  obtain ⟨k,hk1,hk2,rfl,HR,HB,HX⟩:=hrel
  obtain ⟨xl,xc⟩:=HX.out
  have x0:wr.cell? ⟨w.heap.size,0,none⟩=some (.slice ao len cap):=xc 0 (by simp)
  have x1:wr.cell? ⟨w.heap.size,1,none⟩=some (.func (.func 217) #[] #[]):=xc 1 (by simp)
  have x2:wr.cell? ⟨w.heap.size,2,none⟩=some (.func (.func 218) #[] #[]):=xc 2 (by simp)
  clear xc
  by_cases hlt1:k<len
  ·have hlt2:(k:Int)<(len:Int):=by omega
   have hk0:(0:Int)≤(k:Int):=by omega
   obtain ⟨j,hj⟩:∃j,j=k-1:=⟨_,rfl⟩
   have hj0:(0:Int)≤(j:Int):=by omega
   have hj1:(j:Int)<(len:Int):=by omega
   have hwr:IntKind.i64.wrap ((k:Int)-1)=(j:Int):=by rw [IntKind.wrap_i64];omega
   obtain ⟨b,off,rfl,hbl,c1,c2⟩:=(HI.out.below HB.out).at k (by have:=HL.out;omega)
   obtain ⟨b',off',he,_,d1,d2⟩:=(HI.out.below HB.out).at j (by have:=HL.out;omega)
   obtain ⟨rfl,rfl⟩:b=b'∧off=off':=by simpa using he
   have HN:=hid_intro (HNO.out k (by have:=HL.out;omega) (by omega))
   have HM:=hid_intro (fun h=>HR.out.more (k:=k) h)
   rw [←hj] at HN HM
   generalize hs.getD k H.zero=X at *
   generalize hs.getD j H.zero=Y at *
   have HS0:Hid (HSt w (some ⟨b,off,none⟩) len cap b (off+k*2) (off+j*2) X Y wr.drew):=hid_intro (HSt.below ⟨HB.out,xl,hbl,x0,x1,x2,c1,c2,d1,d2⟩ (Below.refl _ _).drew)
   obtain ⟨xh,xs⟩:=X
   obtain ⟨yh,ys⟩:=Y
   dsimp only at c1 c2 d1 d2
   clear hj
   by_cases hle:xh≤yh
   ·have HF:Hid (R=false):=hid_intro (HN.out (by unfold hlt;exact decide_eq_false (by show ¬yh<xh;omega)))
    go_wp2_with fail
    go_region_held3 (fun W=>Below w.heap.size w W∧w.heap.size<W.heap.size∧b<W.heap.size∧W.cell? ⟨w.heap.size,0,none⟩=some (.slice (some ⟨b,off,none⟩) len cap)∧W.cell? ⟨w.heap.size,1,none⟩=some (.func (.func 217) #[] #[])∧W.cell? ⟨w.heap.size,2,none⟩=some (.func (.func 218) #[] #[])∧W.cell? ⟨b,off+k*2,none⟩=some (.int .i64 xh)∧W.cell? ⟨b,off+k*2+1,none⟩=some (.int .i64 xs)∧W.cell? ⟨b,off+j*2,none⟩=some (.int .i64 yh)∧W.cell? ⟨b,off+j*2+1,none⟩=some (.int .i64 ys)) (first|assumption|(exact HS0.out)|(exact HSt.below (x:=⟨xh,xs⟩) (y:=⟨yh,ys⟩) (by assumption) hb))
     (first|(go_at_call 217;refine (hkey _ _ _).mono ?_;rintro e w' ⟨rfl,hb⟩))
    rename_i hSz
    have HSz:=hid_intro hSz.1
    clear hSz
    go_wp2_with fail
    go_ret
    exact ⟨ret_bool HF.out.symm,HSz.out⟩
   ·have hle2:yh<xh:=by omega
    have HM2:=hid_intro (HM.out (fun _=>by unfold hlt;exact decide_eq_true (by show yh<xh;omega)))
    go_wp2_with fail
    go_region_held3 (fun W=>Below w.heap.size w W∧w.heap.size<W.heap.size∧b<W.heap.size∧W.cell? ⟨w.heap.size,0,none⟩=some (.slice (some ⟨b,off,none⟩) len cap)∧W.cell? ⟨w.heap.size,1,none⟩=some (.func (.func 217) #[] #[])∧W.cell? ⟨w.heap.size,2,none⟩=some (.func (.func 218) #[] #[])∧W.cell? ⟨b,off+k*2,none⟩=some (.int .i64 xh)∧W.cell? ⟨b,off+k*2+1,none⟩=some (.int .i64 xs)∧W.cell? ⟨b,off+j*2,none⟩=some (.int .i64 yh)∧W.cell? ⟨b,off+j*2+1,none⟩=some (.int .i64 ys)) (first|assumption|(exact HS0.out)|(exact HSt.below (x:=⟨xh,xs⟩) (y:=⟨yh,ys⟩) (by assumption) hb))
     (first|(go_at_call 217;refine (hkey _ _ _).mono ?_;rintro e w' ⟨rfl,hb⟩))
    rename_i hSz
    have HSz:=hid_intro hSz.1
    have HSy:Hid (Blk w.heap.size [.slice (some ⟨b,off,none⟩) len cap,.func (.func 217) #[] #[],.func (.func 218) #[] #[]] w'):=hid_intro ⟨hSz.2.1,fun i hi=>by
     match i,hi with
     | 0,_=>exact hSz.2.2.2.1
     | 1,_=>exact hSz.2.2.2.2.1
     | 2,_=>exact hSz.2.2.2.2.2.1⟩
    clear hSz
    go_wp2_with fail
    go_roundw
    case rel=>exact ⟨k+1,by omega,by omega,by go_num,HM2,HSz,HSy⟩
    case measure=>simp [intOf];omega
  ·have hlt2:¬(k:Int)<(len:Int):=by omega
   have HF:Hid (R=true):=hid_intro (HYES.out (fun i h1 h2=>HR.out i (by omega) h2))
   go_wp2_with fail
   go_ret
   exact ⟨ret_bool HF.out.symm,HB.out⟩
end WinR
namespace WinR
open DateM DateR
theorem impl_month_in (n y m d:Int) (h1:0≤n) (h2:n≤121000000) (hy1:1970≤y) (hy2:y≤2200) (hm1:1≤m) (hm2:m≤12) (w:World) (hL:Laid w)
 (hd:∀w,Laid w→Calls Tryz.prog 252 #[.int .i64 (n.tdiv 1440)] w fun e w'=>e=.returned (date y m d)∧Below w.heap.size w w') :
 Calls Tryz.prog 245 #[.int .i64 n] w fun e w'=>e=.returned (.int .i64 (12*(y-1970)+(m-1)))∧Below w.heap.size w w':=by
 have hb:0≤n.tdiv 1440∧n.tdiv 1440≤121000000:=by rw [Int.tdiv_eq_ediv_of_nonneg h1];omega
 obtain ⟨b1,b2⟩:=hb
 generalize hq:n.tdiv 1440=q at *
 have HD:=hid_intro hd
 have HL:=hid_intro hL
 clear hd hL
 unfold date at *
 go_enter Tryz.func245,Tryz.ntmps245
 go_wp2_with (first|(go_at_call 115;go_in)|(go_at_call 118;go_in)|(go_at_call 252;(try rw [hq]);refine (HD.out _ HL.out).mono ?_;rintro e w1 ⟨rfl,hb1⟩))
 go_ret
 exact ⟨ret_int (by omega),hb1.alloc hb1.size _⟩
theorem spec_month_in (n y m d:Int) (h1:0≤n) (h2:n≤121000000) (hy1:1970≤y) (hy2:y≤2200) (hm1:1≤m) (hm2:m≤12) (w:World)
 (hd:∀w,Calls Tryz.prog 182 #[.int .i64 (n.tdiv 1440)] w fun e w'=>e=.returned (date y m d)∧Below w.heap.size w w') :
 Calls Tryz.prog 144 #[.int .i64 n] w fun e w'=>e=.returned (.int .i64 (12*(y-1970)+(m-1)))∧Below w.heap.size w w':=by
 have hb:0≤n.tdiv 1440∧n.tdiv 1440≤121000000:=by rw [Int.tdiv_eq_ediv_of_nonneg h1];omega
 obtain ⟨b1,b2⟩:=hb
 generalize hq:n.tdiv 1440=q at *
 have HD:=hid_intro hd
 clear hd
 unfold date at *
 go_enter Tryz.func144,Tryz.ntmps144
 go_wp2_with (first|(go_at_call 182;(try rw [hq]);refine (HD.out _).mono ?_;rintro e w1 ⟨rfl,hb1⟩))
 go_ret
 exact ⟨ret_int (by omega),hb1.alloc hb1.size _⟩
theorem month_two (n:Int) (h1:0≤n) (h2:n≤121000000):∃k:Nat,k≤2771∧fd k≤n / 1440∧n / 1440<fd (k+1)∧(∀w,Laid w→Calls Tryz.prog 245 #[.int .i64 n] w fun e w'=>e=.returned (.int .i64 (k:Int))∧Below w.heap.size w w')∧(∀w,Calls Tryz.prog 144 #[.int .i64 n] w fun e w'=>e=.returned (.int .i64 (k:Int))∧Below w.heap.size w w'):=by
 obtain ⟨y,m,d,hd,hi,hs⟩:=dateof_both (n.tdiv 1440)
 have e:n.tdiv 1440=n / 1440:=Int.tdiv_eq_ediv_of_nonneg h1
 have:=ys_231
 rcases hd with ⟨_,_,hr,hn⟩|⟨hx,_⟩
 ·obtain ⟨k,k1,k2,k3,k4⟩:=num_fd y m d hr
  obtain ⟨y1,y2,m1,m2,_,_⟩:=(right_iff y m d).1 hr
  exact ⟨k,k1,by omega,by omega,fun w hL=>by rw [←k2];exact impl_month_in n y m d h1 h2 y1 y2 m1 m2 w hL hi,fun w=>by rw [←k2];exact spec_month_in n y m d h1 h2 y1 y2 m1 m2 w hs⟩
 ·omega
theorem impl_hour_of (h mo:Int) (w:World) (hL:Laid w) :
 Calls Tryz.prog 222 #[.int .i64 h,.int .i64 mo] w fun e w'=>e=.returned (.bool (hourIn h mo))∧Below w.heap.size w w':=by
 rcases (show (¬0≤h)∨(0≤h∧¬h≤2016666)∨(0≤h∧h≤2016666) by omega) with q|⟨q,q2⟩|⟨q,q2⟩
 ·rw [hour_far (fun x=>q x.1)]
  clear hL
  go_enter Tryz.func222,Tryz.ntmps222
  go_wp2_with (go_at_call 118;go_in)
  go_ret
  exact ⟨rfl,Below.refl _ _⟩
 ·rw [hour_far (fun x=>q2 x.2)]
  clear hL
  go_enter Tryz.func222,Tryz.ntmps222
  go_wp2_with (go_at_call 118;go_in)
  go_ret
  exact ⟨rfl,Below.refl _ _⟩
 ·obtain ⟨k,k1,f1,f2,hi,hs⟩:=month_two (60*h) (by omega) (by omega)
  rw [hour_month q q2 k rfl f1 f2]
  have HI:=hid_intro (hi w hL)
  clear hL hi hs f1 f2
  have hm:h*60=60*h:=by omega
  generalize hq:60*h=n at *
  by_cases he:(k:Int)=mo
  ·subst he
   rw [decide_eq_true rfl]
   go_enter Tryz.func222,Tryz.ntmps222
   go_wp2_with (first|(go_at_call 118;go_in)|(go_at_call 245;(try rw [hm]);refine HI.out.mono ?_;rintro e w1 ⟨rfl,hb1⟩))
   go_ret
   exact ⟨rfl,hb1⟩
  ·rw [decide_eq_false he]
   have he2:((k:Int)==mo)=false:=by simpa using he
   go_enter Tryz.func222,Tryz.ntmps222
   go_wp2_with (first|(go_at_call 118;go_in)|(go_at_call 245;(try rw [hm]);refine HI.out.mono ?_;rintro e w1 ⟨rfl,hb1⟩))
   go_ret
   exact ⟨ret_bool (by first|rfl|simpa using he),hb1⟩
end WinR
namespace WinR
open RowG LtR
open CatR (Blk Blk.new)
open DateR (Laid)
theorem withinI (n low high:Int) (w:World) :
 Calls Tryz.prog 156 #[.int .i64 n,.int .i64 low,.int .i64 high] w fun e w'=>e=.returned (.bool (decide (low≤n∧n≤high)))∧w'=w:=by
 rcases (show (¬low≤n)∨(low≤n∧¬n≤high)∨(low≤n∧n≤high) by omega) with h|⟨h1,h2⟩|⟨h1,h2⟩
 all_goals
  go_enter Tryz.func156,Tryz.ntmps156
  go_wp2
  go_ret
  exact ⟨ret_bool (by first|(simp [*];done)|(simp;omega)),rfl⟩
theorem three (b1 b2 b3:Bool):(b1=false)∨(b1=true∧b2=false)∨(b1=true∧b2=true∧b3=false)∨(b1=true∧b2=true∧b3=true):=by
 cases b1<;>cases b2<;>cases b3<;>simp
theorem four (b1 b2 b3 b4:Bool):(b1=false)∨(b1=true∧b2=false)∨(b1=true∧b2=true∧b3=false)∨(b1=true∧b2=true∧b3=true∧b4=false)∨(b1=true∧b2=true∧b3=true∧b4=true):=by
 cases b1<;>cases b2<;>cases b3<;>cases b4<;>simp
theorem isMonth_any (n:Int) (w:World):Calls Tryz.prog 72 #[.int .i64 n] w fun e w'=>e=.returned (.bool (decide (0≤n∧n≤2760)))∧w'=w:=by
 have H:=EvtR.within_any n 0 2760
 generalize decide (0≤n∧n≤2760)=b at *
 go_enter Tryz.func72,Tryz.ntmps72
 go_wp2_with (go_at_call 118;refine (H _).mono ?_;rintro e w' ⟨rfl,rfl⟩)
 go_ret
 exact ⟨rfl,rfl⟩
set_option maxHeartbeats 4000000 in
theorem impl_named (a m:ByteArray) (mo:Int) (w:World) (ha:a.size≤1048576) (hm:m.size≤1048576) :
 Calls Tryz.prog 196 #[.agg #[.string a,.string m,.int .i64 mo]] w fun e w'=>e=.returned (.bool (namedB a m mo))∧Below w.heap.size w w':=by
 unfold namedB
 have H1:=hid_intro (fun w=>NameR.impl_any a w ha)
 have H2:=hid_intro (fun w=>NameR.impl_any m w hm)
 have H3:=hid_intro (fun w=>isMonth_any mo w)
 have HB:Hid (Below w.heap.size w (w.alloc (.cells #[.string a,.string m,.int .i64 mo] 233))):=hid_intro ((Below.refl _ _).alloc (Nat.le_refl _) _)
 have HX:Hid (∀W,W=w.alloc (.cells #[.string a,.string m,.int .i64 mo] 233)→W.cell? ⟨w.heap.size,0,none⟩=some (.string a)∧W.cell? ⟨w.heap.size,1,none⟩=some (.string m)∧W.cell? ⟨w.heap.size,2,none⟩=some (.int .i64 mo)):=hid_intro (fun W h=>by subst h;simp [go_sem])
 generalize NameR.nameB a=b1 at *
 generalize NameR.nameB m=b2 at *
 generalize decide (0≤mo∧mo≤2760)=b3 at *
 rcases three b1 b2 b3 with rfl|⟨rfl,rfl⟩|⟨rfl,rfl,rfl⟩|⟨rfl,rfl,rfl⟩
 ·go_enter Tryz.func196,Tryz.ntmps196
  go_wp2_with fail
  refine (H1.out _).mono ?_
  rintro e w1 ⟨rfl,rfl⟩
  go_wp2_with fail
  go_ret
  exact ⟨rfl,HB.out⟩
 ·go_enter Tryz.func196,Tryz.ntmps196
  go_wp2_with fail
  refine (H1.out _).mono ?_
  rintro e w1 ⟨rfl,rfl⟩
  go_wp2_with fail
  refine (H2.out _).mono ?_
  rintro e w1 ⟨rfl,rfl⟩
  go_wp2_with fail
  go_ret
  exact ⟨rfl,HB.out⟩
 ·go_enter Tryz.func196,Tryz.ntmps196
  go_wp2_with fail
  refine (H1.out _).mono ?_
  rintro e w1 ⟨rfl,rfl⟩
  go_wp2_with fail
  refine (H2.out _).mono ?_
  rintro e w1 ⟨rfl,rfl⟩
  go_wp2_with fail
  refine (H3.out _).mono ?_
  rintro e w1 ⟨rfl,rfl⟩
  go_wp2_with fail
  go_ret
  exact ⟨rfl,HB.out⟩
 ·go_enter Tryz.func196,Tryz.ntmps196
  go_wp2_with fail
  refine (H1.out _).mono ?_
  rintro e w1 ⟨rfl,rfl⟩
  go_wp2_with fail
  refine (H2.out _).mono ?_
  rintro e w1 ⟨rfl,rfl⟩
  go_wp2_with fail
  refine (H3.out _).mono ?_
  rintro e w1 ⟨rfl,rfl⟩
  go_wp2_with fail
  go_ret
  exact ⟨rfl,HB.out⟩
set_option maxHeartbeats 4000000 in
theorem impl_counted (ev su mx:Int) (w:World) :
 Calls Tryz.prog 197 #[.agg #[.int .i64 ev,.int .i64 su,.int .i64 mx]] w fun e w'=>e=.returned (.bool (countedB ev su mx))∧Below w.heap.size w w':=by
 unfold countedB
 have H1:=hid_intro (fun w=>EvtR.within_any ev 1 1000 w)
 have H2:=hid_intro (fun w=>EvtR.within_any su 0 1000000000000 w)
 have H3:=hid_intro (fun w=>EvtR.within_any mx 0 su w)
 have HB:Hid (Below w.heap.size w (w.alloc (.cells #[.int .i64 ev,.int .i64 su,.int .i64 mx] 235))):=hid_intro ((Below.refl _ _).alloc (Nat.le_refl _) _)
 generalize decide (1≤ev∧ev≤1000)=b1 at *
 generalize decide (0≤su∧su≤1000000000000)=b2 at *
 generalize decide (0≤mx∧mx≤su)=b3 at *
 rcases three b1 b2 b3 with rfl|⟨rfl,rfl⟩|⟨rfl,rfl,rfl⟩|⟨rfl,rfl,rfl⟩
 ·go_enter Tryz.func197,Tryz.ntmps197
  go_wp2_with fail
  refine (H1.out _).mono ?_
  rintro e w1 ⟨rfl,rfl⟩
  go_wp2_with fail
  go_ret
  exact ⟨rfl,HB.out⟩
 ·go_enter Tryz.func197,Tryz.ntmps197
  go_wp2_with fail
  refine (H1.out _).mono ?_
  rintro e w1 ⟨rfl,rfl⟩
  go_wp2_with fail
  refine (H2.out _).mono ?_
  rintro e w1 ⟨rfl,rfl⟩
  go_wp2_with fail
  go_ret
  exact ⟨rfl,HB.out⟩
 ·go_enter Tryz.func197,Tryz.ntmps197
  go_wp2_with fail
  refine (H1.out _).mono ?_
  rintro e w1 ⟨rfl,rfl⟩
  go_wp2_with fail
  refine (H2.out _).mono ?_
  rintro e w1 ⟨rfl,rfl⟩
  go_wp2_with fail
  refine (H3.out _).mono ?_
  rintro e w1 ⟨rfl,rfl⟩
  go_wp2_with fail
  go_ret
  exact ⟨rfl,HB.out⟩
 ·go_enter Tryz.func197,Tryz.ntmps197
  go_wp2_with fail
  refine (H1.out _).mono ?_
  rintro e w1 ⟨rfl,rfl⟩
  go_wp2_with fail
  refine (H2.out _).mono ?_
  rintro e w1 ⟨rfl,rfl⟩
  go_wp2_with fail
  refine (H3.out _).mono ?_
  rintro e w1 ⟨rfl,rfl⟩
  go_wp2_with fail
  go_ret
  exact ⟨rfl,HB.out⟩
end WinR
namespace WinR
open RowG LtR
open CatR (Blk Blk.new)
open DateR (Laid)
set_option maxRecDepth 100000 in
set_option maxHeartbeats 4000000 in
theorem impl_tagged (a m:ByteArray) (mo ev su mx:Int) (ts:List ByteArray) (ta:Option Addr) (tc:Nat) (hv:Value) (w:World) (hlen:ts.length≤1048576) (hS:∀t∈ts,t.size≤1048576) (hI:Tgs ta ts w) :
 Calls Tryz.prog 198 #[.agg #[.string a,.string m,.int .i64 mo,.int .i64 ev,.int .i64 su,.int .i64 mx,.slice ta ts.length tc,.func (.func 215) #[] #[],.func (.func 216) #[] #[],hv,.func (.func 217) #[] #[],.func (.func 218) #[] #[]]] w fun e w'=>e=.returned (.bool (tagsB ts))∧Below w.heap.size w w':=by
 have HI:=hid_intro hI
 have HS:=hid_intro hS
 have HLO:=hid_intro (tags_long (ts:=ts))
 have HRI:=hid_intro (tags_rise (ts:=ts))
 have HEN:=hid_intro (tags_end (ts:=ts))
 have HC:=hid_intro (fun W (hW:Below w.heap.size w W)=>tags_rises ta tc ts W hlen (hI.below hW))
 generalize tagsB ts=R at *
 generalize riseB lt tz ts=r at *
 obtain ⟨len,hl⟩:∃len,len=ts.length:=⟨_,rfl⟩
 rw [←hl] at hlen HLO HEN HC ⊢
 have HL:=hid_intro hl
 clear hI hl hS
 have HB0:Hid (Below w.heap.size w (w.alloc (.cells #[.string a,.string m,.int .i64 mo,.int .i64 ev,.int .i64 su,.int .i64 mx,.slice ta len tc,.func (.func 215) #[] #[],.func (.func 216) #[] #[],hv,.func (.func 217) #[] #[],.func (.func 218) #[] #[]] 245))):=hid_intro ((Below.refl _ _).alloc (Nat.le_refl _) _)
 have HX0:=hid_intro (Blk.new w [.string a,.string m,.int .i64 mo,.int .i64 ev,.int .i64 su,.int .i64 mx,.slice ta len tc,.func (.func 215) #[] #[],.func (.func 216) #[] #[],hv,.func (.func 217) #[] #[],.func (.func 218) #[] #[]] 245)
 by_cases h12:12<len
 ·have h12':(12:Int)<(len:Int):=by omega
  have HF:=hid_intro (HLO.out h12)
  clear HX0 HC HRI HEN HLO
  go_enter Tryz.func198,Tryz.ntmps198
  go_wp2_with fail
  go_ret
  exact ⟨ret_bool HF.out.symm,HB0.out⟩
 ·have h12':¬(12:Int)<(len:Int):=by omega
  cases r
  ·have HF:=hid_intro (HRI.out rfl)
   clear HX0 HRI HEN HLO
   go_enter Tryz.func198,Tryz.ntmps198
   go_wp2_with fail
   refine (HC.out _ HB0.out).mono ?_
   rintro e w1 ⟨rfl,hb1⟩
   have HB1:=hid_intro (HB0.out.trans (hb1.mono HB0.out.size))
   clear hb1
   go_wp2_with fail
   go_ret
   exact ⟨ret_bool HF.out.symm,HB1.out⟩
  ·have HE:=hid_intro (HEN.out (by omega) rfl)
   clear HRI HEN HLO
   go_enter Tryz.func198,Tryz.ntmps198
   go_wp2_with fail
   refine (HC.out _ HB0.out).mono ?_
   rintro e w1 ⟨rfl,hb1⟩
   have HB1:=hid_intro (HB0.out.trans (hb1.mono HB0.out.size))
   have HX1:=hid_intro (HX0.out.below hb1)
   clear hb1 HB0 HX0
   obtain ⟨xl,xc⟩:=HX1.out
   have x6:w1.cell? ⟨w.heap.size,6,none⟩=some (.slice ta len tc):=xc 6 (by simp)
   clear xc
   go_wp2_with fail
   go_loopw [20] (fun z wr=>∃k:Nat,k≤len∧z=.int .i64 k∧Hid ((ts.take k).all tagOk=true)∧Hid (Below w.heap.size w wr)) (fun z _=>len-(intOf z).toNat)
   case atStart=>exact ⟨0,by omega,rfl,hid_intro (by simp),HB1⟩
   case round =>
    obtain ⟨k,hk,rfl,HK,HB⟩:=hrel
    by_cases hlt:k<len
    ·have hlt2:(k:Int)<(len:Int):=by omega
     have hkl:k<ts.length:=by have:=HL.out;omega
     obtain ⟨b,off,rfl,hbl,c0⟩:=(HI.out.below HB.out).at k hkl
     have hsz:=HS.out _ (getD_mem (z:=tz) ts k hkl)
     have HT:=hid_intro (fun w=>EvtR.impl_tag (ts.getD k tz) w hsz)
     have HNO:=hid_intro (fun h=>all_no (z:=tz) (xs:=ts) tagOk hkl h)
     have HGO:Hid (tagOk (ts.getD k tz)=true→(ts.take (k+1)).all tagOk=true):=hid_intro (fun h=>by rw [all_take (z:=tz) _ k hkl,HK.out,h];rfl)
     have HTO:Hid (tagOk (ts.getD k tz)=(decide (1≤(ts.getD k tz).size)&&EvtR.tagB (ts.getD k tz))):=rfl
     generalize tagOk (ts.getD k tz)=q at *
     generalize ts.getD k tz=X at *
     by_cases hi:X.size=0
     ·have he:=EvtR.empty_of X hi
      have HF:Hid (R=false):=hid_intro (by rw [HE.out];exact HNO.out (by rw [HTO.out,decide_eq_false (by omega),Bool.false_and]))
      go_wp2_with fail
      go_ret
      exact ⟨ret_bool HF.out.symm,HB.out⟩
     ·obtain ⟨he,he2⟩:=EvtR.full_of X hi
      have HTO2:Hid (q=EvtR.tagB X):=hid_intro (by rw [HTO.out,decide_eq_true (by omega),Bool.true_and])
      generalize EvtR.tagB X=g at *
      cases g
      ·have HF:Hid (R=false):=hid_intro (by rw [HE.out];exact HNO.out HTO2.out)
       go_wp2_with fail
       refine (HT.out _).mono ?_
       rintro e w2 ⟨rfl,hb2⟩
       have HB2:=hid_intro (HB.out.trans (hb2.mono HB.out.size))
       clear hb2 c0
       go_wp2_with fail
       go_ret
       exact ⟨ret_bool HF.out.symm,HB2.out⟩
      ·have HG:=hid_intro (HGO.out HTO2.out)
       go_wp2_with fail
       refine (HT.out _).mono ?_
       rintro e w2 ⟨rfl,hb2⟩
       have HB2:=hid_intro (HB.out.trans (hb2.mono HB.out.size))
       clear hb2 c0
       go_wp2_with fail
       go_roundw
       case rel=>exact ⟨k+1,by omega,by go_num,HG,HB2⟩
       case measure=>simp [intOf];omega
    ·have hlt2:¬(k:Int)<(len:Int):=by omega
     obtain rfl:k=len:=by omega
     have HF:Hid (R=true):=hid_intro (by
      rw [HE.out]
      have h:=HK.out
      rwa [List.take_of_length_le (by have:=HL.out;omega)] at h)
     go_wp2_with fail
     go_ret
     exact ⟨ret_bool HF.out.symm,HB.out⟩
end WinR
namespace WinR
open RowG LtR
open CatR (Blk Blk.new)
open DateR (Laid)
theorem timed_few {hs:List H} {mo su:Int} (h:¬(1≤hs.length∧hs.length≤12)):timedB hs mo su=false:=by unfold timedB;rw [decide_eq_false h,Bool.false_and]
theorem timed_in {hs:List H} {mo su:Int} (h:1≤hs.length∧hs.length≤12):timedB hs mo su=hoursB hs mo su:=by unfold timedB;rw [decide_eq_true h,Bool.true_and]
set_option maxRecDepth 100000 in
set_option maxHeartbeats 8000000 in
theorem impl_timed (a m:ByteArray) (mo ev su mx:Int) (hs:List H) (tv:Value) (ha:Option Addr) (hc:Nat) (w:World) (hlen:hs.length≤1048576) (hsu:0≤su∧su≤1000000000000) (hL:Laid w) (hI:Hrs ha hs w) :
 Calls Tryz.prog 199 #[.agg #[.string a,.string m,.int .i64 mo,.int .i64 ev,.int .i64 su,.int .i64 mx,tv,.func (.func 215) #[] #[],.func (.func 216) #[] #[],.slice ha hs.length hc,.func (.func 217) #[] #[],.func (.func 218) #[] #[]]] w fun e w'=>e=.returned (.bool (timedB hs mo su))∧Below w.heap.size w w':=by
 have HI:=hid_intro hI
 have HLA:=hid_intro hL
 have HFEW:=hid_intro (timed_few (hs:=hs) (mo:=mo) (su:=su))
 have HIN:=hid_intro (timed_in (hs:=hs) (mo:=mo) (su:=su))
 have HRI:=hid_intro (hours_rise (hs:=hs) (mo:=mo) (su:=su))
 have HEN:=hid_intro (hours_end (hs:=hs) (mo:=mo) (su:=su))
 have HNO:=hid_intro (fun k=>hours_no (hs:=hs) (mo:=mo) (su:=su) (k:=k))
 have HC:=hid_intro (fun W (hW:Below w.heap.size w W)=>hours_rises ha hc hs W hlen (hI.below hW))
 have HWI:=hid_intro (fun w=>withinI hs.length 1 12 w)
 generalize timedB hs mo su=R at *
 generalize hoursB hs mo su=Q at *
 generalize riseB hlt H.zero hs=r at *
 obtain ⟨len,hl⟩:∃len,len=hs.length:=⟨_,rfl⟩
 rw [←hl] at hlen HFEW HIN HC HWI ⊢
 have HL:=hid_intro hl
 obtain ⟨hs0,hs1⟩:=hsu
 clear hI hl hL
 have HB0:Hid (Below w.heap.size w (w.alloc (.cells #[.string a,.string m,.int .i64 mo,.int .i64 ev,.int .i64 su,.int .i64 mx,tv,.func (.func 215) #[] #[],.func (.func 216) #[] #[],.slice ha len hc,.func (.func 217) #[] #[],.func (.func 218) #[] #[]] 245))):=hid_intro ((Below.refl _ _).alloc (Nat.le_refl _) _)
 have HX0:=hid_intro (Blk.new w [.string a,.string m,.int .i64 mo,.int .i64 ev,.int .i64 su,.int .i64 mx,tv,.func (.func 215) #[] #[],.func (.func 216) #[] #[],.slice ha len hc,.func (.func 217) #[] #[],.func (.func 218) #[] #[]] 245)
 by_cases h12:1≤len∧len≤12
 ·rw [decide_eq_true (show (1:Int)≤(len:Int)∧(len:Int)≤12 by omega)] at HWI
  have HRQ:=hid_intro (HIN.out h12)
  cases r
  ·have HF:Hid (R=false):=hid_intro (by rw [HRQ.out];exact HRI.out rfl)
   clear HX0 HRI HEN HNO HFEW HIN
   go_enter Tryz.func199,Tryz.ntmps199
   go_wp2_with fail
   refine (HWI.out _).mono ?_
   rintro e w1 ⟨rfl,rfl⟩
   go_wp2_with fail
   refine (HC.out _ HB0.out).mono ?_
   rintro e w2 ⟨rfl,hb1⟩
   have HB1:=hid_intro (HB0.out.trans (hb1.mono HB0.out.size))
   clear hb1
   go_wp2_with fail
   go_ret
   exact ⟨ret_bool HF.out.symm,HB1.out⟩
  ·have HE:=hid_intro (HEN.out rfl)
   clear HRI HEN HFEW HIN
   go_enter Tryz.func199,Tryz.ntmps199
   go_wp2_with fail
   refine (HWI.out _).mono ?_
   rintro e w1 ⟨rfl,rfl⟩
   go_wp2_with fail
   refine (HC.out _ HB0.out).mono ?_
   rintro e w2 ⟨rfl,hb1⟩
   have HB1:=hid_intro (HB0.out.trans (hb1.mono HB0.out.size))
   have HX1:=hid_intro (HX0.out.below hb1)
   clear hb1 HB0 HX0
   obtain ⟨xl,xc⟩:=HX1.out
   have x2:w2.cell? ⟨w.heap.size,2,none⟩=some (.int .i64 mo):=xc 2 (by simp)
   have x4:w2.cell? ⟨w.heap.size,4,none⟩=some (.int .i64 su):=xc 4 (by simp)
   have x9:w2.cell? ⟨w.heap.size,9,none⟩=some (.slice ha len hc):=xc 9 (by simp)
   clear xc
   go_wp2_with fail
   go_loopw [3,25] (fun y z wr=>∃k:Nat,k≤len∧y=.int .i64 (su-hsum (hs.take k))∧z=.int .i64 k∧Hid (HUp hs mo su k)∧Hid (Below w.heap.size w wr)∧Hid (w.heap.size<wr.heap.size∧wr.cell? ⟨w.heap.size,2,none⟩=some (.int .i64 mo))) (fun y z _=>len-(intOf z).toNat)
   case atStart=>exact ⟨0,by omega,by simp [hsum],rfl,hid_intro (HUp.zero _ _ _),HB1,hid_intro ⟨xl,x2⟩⟩
   case round =>
    obtain ⟨k,hk,rfl,rfl,HK,HB,HX⟩:=hrel
    clear x2 x4 x9 xl
    obtain ⟨xl,x2⟩:=HX.out
    by_cases hlt1:k<len
    ·have hlt2:(k:Int)<(len:Int):=by omega
     have hkl:k<hs.length:=by have:=HL.out;omega
     obtain ⟨b,off,rfl,hbl,c0,c1⟩:=(HI.out.below HB.out).at k hkl
     have HN:=hid_intro (HNO.out k hkl)
     have HM:=hid_intro (fun h1 h2 h3=>HK.out.more h1 h2 h3)
     have HST:=hid_intro (hsum_take hs k hkl)
     have HSN:=hid_intro (HK.out.nn (by omega))
     have HHO:=hid_intro (fun W hW=>impl_hour_of (hs.getD k H.zero).h mo W hW)
     have HWS:=hid_intro (fun w=>EvtR.within_any (hs.getD k H.zero).s 0 (su-hsum (hs.take k)) w)
     have hq0:0≤su-hsum (hs.take k)∨su-hsum (hs.take k)<0:=by omega
     have hq1:su-hsum (hs.take k)≤1000000000000:=by have:=HSN.out;omega
     generalize hourIn (hs.getD k H.zero).h mo=g at *
     generalize hs.getD k H.zero=X at *
     obtain ⟨xh,xs⟩:=X
     dsimp only at c0 c1 HHO HWS HM HN HST
     generalize hT:hsum (hs.take k)=T at *
     have HLA2:=hid_intro ((HLA.out.below HB.out).below ((Below.refl wr.heap.size wr).alloc (Nat.le_refl _) (Obj.cells #[.int .i64 xh,.int .i64 xs] 174)))
     have HBX:=hid_intro (HB.out.alloc HB.out.size (Obj.cells #[.int .i64 xh,.int .i64 xs] 174))
     have HZ:=hid_intro (Blk.new wr [.int .i64 xh,.int .i64 xs] 174)
     cases g
     ·have HF:Hid (R=false):=hid_intro (by rw [HRQ.out];exact HN.out (fun h=>by cases h.1))
      go_wp2_with fail
      refine (HHO.out _ HLA2.out).mono ?_
      rintro e w3 ⟨rfl,hb3⟩
      have HB3:=hid_intro (HBX.out.trans (hb3.mono HBX.out.size))
      clear hb3
      go_wp2_with fail
      go_ret
      exact ⟨ret_bool HF.out.symm,HB3.out⟩
     ·go_wp2_with fail
      refine (HHO.out _ HLA2.out).mono ?_
      rintro e w3 ⟨rfl,hb3⟩
      have HB3:=hid_intro (HBX.out.trans (hb3.mono HBX.out.size))
      have HZ3:=hid_intro (HZ.out.below hb3)
      have HX3:Hid (w.heap.size<w3.heap.size∧w3.cell? ⟨w.heap.size,2,none⟩=some (.int .i64 mo)):=hid_intro (by
       have hc:=hb3.cell (p:=⟨w.heap.size,2,none⟩) (by simp;omega)
       have:=hb3.size
       simp at this
       exact ⟨by omega,(hc.trans (((Below.refl wr.heap.size wr).alloc (Nat.le_refl _) _).cell (p:=⟨w.heap.size,2,none⟩) xl)).trans x2⟩)
      clear hb3 HZ HBX
      obtain ⟨zl,zc⟩:=HZ3.out
      have z1:w3.cell? ⟨wr.heap.size,1,none⟩=some (.int .i64 xs):=zc 1 (by simp)
      clear zc c0 c1 x2
      by_cases hin:0≤xs∧xs≤su-T
      ·rw [decide_eq_true hin] at HWS
       have HM2:=hid_intro (HM.out (by first|rfl|trivial) hin.1 hin.2)
       obtain ⟨hin1,hin2⟩:=hin
       go_wp2_with fail
       refine (HWS.out _).mono ?_
       rintro e w4 ⟨rfl,rfl⟩
       go_wp2_with fail
       go_roundw
       case rel=>exact ⟨k+1,by omega,by rw [HST.out];congr 1;omega,by go_num,HM2,HB3,HX3⟩
       case measure=>simp [intOf];omega
      ·rw [decide_eq_false hin] at HWS
       have HF:Hid (R=false):=hid_intro (by rw [HRQ.out];exact HN.out (fun h=>hin h.2))
       go_wp2_with fail
       refine (HWS.out _).mono ?_
       rintro e w4 ⟨rfl,rfl⟩
       go_wp2_with fail
       go_ret
       exact ⟨ret_bool HF.out.symm,HB3.out⟩
    ·have hlt2:¬(k:Int)<(len:Int):=by omega
     obtain rfl:k=len:=by omega
     have HF:Hid (R=decide (su-hsum (hs.take k)=0)):=hid_intro (by
      rw [HRQ.out,HE.out (by rw [←HL.out];exact HK.out),List.take_of_length_le (by have:=HL.out;omega)])
     generalize hsum (hs.take k)=T at *
     by_cases hz:su-T=0
     ·rw [decide_eq_true hz] at HF
      go_wp2_with fail
      go_ret
      exact ⟨ret_bool (by rw [HF.out];try simp [hz]),HB.out⟩
     ·rw [decide_eq_false hz] at HF
      go_wp2_with fail
      go_ret
      exact ⟨ret_bool (by rw [HF.out];try simp [hz]),HB.out⟩
 ·rw [decide_eq_false (show ¬((1:Int)≤(len:Int)∧(len:Int)≤12) by omega)] at HWI
  have HF:=hid_intro (HFEW.out h12)
  clear HX0 HC HRI HEN HNO HFEW HIN
  go_enter Tryz.func199,Tryz.ntmps199
  go_wp2_with fail
  refine (HWI.out _).mono ?_
  rintro e w1 ⟨rfl,rfl⟩
  go_wp2_with fail
  go_ret
  exact ⟨ret_bool HF.out.symm,HB0.out⟩
end WinR
end Go.Proofs.YtmalfhhkjdkadaaGreatDoor
