/-
  What the model calls right tiers.
  The law's own helpers over tiers and meters: their sizes, copies, and two held against each other.
  The law's own helpers over a meter: its size, its copy, two held against each other.
  The law's own helpers over a list of meters: their size, copies, two held against each other.
  The conditions stand in what each theorem says.
-/
import Derived.OwnWalk
import Derived.Deep.RegionWith
import Derived.Test.YtnceeaccbcfopaaGreatDoorT6
set_option maxRecDepth 100000
set_option maxHeartbeats 16000000
namespace Go.Proofs.YtnceeaccbcfopaaGreatDoor
open Go.ChangeShapes Go.WideShapes Go.ChangeAt Go.RowKit
set_option linter.unusedVariables false
namespace CatR
theorem bdrewN {B:Nat} {a w:World} (h:Below B a w) (n:Nat):Below B a (w.drewN n):=⟨h.os,h.tape,h.output,h.size,h.block⟩
theorem spec_tiers (ao:Option Addr) (len cap:Nat) (ts:List Ti) (w:World) (hlen:len≤1048576) (hI:Tis ao len ts w) :
 Calls Tryz.prog 151 #[.slice ao len cap] w fun e w'=>e=.returned (.bool (tB ts))∧Below w.heap.size w w':=by
 have hz:=hI.1
 by_cases h15:1≤len∧len≤5
 ·obtain ⟨h1,h5⟩:=h15
  have g1:¬(len:Int)<1:=by omega
  have g5:¬(5:Int)<(len:Int):=by omega
  have HI:=H_ hI
  have HZ:=H_ hz
  have HT0:=H_ (fun k (hk:k<ts.length)=>tB_false (ts:=ts) hk)
  have HT1:=H_ (fun k (hk:k<ts.length)=>tB_over (ts:=ts) hk)
  have HTE:=H_ (fun h=>tB_end (ts:=ts) (by omega) (by omega) h)
  generalize tB ts=R at *
  clear hI hz
  go_enter Tryz.func151,Tryz.ntmps151
  go_wp2_with fail
  go_loopw [4] (fun z wr=>∃k:Nat,k≤len∧z=.int .i64 k∧Hid (TOk ts k)∧Hid (Below w.heap.size w wr)) (fun z _=>len-(intOf z).toNat)
  case atStart=>exact ⟨0,by omega,rfl,H_ (TOk.zero ts),H_ (Below.refl _ _)⟩
  case round =>
   obtain ⟨k,hk,rfl,HK,HB⟩:=hrel
   by_cases hlt:k<len
   ·have hlt2:(k:Int)<(len:Int):=by omega
    obtain ⟨b,off,rfl,hbl,d0,d1⟩:=tis_at (HI.out.below HB.out) k hlt
    have c0:wr.cell? ⟨b,off+k*2,none⟩=some (.int .i64 (tU ts k)):=d0
    have c1:wr.cell? ⟨b,off+k*2+1,none⟩=some (.int .i64 (tP ts k)):=d1
    clear d0 d1
    have HT:=H_ (HT0.out k (by have:=HZ.out;omega))
    have HO:=H_ (HT1.out k (by have:=HZ.out;omega))
    have HM:=H_ (fun h1 h2 h3=>HK.out.more (k:=k) h1 h2 h3)
    have HA1:=H_ (HK.out.rise k (Nat.le_refl _)).1
    rcases (show k=0∨∃j,k=j+1 from by rcases k with _|j;exact .inl rfl;exact .inr ⟨j,rfl⟩) with rfl|⟨j,hkj⟩
    ·have HA:Hid (tA ts 0=0):=rfl
     simp only [Nat.zero_mul,Nat.add_zero] at c0 c1
     have HW1:=H_ (fun w=>isS (tU ts 0) 1 1000000000000 w)
     have HW2:=H_ (fun w=>isS (tP ts 0) 0 1000000 w)
     generalize tA ts 0=A at *
     generalize tU ts 0=U at *
     generalize tP ts 0=P at *
     rcases (show (¬(1≤U∧U≤1000000000000))∨((1≤U∧U≤1000000000000)∧¬(0≤P∧P≤1000000))∨((1≤U∧U≤1000000000000)∧(0≤P∧P≤1000000)) by omega) with q|⟨q,q2⟩|⟨q,q2⟩
     ·have HR:Hid (R=false):=H_ (HO.out q)
      rw [decide_eq_false q] at HW1
      go_wp2_with fail
      go_quiet ((first|(go_at_call_of 63 (Value.int .i64 U);exact Calls.quiet_of_same (HW1.out _))|(go_at_call_of 63 (Value.int .i64 P);exact Calls.quiet_of_same (HW2.out _))))
      go_wp2_with fail
      go_ret
      exact ⟨ret_bool HR.out.symm,bdrewN HB.out _⟩
     ·have HR:Hid (R=false):=H_ (HT.out (fun h=>q2 h.2))
      rw [decide_eq_false q2] at HW2
      rw [decide_eq_true q] at HW1
      go_wp2_with fail
      go_quiet ((first|(go_at_call_of 63 (Value.int .i64 U);exact Calls.quiet_of_same (HW1.out _))|(go_at_call_of 63 (Value.int .i64 P);exact Calls.quiet_of_same (HW2.out _))))
      go_wp2_with fail
      go_ret
      exact ⟨ret_bool HR.out.symm,bdrewN HB.out _⟩
     ·have HM2:=H_ (HM.out (by have:=HA.out;omega) q2.1 q2.2)
      rw [decide_eq_true q2] at HW2
      rw [decide_eq_true q] at HW1
      go_wp2_with fail
      go_quiet ((first|(go_at_call_of 63 (Value.int .i64 U);exact Calls.quiet_of_same (HW1.out _))|(go_at_call_of 63 (Value.int .i64 P);exact Calls.quiet_of_same (HW2.out _))))
      go_wp2_with fail
      go_roundw
      case rel=>exact ⟨0+1,by omega,by go_num,HM2,H_ (bdrewN HB.out _)⟩
      case measure=>simp [intOf];omega
    ·obtain ⟨b',off',hbo,hbl',d0,d1⟩:=tis_at (HI.out.below HB.out) j (by omega)
     obtain ⟨rfl,rfl⟩:b=b'∧off=off':=by simpa using hbo
     have c2:wr.cell? ⟨b,off+j*2,none⟩=some (.int .i64 (tU ts j)):=d0
     clear d0 d1 hbl' hbo
     have HA:Hid (tA ts k=tU ts j):=H_ (by rw [hkj];rfl)
     have HW1:=H_ (fun w=>isS (tU ts k) 1 1000000000000 w)
     have HW2:=H_ (fun w=>isS (tP ts k) 0 1000000 w)
     generalize tA ts k=A at *
     generalize tU ts k=U at *
     generalize tU ts j=V at *
     generalize tP ts k=P at *
     have hj1:IntKind.i64.wrap ((k:Int)-1)=(j:Int):=by rw [IntKind.wrap_i64];omega
     have hj2:0<k:=by omega
     have hj3:(j:Int)<(len:Int):=by omega
     clear hkj
     rcases (show (¬(1≤U∧U≤1000000000000))∨((1≤U∧U≤1000000000000)∧U≤V)∨((1≤U∧U≤1000000000000)∧¬U≤V∧¬(0≤P∧P≤1000000))∨((1≤U∧U≤1000000000000)∧¬U≤V∧(0≤P∧P≤1000000)) by omega) with q|⟨q,q1⟩|⟨q,q1,q2⟩|⟨q,q1,q2⟩
     ·have HR:Hid (R=false):=H_ (HO.out q)
      rw [decide_eq_false q] at HW1
      go_wp2_with fail
      go_quiet ((first|(go_at_call_of 63 (Value.int .i64 U);exact Calls.quiet_of_same (HW1.out _))|(go_at_call_of 63 (Value.int .i64 P);exact Calls.quiet_of_same (HW2.out _))))
      go_wp2_with fail
      go_ret
      exact ⟨ret_bool HR.out.symm,bdrewN HB.out _⟩
     ·have HR:Hid (R=false):=H_ (HT.out (fun h=>by have:=h.1;have:=HA.out;omega))
      rw [decide_eq_true q] at HW1
      go_wp2_with fail
      go_quiet ((first|(go_at_call_of 63 (Value.int .i64 U);exact Calls.quiet_of_same (HW1.out _))|(go_at_call_of 63 (Value.int .i64 P);exact Calls.quiet_of_same (HW2.out _))))
      go_wp2_with fail
      go_ret
      exact ⟨ret_bool HR.out.symm,bdrewN HB.out _⟩
     ·have HR:Hid (R=false):=H_ (HT.out (fun h=>q2 h.2))
      rw [decide_eq_false q2] at HW2
      rw [decide_eq_true q] at HW1
      go_wp2_with fail
      go_quiet ((first|(go_at_call_of 63 (Value.int .i64 U);exact Calls.quiet_of_same (HW1.out _))|(go_at_call_of 63 (Value.int .i64 P);exact Calls.quiet_of_same (HW2.out _))))
      go_wp2_with fail
      go_ret
      exact ⟨ret_bool HR.out.symm,bdrewN HB.out _⟩
     ·have HM2:=H_ (HM.out (by have:=HA.out;omega) q2.1 q2.2)
      rw [decide_eq_true q2] at HW2
      rw [decide_eq_true q] at HW1
      go_wp2_with fail
      go_quiet ((first|(go_at_call_of 63 (Value.int .i64 U);exact Calls.quiet_of_same (HW1.out _))|(go_at_call_of 63 (Value.int .i64 P);exact Calls.quiet_of_same (HW2.out _))))
      go_wp2_with fail
      go_roundw
      case rel=>exact ⟨k+1,by omega,by go_num,HM2,H_ (bdrewN HB.out _)⟩
      case measure=>simp [intOf];omega
   ·obtain rfl:k=len:=by omega
    have HR:Hid (R=decide (tA ts k=1000000000000)):=H_ (by have h:=HTE.out;rw [HZ.out] at h;exact h HK.out)
    obtain ⟨j,hkj⟩:∃j,k=j+1:=⟨k-1,by omega⟩
    obtain ⟨b,off,rfl,hbl,d0,d1⟩:=tis_at (HI.out.below HB.out) j (by omega)
    have c2:wr.cell? ⟨b,off+j*2,none⟩=some (.int .i64 (tA ts k)):=by rw [hkj];exact d0
    clear d0 d1
    have hj1:(k:Int)-1=(j:Int):=by omega
    have hj3:(j:Int)<(k:Int):=by omega
    clear hkj
    generalize tA ts k=A at *
    by_cases q:A=1000000000000
    ·rw [decide_eq_true q] at HR
     go_wp2_with fail
     try go_quiet (fail)
     try go_wp2_with fail
     go_ret
     exact ⟨ret_bool (by rw [HR.out];try simp [q]),by first|exact HB.out|exact bdrewN HB.out _⟩
    ·rw [decide_eq_false q] at HR
     go_wp2_with fail
     try go_quiet (fail)
     try go_wp2_with fail
     go_ret
     exact ⟨ret_bool (by rw [HR.out];try simp [q]),by first|exact HB.out|exact bdrewN HB.out _⟩
 ·have HR:Hid (tB ts=false):=H_ (tB_no (fun h=>by have:=h.1;have:=h.2.1;omega))
  have g:(len:Int)<1∨(¬(len:Int)<1∧(5:Int)<(len:Int)):=by omega
  clear hI hz
  rcases g with g|⟨g,g2⟩
  all_goals
   go_enter Tryz.func151,Tryz.ntmps151
   go_wp2_with fail
   go_ret
   exact ⟨ret_bool HR.out.symm,Below.refl _ _⟩
end CatR
namespace CatR
open EvtR (Pt cell_put cell_far)
theorem infoT:(Tryz.prog.info? 248).map (fun i=>(i.zero,i.size,i.bytes))=some (some (.agg #[.int .i64 0,.int .i64 0]),2,16):=by kernel_rfl
theorem pt_row {w:World} {g m:Nat} {cs:List Value} {T:TypeId} (hh:w.heap[g]? = some (.cells cs.toArray T (0,0))) (hl:cs.length=m):Pt g m w where
 lt:=(Array.getElem?_eq_some_iff.1 hh).1
 has:=fun o ho=>⟨cs[o]'(by omega),by simp [World.cell?,hh,hl,ho]⟩
 free:=fun o ho=>by simp [World.frozen?,hh]
theorem row_full {w:World} {base e g n s:Nat} {xs:List Value} (h:w.ownsRow base e s (.slice (some ⟨g,0,none⟩) n n) n xs):Pt g (n*s) w:=by
 rcases h.2 with ⟨h1,_⟩|⟨g',cap,cur,h1,_,hg,_,_,hs,_⟩
 ·simp at h1
 ·simp at h1
  obtain ⟨rfl,rfl⟩:=h1
  exact pt_row (cs:=cur.toList) (by simpa using hg) (by simpa using hs)
theorem toTier_any (u p:Int) (w:World):Calls Tryz.prog 195 #[.agg #[.int .i64 u,.int .i64 p]] w fun e w'=>e=.returned (.agg #[.int .i64 u,.int .i64 p])∧Below w.heap.size w w':=by
 go_enter Tryz.func195,Tryz.ntmps195
 go_wp2_with fail
 refine bodyPost_ret (v:=.agg #[.int .i64 u,.int .i64 p]) (by simp [results,Tryz.results195,go_sem]) rfl ⟨rfl,?_⟩
 repeat' first|exact Below.refl _ _|apply Below.setCell|apply Below.alloc
 all_goals first|omega|(simp;done)|(simp;omega)
theorem tis_set {w wr:World} {g n k:Nat} {ts:List Ti} (hp:Pt g (n*2) wr) (hk:k<n) (ha:∀i,i<k→TiAt wr g (i*2) (ts.getD i Ti.zero)) :
 Pt g (n*2) ((wr.setCell ⟨g,k*2,none⟩ (.int .i64 (ts.getD k Ti.zero).u)).setCell ⟨g,k*2+1,none⟩ (.int .i64 (ts.getD k Ti.zero).p))∧∀i,i<k+1→TiAt ((wr.setCell ⟨g,k*2,none⟩ (.int .i64 (ts.getD k Ti.zero).u)).setCell ⟨g,k*2+1,none⟩ (.int .i64 (ts.getD k Ti.zero).p)) g (i*2) (ts.getD i Ti.zero):=by
 refine ⟨(hp.set _ _).set _ _,fun i hi=>?_⟩
 by_cases e:i=k
 ·subst e
  exact ⟨(cell_far _ _ (by omega) _).trans (cell_put hp _ (by omega) _),cell_put (hp.set _ _) _ (by omega) _⟩
 ·have h:=ha i (by omega)
  exact ⟨((cell_far _ _ (by omega) _).trans (cell_far _ _ (by omega) _)).trans h.1,((cell_far _ _ (by omega) _).trans (cell_far _ _ (by omega) _)).trans h.2⟩
theorem toTis_any (ao:Option Addr) (len cap:Nat) (ts:List Ti) (w:World) (hlen:len≤1048576) (hI:Tis ao len ts w) :
 Calls Tryz.prog 159 #[.slice ao len cap] w fun e w'=>e=.returned (.slice (some ⟨w.heap.size,0,none⟩) len len)∧Tis (some ⟨w.heap.size,0,none⟩) len ts w'∧Pt w.heap.size (len*2) w'∧Below w.heap.size w w':=by
 obtain ⟨i0,hi,hz0,hz1,hz2⟩:=info_parts infoT
 have HI:=H_ hI
 clear hI
 go_enter Tryz.func159,Tryz.ntmps159
 go_wp2_with (at_make;refine wpList_make_full _ rfl _ _ 148 rfl w.heap.size 248 i0 (.agg #[.int .i64 0,.int .i64 0]) 2 Tryz.underlying148 hi hz0 hz1 .i64 .i64 _ _ len rfl rfl rfl rfl ?b2 ?b3 ?b4 ?_)
 case b2=>rw [hz2];omega
 case b3=>unfold maxLen;omega
 case b4=>exact Nat.le_refl _
 intro wm hown hgrow
 have HP:=H_ (row_full hown)
 have HB:Hid (Below w.heap.size w wm):=H_ ((Below.refl _ _).grown hgrow (Nat.le_refl _) (fun k e=>by cases e))
 clear hown hgrow hi hz0 hz1 hz2
 go_wp2_with fail
 go_loopw [4] (fun z wr=>∃k:Nat,k≤len∧z=.int .i64 k∧Hid (Below w.heap.size w wr)∧Hid (Pt w.heap.size (len*2) wr)∧Hid (∀i,i<k→TiAt wr w.heap.size (i*2) (ts.getD i Ti.zero))) (fun z _=>len-(intOf z).toNat)
 case atStart=>exact ⟨0,by omega,rfl,HB,HP,H_ (fun i hi=>absurd hi (by omega))⟩
 case round =>
  obtain ⟨k,hk,rfl,HB,HP,HA⟩:=hrel
  by_cases hlt:k<len
  ·have hlt2:(k:Int)<(len:Int):=by omega
   obtain ⟨b,off,rfl,hbl,c0,c1⟩:=tis_at (HI.out.below HB.out) k hlt
   have HS:=H_ (fun W hp ha=>tis_set (w:=w) (wr:=W) (g:=w.heap.size) (n:=len) (k:=k) (ts:=ts) hp hlt ha)
   generalize (ts.getD k Ti.zero)=X at *
   obtain ⟨u,p⟩:=X
   have HC:=H_ (fun w=>toTier_any u p w)
   have HS:Hid (∀W,Pt w.heap.size (len*2) W→(∀i,i<k→TiAt W w.heap.size (i*2) (ts.getD i Ti.zero))→Pt w.heap.size (len*2) ((W.setCell ⟨w.heap.size,k*2,none⟩ (.int .i64 u)).setCell ⟨w.heap.size,k*2+1,none⟩ (.int .i64 p))∧∀i,i<k+1→TiAt ((W.setCell ⟨w.heap.size,k*2,none⟩ (.int .i64 u)).setCell ⟨w.heap.size,k*2+1,none⟩ (.int .i64 p)) w.heap.size (i*2) (ts.getD i Ti.zero)):=HS
   go_wp2_with fail
   refine (HC.out _).mono ?_
   rintro e w1 ⟨rfl,hb⟩
   have HP1:=H_ (HP.out.below hb)
   have HA1:Hid (∀i,i<k→TiAt w1 w.heap.size (i*2) (ts.getD i Ti.zero)):=H_ (fun i hi=>(HA.out i hi).below HP.out.lt hb)
   have HB1:=HT_ HB hb
   have HS1:=H_ (HS.out _ HP1.out HA1.out)
   obtain ⟨v0,d0⟩:=HP1.out.has (k*2) (by omega)
   obtain ⟨v1,d1⟩:=HP1.out.has (k*2+1) (by omega)
   have z0:=HP1.out.free (k*2) (by omega)
   have z1:=HP1.out.free (k*2+1) (by omega)
   clear hb c0 c1
   go_wp2_with fail
   go_roundw
   case rel=>exact ⟨k+1,by omega,by go_num,H_ ((HB1.out.setCell (Nat.le_refl _) _).setCell (Nat.le_refl _) _),H_ HS1.out.1,H_ HS1.out.2⟩
   case measure=>simp [intOf];omega
  ·have hlt2:¬(k:Int)<(len:Int):=by omega
   obtain rfl:k=len:=by omega
   go_wp2_with fail
   go_ret
   exact ⟨rfl,⟨HI.out.1,.inr ⟨w.heap.size,0,rfl,HP.out.lt,fun j hj=>by rw [Nat.zero_add];exact HA.out j hj⟩⟩,HP.out,HB.out⟩
end CatR
namespace CatR
open EvtR (Pt cell_put cell_far)
theorem szTis_any (ao:Option Addr) (len cap:Nat) (left:Int) (hm:len≤maxLen) (h0:0≤left) (h1:left≤1048576) (w:World) :
 Calls Tryz.prog 149 #[.slice ao len cap,.int .i64 left] w fun e w'=>e=.returned (.int .i64 (if (len:Int)≤left then left-len else -1))∧Below w.heap.size w w':=by
 unfold maxLen at hm
 by_cases h:(len:Int)≤left
 ·rw [if_pos h]
  have g:¬left-(len:Int)<0:=by omega
  go_enter Tryz.func149,Tryz.ntmps149
  go_wp2_with fail
  go_ret
  exact ⟨rfl,Below.refl _ _⟩
 ·rw [if_neg h]
  have g:left-(len:Int)<0:=by omega
  go_enter Tryz.func149,Tryz.ntmps149
  go_wp2_with fail
  go_ret
  exact ⟨rfl,Below.refl _ _⟩
def szM (m:Me):Int:=m.n.size+m.ts.length
theorem szMe_any (v:Value) (m:Me) (left:Int) (w:World) (hn:m.n.size≤maxLen) (hm:m.ts.length≤maxLen) (h0:0≤left) (h1:left≤1048576) (hM:∃ta tc,v=.agg #[.string m.n,.int .i64 m.g,.bool m.wh,.int .i64 m.f,.int .i64 m.l,.slice ta m.ts.length tc]) :
 Calls Tryz.prog 98 #[v,.int .i64 left] w fun e w'=>e=.returned (.int .i64 (if szM m≤left then left-szM m else -1))∧Below w.heap.size w w':=by
 obtain ⟨ta,tc,rfl⟩:=hM
 obtain ⟨n,g,wh,f,l,ts⟩:=m
 simp only at *
 have e:szM ⟨n,g,wh,f,l,ts⟩=n.size+ts.length:=rfl
 rw [e]
 clear e
 have HB:Hid (Below w.heap.size w (w.alloc (.cells #[.string n,.int .i64 g,.bool wh,.int .i64 f,.int .i64 l,.slice ta ts.length tc] 141))):=H_ (al_ _ _)
 have HC:=H_ (fun L h0 h1 W=>szTis_any ta ts.length tc L hm h0 h1 W)
 generalize ts.length=tl at *
 unfold maxLen at *
 by_cases h:(n.size:Int)≤left
 ·have g1:¬left-(n.size:Int)<0:=by omega
  have HC2:=H_ (HC.out (left-(n.size:Int)) (by omega) (by omega))
  obtain ⟨L,hL⟩:∃L,L=left-(n.size:Int):=⟨_,rfl⟩
  by_cases h2:(tl:Int)≤left-(n.size:Int)
  ·rw [if_pos h2] at HC2
   rw [if_pos (by omega)]
   have g2:¬left-(n.size:Int)-(tl:Int)<0:=by omega
   have HV:Hid (left-(n.size:Int)-(tl:Int)=left-((n.size:Int)+(tl:Int))):=H_ (by omega)
   clear HC hL
   go_enter Tryz.func98,Tryz.ntmps98
   go_wp2_with (go_at_call 149;refine (HC2.out _).mono ?_;rintro e w1 ⟨rfl,hb⟩)
   go_ret
   exact ⟨ret_int HV.out,bel_alloc hb⟩
  ·rw [if_neg h2] at HC2
   rw [if_neg (by omega)]
   clear HC hL
   go_enter Tryz.func98,Tryz.ntmps98
   go_wp2_with (go_at_call 149;refine (HC2.out _).mono ?_;rintro e w1 ⟨rfl,hb⟩)
   go_ret
   exact ⟨rfl,bel_alloc hb⟩
 ·have g1:left-(n.size:Int)<0:=by omega
  rw [if_neg (by omega)]
  go_enter Tryz.func98,Tryz.ntmps98
  go_wp2_with fail
  go_ret
  exact ⟨rfl,HB.out⟩
theorem far_block (w:World) (b o:Nat) (v:Value) (k:Nat) (hk:b≠k):(w.setCell ⟨b,o,none⟩ v).heap[k]? = w.heap[k]?:=by
 simp only [World.setCell]
 rw [Array.getElem?_modify,if_neg hk]
theorem _root_.Go.Proofs.YtnceeaccbcfopaaGreatDoor.EvtR.Pt.far {g m:Nat} {w:World} (h:Pt g m w) {b:Nat} (hb:b≠g) (o:Nat) (v:Value):Pt g m (w.setCell ⟨b,o,none⟩ v):=by
 have e:=far_block w b o v g hb
 exact ⟨by simpa using h.lt,fun x hx=>by obtain ⟨u,hu⟩:=h.has x hx;exact ⟨u,(World.cell?_of_block (a:=⟨g,x,none⟩) e).trans hu⟩,fun x hx=>(World.frozen?_of_block (a:=⟨g,x,none⟩) e).trans (h.free x hx)⟩
theorem Tis.far {b0 off len:Nat} {ts:List Ti} {w:World} (h:Tis (some ⟨b0,off,none⟩) len ts w) {b:Nat} (hb:b≠b0) (o:Nat) (v:Value):Tis (some ⟨b0,off,none⟩) len ts (w.setCell ⟨b,o,none⟩ v):=by
 refine ⟨h.1,?_⟩
 rcases h.2 with h0|⟨b1,off1,e,hlt,hc⟩
 ·exact .inl h0
 ·obtain ⟨rfl,rfl⟩:b0=b1∧off=off1:=by simpa using e
  have e:=far_block w b o v b0 hb
  exact .inr ⟨b0,off,rfl,by simpa using hlt,fun j hj=>⟨(World.cell?_of_block (a:=⟨b0,_,none⟩) e).trans (hc j hj).1,(World.cell?_of_block (a:=⟨b0,_,none⟩) e).trans (hc j hj).2⟩⟩
def NewMe (base:Nat) (v:Value) (m:Me) (w:World):Prop:=∃b,base≤b∧v=.agg #[.string m.n,.int .i64 m.g,.bool m.wh,.int .i64 m.f,.int .i64 m.l,.slice (some ⟨b,0,none⟩) m.ts.length m.ts.length]∧Tis (some ⟨b,0,none⟩) m.ts.length m.ts w∧Pt b (m.ts.length*2) w
theorem NewMe.is {base:Nat} {v:Value} {m:Me} {w:World} (h:NewMe base v m w):IsMe v m w:=by
 obtain ⟨b,_,h1,h2,_⟩:=h
 exact ⟨_,_,h1,h2⟩
theorem toMe_any (v:Value) (m:Me) (w:World) (hl:m.ts.length≤1048576) (hM:IsMe v m w) :
 Calls Tryz.prog 115 #[v] w fun e w'=>(∃v',e=.returned v'∧NewMe w.heap.size v' m w')∧Below w.heap.size w w':=by
 obtain ⟨ta,tc,rfl,hT⟩:=hM
 obtain ⟨n,g,wh,f,l,ts⟩:=m
 simp only at *
 have HC:Hid (∀W,Below w.heap.size w W→Calls Tryz.prog 159 #[.slice ta ts.length tc] W fun e w'=>e=.returned (.slice (some ⟨W.heap.size,0,none⟩) ts.length ts.length)∧Tis (some ⟨W.heap.size,0,none⟩) ts.length ts w'∧Pt W.heap.size (ts.length*2) w'∧Below W.heap.size W w'):=H_ (fun W hW=>toTis_any ta ts.length tc ts W hl (hT.below hW))
 have HF:Hid (∀b v w',w.heap.size≤b→v=.agg #[.string n,.int .i64 g,.bool wh,.int .i64 f,.int .i64 l,.slice (some ⟨b,0,none⟩) ts.length ts.length]→Tis (some ⟨b,0,none⟩) ts.length ts w'→Pt b (ts.length*2) w'→NewMe w.heap.size v ⟨n,g,wh,f,l,ts⟩ w'):=H_ (fun b v w' h1 h2 h3 h4=>⟨b,h1,h2,h3,h4⟩)
 clear hT hl
 generalize ts.length=tl at *
 obtain ⟨W,hW⟩:∃W,W=(((w.alloc (.cells #[.string n,.int .i64 g,.bool wh,.int .i64 f,.int .i64 l,.slice ta tl tc] 141)).alloc (.cells #[.string ⟨#[]⟩,.int .i64 0,.bool false,.int .i64 0,.int .i64 0,.slice none 0 0] 150)).alloc (.cells #[.string n,.int .i64 g,.bool wh,.int .i64 f,.int .i64 l,.slice none 0 0] 150)):=⟨_,rfl⟩
 have HW:=H_ hW
 have HBB:Hid (Below w.heap.size w W):=H_ (by rw [hW];exact ((al_ _ _).alloc (by simp) _).alloc (by simp;omega) _)
 have hWs:W.heap.size=w.heap.size+3:=by rw [hW];simp
 have a0:W.cell? ⟨w.heap.size+2,0,none⟩=some (.string n):=by rw [hW];simp [go_sem]
 have a0':W.frozen? ⟨w.heap.size+2,0,none⟩=false:=by rw [hW];simp [go_sem]
 have a1:W.cell? ⟨w.heap.size+2,1,none⟩=some (.int .i64 g):=by rw [hW];simp [go_sem]
 have a1':W.frozen? ⟨w.heap.size+2,1,none⟩=false:=by rw [hW];simp [go_sem]
 have a2:W.cell? ⟨w.heap.size+2,2,none⟩=some (.bool wh):=by rw [hW];simp [go_sem]
 have a2':W.frozen? ⟨w.heap.size+2,2,none⟩=false:=by rw [hW];simp [go_sem]
 have a3:W.cell? ⟨w.heap.size+2,3,none⟩=some (.int .i64 f):=by rw [hW];simp [go_sem]
 have a3':W.frozen? ⟨w.heap.size+2,3,none⟩=false:=by rw [hW];simp [go_sem]
 have a4:W.cell? ⟨w.heap.size+2,4,none⟩=some (.int .i64 l):=by rw [hW];simp [go_sem]
 have a4':W.frozen? ⟨w.heap.size+2,4,none⟩=false:=by rw [hW];simp [go_sem]
 have a5:W.cell? ⟨w.heap.size+2,5,none⟩=some (.slice none 0 0):=by rw [hW];simp [go_sem]
 have a5':W.frozen? ⟨w.heap.size+2,5,none⟩=false:=by rw [hW];simp [go_sem]
 have b0:W.cell? ⟨w.heap.size+1,0,none⟩=some (.string ⟨#[]⟩):=by rw [hW];simp [go_sem]
 have b0':W.frozen? ⟨w.heap.size+1,0,none⟩=false:=by rw [hW];simp [go_sem]
 have b1:W.cell? ⟨w.heap.size+1,1,none⟩=some (.int .i64 0):=by rw [hW];simp [go_sem]
 have b1':W.frozen? ⟨w.heap.size+1,1,none⟩=false:=by rw [hW];simp [go_sem]
 have b2:W.cell? ⟨w.heap.size+1,2,none⟩=some (.bool false):=by rw [hW];simp [go_sem]
 have b2':W.frozen? ⟨w.heap.size+1,2,none⟩=false:=by rw [hW];simp [go_sem]
 have b3:W.cell? ⟨w.heap.size+1,3,none⟩=some (.int .i64 0):=by rw [hW];simp [go_sem]
 have b3':W.frozen? ⟨w.heap.size+1,3,none⟩=false:=by rw [hW];simp [go_sem]
 have b4:W.cell? ⟨w.heap.size+1,4,none⟩=some (.int .i64 0):=by rw [hW];simp [go_sem]
 have b4':W.frozen? ⟨w.heap.size+1,4,none⟩=false:=by rw [hW];simp [go_sem]
 have b5:W.cell? ⟨w.heap.size+1,5,none⟩=some (.slice none 0 0):=by rw [hW];simp [go_sem]
 have b5':W.frozen? ⟨w.heap.size+1,5,none⟩=false:=by rw [hW];simp [go_sem]
 clear hW
 go_enter Tryz.func115,Tryz.ntmps115
 go_wp2_with fail
 rw [←HW.out]
 refine (HC.out _ HBB.out).mono ?_
 rintro e w1 ⟨rfl,hT1,hp1,hb1⟩
 rw [hWs] at hT1 hp1
 obtain ⟨hcc,hff⟩:=bcell hb1
 rw [hWs] at hcc hff
 have hlt:w.heap.size+3≤w1.heap.size:=by have:=hb1.size;omega
 have HB1:=HT_ HBB hb1
 have HT1:=H_ hT1
 have HP1:=H_ hp1
 have c0:=(hcc (w.heap.size+2) 0 (by omega)).trans a0
 have c0':=(hff (w.heap.size+2) 0 (by omega)).trans a0'
 have c1:=(hcc (w.heap.size+2) 1 (by omega)).trans a1
 have c1':=(hff (w.heap.size+2) 1 (by omega)).trans a1'
 have c2:=(hcc (w.heap.size+2) 2 (by omega)).trans a2
 have c2':=(hff (w.heap.size+2) 2 (by omega)).trans a2'
 have c3:=(hcc (w.heap.size+2) 3 (by omega)).trans a3
 have c3':=(hff (w.heap.size+2) 3 (by omega)).trans a3'
 have c4:=(hcc (w.heap.size+2) 4 (by omega)).trans a4
 have c4':=(hff (w.heap.size+2) 4 (by omega)).trans a4'
 have c5:=(hcc (w.heap.size+2) 5 (by omega)).trans a5
 have c5':=(hff (w.heap.size+2) 5 (by omega)).trans a5'
 have d0:=(hcc (w.heap.size+1) 0 (by omega)).trans b0
 have d0':=(hff (w.heap.size+1) 0 (by omega)).trans b0'
 have d1:=(hcc (w.heap.size+1) 1 (by omega)).trans b1
 have d1':=(hff (w.heap.size+1) 1 (by omega)).trans b1'
 have d2:=(hcc (w.heap.size+1) 2 (by omega)).trans b2
 have d2':=(hff (w.heap.size+1) 2 (by omega)).trans b2'
 have d3:=(hcc (w.heap.size+1) 3 (by omega)).trans b3
 have d3':=(hff (w.heap.size+1) 3 (by omega)).trans b3'
 have d4:=(hcc (w.heap.size+1) 4 (by omega)).trans b4
 have d4':=(hff (w.heap.size+1) 4 (by omega)).trans b4'
 have d5:=(hcc (w.heap.size+1) 5 (by omega)).trans b5
 have d5':=(hff (w.heap.size+1) 5 (by omega)).trans b5'
 have hWs':=hWs
 clear hT1 hp1 hb1 hcc hff a0 a1 a2 a3 a4 a5 a0' a1' a2' a3' a4' a5' b0 b1 b2 b3 b4 b5 b0' b1' b2' b3' b4' b5' hWs'
 go_wp2_with fail
 refine bodyPost_ret (v:=.agg #[.string n,.int .i64 g,.bool wh,.int .i64 f,.int .i64 l,.slice (some ⟨w.heap.size+3,0,none⟩) tl tl]) (by simp [results,Tryz.results115,go_sem,d0,d1,d2,d3,d4,d5]) rfl ⟨⟨_,rfl,?_⟩,?_⟩
 ·refine HF.out (w.heap.size+3) _ _ (by omega) rfl ?_ ?_
  ·exact (((((((HT1.out.far (by omega) _ _).far (by omega) _ _).far (by omega) _ _).far (by omega) _ _).far (by omega) _ _).far (by omega) _ _).far (by omega) _ _)
  ·exact (((((((HP1.out.far (by omega) _ _).far (by omega) _ _).far (by omega) _ _).far (by omega) _ _).far (by omega) _ _).far (by omega) _ _).far (by omega) _ _)
 ·exact ((((((HB1.out.setCell (by simp;omega) _).setCell (by simp) _).setCell (by simp) _).setCell (by simp) _).setCell (by simp) _).setCell (by simp) _).setCell (by simp) _
theorem eqTi_any (u p:Int) (w:World):Calls Tryz.prog 216 #[.agg #[.int .i64 u,.int .i64 p],.agg #[.int .i64 u,.int .i64 p]] w fun e w'=>e=.returned (.bool true)∧Below w.heap.size w w':=by
 go_enter Tryz.func216,Tryz.ntmps216
 go_wp2
 go_ret
 refine ⟨rfl,?_⟩
 repeat' first|exact Below.refl _ _|apply Below.setCell|apply Below.alloc
 all_goals first|omega|(simp;done)|(simp;omega)
theorem eqTis_any (ao bo:Option Addr) (len cap cap':Nat) (ts:List Ti) (w:World) (hlen:len≤1048576) (hI:Tis ao len ts w) (hJ:Tis bo len ts w) :
 Calls Tryz.prog 188 #[.slice ao len cap,.slice bo len cap'] w fun e w'=>e=.returned (.bool true)∧Below w.heap.size w w':=by
 have HI:=H_ hI
 have HJ:=H_ hJ
 clear hI hJ
 go_enter Tryz.func188,Tryz.ntmps188
 go_wp2_with fail
 go_loopw [5] (fun z wr=>∃k:Nat,k≤len∧z=.int .i64 k∧Hid (Below w.heap.size w wr)) (fun z _=>len-(intOf z).toNat)
 case atStart=>exact ⟨0,by omega,rfl,H_ (Below.refl _ _)⟩
 case round =>
  obtain ⟨k,hk,rfl,HW⟩:=hrel
  by_cases hlt:k<len
  ·have hlt2:(k:Int)<(len:Int):=by omega
   obtain ⟨b,off,rfl,_,c0,c1⟩:=tis_at (HI.out.below HW.out) k hlt
   obtain ⟨b',off',rfl,_,e0,e1⟩:=tis_at (HJ.out.below HW.out) k hlt
   generalize ts.getD k Ti.zero=X at *
   obtain ⟨u,p⟩:=X
   have HC:=H_ (fun w=>eqTi_any u p w)
   go_wp2_with fail
   go_region_with (go_at_call 216;refine (HC.out _).mono ?_;rintro e w1 ⟨rfl,hb⟩)
   all_goals (
    have HB1:=H_ (HW.out.drew.trans (hb.mono HW.out.drew.size))
    clear hb c0 c1 e0 e1
    go_wp2_with fail
    go_roundw
    case rel=>exact ⟨k+1,by omega,by go_num,HB1⟩
    case measure=>simp [intOf];omega)
  ·have hlt2:¬(k:Int)<(len:Int):=by omega
   go_wp2_with fail
   go_ret
   exact ⟨rfl,HW.out⟩
theorem eqMe_any (v v':Value) (m:Me) (w:World) (hl:m.ts.length≤1048576) (hI:IsMe v m w) (hJ:IsMe v' m w) :
 Calls Tryz.prog 140 #[v,v'] w fun e w'=>e=.returned (.bool true)∧Below w.heap.size w w':=by
 obtain ⟨ta,tc,rfl,hT⟩:=hI
 obtain ⟨ta',tc',rfl,hT'⟩:=hJ
 obtain ⟨n,g,wh,f,l,ts⟩:=m
 simp only at *
 have HC:Hid (∀W,Below w.heap.size w W→Calls Tryz.prog 188 #[.slice ta ts.length tc,.slice ta' ts.length tc'] W fun e w'=>e=.returned (.bool true)∧Below W.heap.size W w'):=H_ (fun W hW=>eqTis_any ta ta' ts.length tc tc' ts W hl (hT.below hW) (hT'.below hW))
 clear hT hT' hl
 generalize ts.length=tl at *
 go_enter Tryz.func140,Tryz.ntmps140
 go_wp2_with fail
 refine (HC.out _ ((al_ _ _).alloc (by simp) _)).mono ?_
 rintro e w1 ⟨rfl,hb⟩
 have HB:=H_ (bel_alloc (bel_alloc hb))
 clear hb
 go_wp2_with fail
 go_ret
 exact ⟨rfl,HB.out⟩
end CatR
namespace CatR
open EvtR (Pt cell_put cell_far)
def Me.Small (m:Me):Prop:=m.n.size≤1048576∧m.ts.length≤1048576
def Me.In (m:Me):Prop:=m.n.size≤maxLen∧m.ts.length≤maxLen
def SzOut (left:Int) (P:Prop) (e:Ending):Prop:=∃L:Int,e=.returned (.int .i64 L)∧(L=-1∨(0≤L∧L≤left∧P))
theorem small_more {ms:List Me} {k:Nat} (h:∀i,i<k→(ms.getD i Me.zero).Small) (hk:(ms.getD k Me.zero).Small):∀i,i<k+1→(ms.getD i Me.zero).Small:=fun i hi=>by
 by_cases e:i=k
 ·subst e;exact hk
 ·exact h i (by omega)
theorem szMes_any (ao:Option Addr) (len cap:Nat) (ms:List Me) (left:Int) (w:World) (hm:len≤maxLen) (h0:0≤left) (h1:left≤1048576) (hI:Mes ao len ms w) (hin:∀i,i<len→(ms.getD i Me.zero).In) :
 Calls Tryz.prog 45 #[.slice ao len cap,.int .i64 left] w fun e w'=>SzOut left (len≤1048576∧∀i,i<len→(ms.getD i Me.zero).Small) e∧Below w.heap.size w w':=by
 have HI:=H_ hI
 have HN:=H_ hin
 clear hI hin
 unfold maxLen at hm
 by_cases hl:left-(len:Int)<0
 ·go_enter Tryz.func45,Tryz.ntmps45
  go_wp2_with fail
  go_ret
  exact ⟨⟨-1,rfl,.inl rfl⟩,Below.refl _ _⟩
 ·go_enter Tryz.func45,Tryz.ntmps45
  go_wp2_with fail
  go_loopw [5,1] (fun x y wr=>∃(j:Nat) (L:Int),j≤len∧x=.int .i64 j∧y=.int .i64 L∧0≤L∧L≤left∧Hid (∀i,i<j→(ms.getD i Me.zero).Small)∧Hid (Below w.heap.size w wr)) (fun x y _=>len-(intOf x).toNat)
  case atStart=>exact ⟨0,left-(len:Int),Nat.zero_le _,rfl,rfl,by omega,by omega,H_ (fun i hi=>absurd hi (by omega)),H_ (Below.refl _ _)⟩
  case round =>
   obtain ⟨j,L,hj,rfl,rfl,l0,l1,HL,HB⟩:=hrel
   by_cases hlt:j<len
   ·obtain ⟨b,off,rfl,hbl,ta,tc,c0,c1,c2,c3,c4,c5,hT⟩:=mes_at (HI.out.below HB.out) j hlt
    obtain ⟨q1,q2⟩:=HN.out j hlt
    have HC:=H_ (fun w=>szMe_any _ (ms.getD j Me.zero) L w q1 q2 l0 (by omega) ⟨ta,tc,rfl⟩)
    have HM:=H_ (fun h=>small_more HL.out (k:=j) h)
    have HS:Hid (szM (ms.getD j Me.zero)≤L→(ms.getD j Me.zero).Small):=H_ (fun h=>by unfold szM at h;unfold Me.Small;omega)
    have hz:0≤szM (ms.getD j Me.zero):=by unfold szM;omega
    generalize szM (ms.getD j Me.zero)=Z at *
    generalize (ms.getD j Me.zero)=X at *
    obtain ⟨n,g,wh,f,l,ts⟩:=X
    simp only at HC c0 c1 c2 c3 c4 c5
    have hlt2:(j:Int)<(len:Int):=by omega
    clear hT q1 q2
    generalize ts.length=tl at *
    by_cases hs:Z≤L
    ·rw [if_pos hs] at HC
     have r0:0≤L-Z:=by omega
     have r1:L-Z≤left:=by omega
     have HN1:=H_ (HM.out (HS.out hs))
     generalize L-Z=L2 at *
     clear hs hz
     go_wp2_with fail
     refine (HC.out _).mono ?_
     rintro e w1 ⟨rfl,hb⟩
     have HB1:=HT_ HB hb
     clear hb c0 c1 c2 c3 c4 c5
     have r2:¬L2<0:=by omega
     go_wp2_with fail
     go_roundw
     case rel=>exact ⟨j+1,L2,by omega,by go_num,rfl,r0,r1,HN1,HB1⟩
     case measure=>simp [intOf];omega
    ·rw [if_neg hs] at HC
     go_wp2_with fail
     refine (HC.out _).mono ?_
     rintro e w1 ⟨rfl,hb⟩
     have HB1:=HT_ HB hb
     clear hb c0 c1 c2 c3 c4 c5
     go_wp2_with fail
     go_ret
     exact ⟨⟨-1,rfl,.inl rfl⟩,HB1.out⟩
   ·obtain rfl:j=len:=by omega
    go_wp2_with fail
    go_ret
    exact ⟨⟨L,rfl,.inr ⟨l0,l1,by omega,HL.out⟩⟩,HB.out⟩
def MeC (w:World) (g o b:Nat) (m:Me):Prop:=(w.cell? ⟨g,o,none⟩=some (.string m.n)∧w.cell? ⟨g,o+1,none⟩=some (.int .i64 m.g)∧w.cell? ⟨g,o+2,none⟩=some (.bool m.wh)∧w.cell? ⟨g,o+3,none⟩=some (.int .i64 m.f)∧w.cell? ⟨g,o+4,none⟩=some (.int .i64 m.l)∧w.cell? ⟨g,o+5,none⟩=some (.slice (some ⟨b,0,none⟩) m.ts.length m.ts.length))∧Tis (some ⟨b,0,none⟩) m.ts.length m.ts w∧Pt b (m.ts.length*2) w
theorem MeC.below {w w':World} {g o b:Nat} {m:Me} (h:MeC w g o b m) (hl:g<w.heap.size) (hb:Below w.heap.size w w'):MeC w' g o b m:=by
 obtain ⟨⟨h0,h1,h2,h3,h4,h5⟩,h6,h7⟩:=h
 have f:=fun k=>hb.cell (p:=⟨g,k,none⟩) hl
 exact ⟨⟨(f _).trans h0,(f _).trans h1,(f _).trans h2,(f _).trans h3,(f _).trans h4,(f _).trans h5⟩,h6.below hb,h7.below hb⟩
theorem MeC.is {w:World} {g o b:Nat} {m:Me} (h:MeC w g o b m):MeAt w g o m:=by
 obtain ⟨⟨h0,h1,h2,h3,h4,h5⟩,h6,h7⟩:=h
 exact ⟨_,_,h0,h1,h2,h3,h4,h5,h6⟩
structure NewMes (base g:Nat) (bs:Nat→Nat) (n k:Nat) (ms:List Me) (w:World):Prop where
 lo:base≤g
 pt:Pt g (n*6) w
 inc:∀i,i<k→g<bs i∧∀j,j<i→bs j<bs i
 cel:∀i,i<k→MeC w g (i*6) (bs i) (ms.getD i Me.zero)
theorem NewMes.below {base g:Nat} {bs:Nat→Nat} {n k:Nat} {ms:List Me} {w w':World} (h:NewMes base g bs n k ms w) (hb:Below w.heap.size w w'):NewMes base g bs n k ms w' :=
 ⟨h.lo,h.pt.below hb,h.inc,fun i hi=>(h.cel i hi).below h.pt.lt hb⟩
theorem NewMes.is {base g:Nat} {bs:Nat→Nat} {n:Nat} {ms:List Me} {w:World} (h:NewMes base g bs n n ms w) (hz:ms.length=n):Mes (some ⟨g,0,none⟩) n ms w :=
 ⟨hz,.inr ⟨g,0,rfl,h.pt.lt,fun j hj=>by rw [Nat.zero_add];exact (h.cel j hj).is⟩⟩
def setM (wr:World) (g o:Nat) (m:Me) (b:Nat):World:=(((((wr.setCell ⟨g,o,none⟩ (.string m.n)).setCell ⟨g,o+1,none⟩ (.int .i64 m.g)).setCell ⟨g,o+2,none⟩ (.bool m.wh)).setCell ⟨g,o+3,none⟩ (.int .i64 m.f)).setCell ⟨g,o+4,none⟩ (.int .i64 m.l)).setCell ⟨g,o+5,none⟩ (.slice (some ⟨b,0,none⟩) m.ts.length m.ts.length)
theorem setM_pt {wr:World} {g o b m0:Nat} {m:Me} (h:Pt g m0 wr):Pt g m0 (setM wr g o m b):=(((((h.set _ _).set _ _).set _ _).set _ _).set _ _).set _ _
theorem setM_far {wr:World} {g o b:Nat} {m:Me} (x:Nat) (hx:x<o∨o+6≤x):(setM wr g o m b).cell? ⟨g,x,none⟩=wr.cell? ⟨g,x,none⟩:=by
 unfold setM
 rw [cell_far _ _ (by omega),cell_far _ _ (by omega),cell_far _ _ (by omega),cell_far _ _ (by omega),cell_far _ _ (by omega),cell_far _ _ (by omega)]
theorem setM_tis {wr:World} {g o b c len:Nat} {m:Me} {ts:List Ti} (h:Tis (some ⟨c,0,none⟩) len ts wr) (hc:g≠c):Tis (some ⟨c,0,none⟩) len ts (setM wr g o m b):=(((((h.far hc _ _).far hc _ _).far hc _ _).far hc _ _).far hc _ _).far hc _ _
theorem setM_ptf {wr:World} {g o b c m0:Nat} {m:Me} (h:Pt c m0 wr) (hc:g≠c):Pt c m0 (setM wr g o m b):=(((((h.far hc _ _).far hc _ _).far hc _ _).far hc _ _).far hc _ _).far hc _ _
theorem setM_at {wr:World} {g o b m0:Nat} {m:Me} (h:Pt g m0 wr) (ho:o+6≤m0) (hT:Tis (some ⟨b,0,none⟩) m.ts.length m.ts wr) (hP:Pt b (m.ts.length*2) wr) (hb:g≠b):MeC (setM wr g o m b) g o b m:=by
 refine ⟨⟨?_,?_,?_,?_,?_,?_⟩,setM_tis hT hb,setM_ptf hP hb⟩
 ·unfold setM
  rw [cell_far _ _ (by omega),cell_far _ _ (by omega),cell_far _ _ (by omega),cell_far _ _ (by omega),cell_far _ _ (by omega),cell_put h _ (by omega)]
 ·unfold setM
  rw [cell_far _ _ (by omega),cell_far _ _ (by omega),cell_far _ _ (by omega),cell_far _ _ (by omega),cell_put (h.set _ _) _ (by omega)]
 ·unfold setM
  rw [cell_far _ _ (by omega),cell_far _ _ (by omega),cell_far _ _ (by omega),cell_put ((h.set _ _).set _ _) _ (by omega)]
 ·unfold setM
  rw [cell_far _ _ (by omega),cell_far _ _ (by omega),cell_put (((h.set _ _).set _ _).set _ _) _ (by omega)]
 ·unfold setM
  rw [cell_far _ _ (by omega),cell_put ((((h.set _ _).set _ _).set _ _).set _ _) _ (by omega)]
 ·unfold setM
  rw [cell_put (((((h.set _ _).set _ _).set _ _).set _ _).set _ _) _ (by omega)]
theorem MeC.setM {wr:World} {g o b x c:Nat} {m m':Me} (h:MeC wr g x c m') (hx:x+6≤o) (hc:g≠c):MeC (setM wr g o m b) g x c m':=by
 obtain ⟨⟨h0,h1,h2,h3,h4,h5⟩,h6,h7⟩:=h
 have f:=fun y (hy:y<o)=>setM_far (wr:=wr) (g:=g) (o:=o) (b:=b) (m:=m) y (.inl hy)
 exact ⟨⟨(f _ (by omega)).trans h0,(f _ (by omega)).trans h1,(f _ (by omega)).trans h2,(f _ (by omega)).trans h3,(f _ (by omega)).trans h4,(f _ (by omega)).trans h5⟩,setM_tis h6 hc,setM_ptf h7 hc⟩
theorem NewMes.step {base g:Nat} {bs:Nat→Nat} {n k:Nat} {ms:List Me} {w w1:World} (h:NewMes base g bs n k ms w) (hbl:Below w.heap.size w w1) (hk:k<n) {b:Nat} (hb:w.heap.size≤b) (hlt:∀i,i<k→bs i<w.heap.size) (hT:Tis (some ⟨b,0,none⟩) (ms.getD k Me.zero).ts.length (ms.getD k Me.zero).ts w1) (hP:Pt b ((ms.getD k Me.zero).ts.length*2) w1) :
 NewMes base g (fun i=>if i=k then b else bs i) n (k+1) ms (setM w1 g (k*6) (ms.getD k Me.zero) b):=by
 have h1:=h.below hbl
 have hg:=h.pt.lt
 refine ⟨h.lo,setM_pt h1.pt,fun i hi=>?_,fun i hi=>?_⟩
 ·by_cases e:i=k
  ·subst e
   rw [if_pos rfl]
   refine ⟨by omega,fun j hj=>?_⟩
   rw [if_neg (by omega)]
   have:=hlt j hj
   omega
  ·rw [if_neg e]
   refine ⟨(h.inc i (by omega)).1,fun j hj=>?_⟩
   rw [if_neg (by omega)]
   exact (h.inc i (by omega)).2 j hj
 ·by_cases e:i=k
  ·subst e
   rw [if_pos rfl]
   exact setM_at h1.pt (by omega) hT hP (by omega)
  ·rw [if_neg e]
   exact (h1.cel i (by omega)).setM (by omega) (by have:=(h.inc i (by omega)).1;omega)
theorem NewMes.blocks {base g:Nat} {bs:Nat→Nat} {n k:Nat} {ms:List Me} {w:World} (h:NewMes base g bs n k ms w):∀i,i<k→bs i<w.heap.size:=fun i hi=>(h.cel i hi).2.2.lt
end CatR
end Go.Proofs.YtnceeaccbcfopaaGreatDoor
