/-
  impl.Tick: what it answers. The conditions: sizes; the program's variables hold what its text lays.
-/
import Derived.Test.YtnceeaccbcfopaaGreatDoorT143
namespace Go.Proofs.YtnceeaccbcfopaaGreatDoor
open Go.ChangeShapes Go.WideShapes Go.ChangeAt Go.RowKit
set_option linter.unusedVariables false
namespace EngR
open OwG CatR ChG DocR
open RowG (cellsAll grown_set MadeG Rws)
open EvtR (Pt)
theorem tick1 (n:ByteArray) (q:Int) (t:ByteArray) (B:Nat) (w:World) (hB:B<w.heap.size) (hc:w.cell? ⟨B,0,none⟩=some (.string t)) :
 Calls Tryz.prog 29 #[.agg #[.string n,.int .i64 q],.pointer (some ⟨B,0,none⟩)] w fun e w'=>e=.returned (.bool (decide (n=t)))∧Below w.heap.size w w':=by
 have HB:Hid (Below w.heap.size w (w.alloc (.cells #[.string n,.int .i64 q] 63))):=H_ ((Below.refl _ _).alloc (Nat.le_refl _) _)
 by_cases h:n=t
 ·subst h
  go_enter Tryz.func29,Tryz.ntmps29
  go_wp2_with fail
  go_ret
  exact ⟨by simp,HB.out⟩
 ·have hne2:(n.toList==t.toList)=false:=by simpa using fun q=>h (LtR.toList_inj q)
  rw [decide_eq_false h]
  go_enter Tryz.func29,Tryz.ntmps29
  go_wp2_with fail
  go_ret
  exact ⟨rfl,HB.out⟩
def sixI (ss:List Cr) (a:ByteArray):Int:=if six ss a<ss.length then (six ss a:Nat) else -1
set_option maxHeartbeats 4000000 in
theorem idxS (ma:Option Addr) (mc:Nat) (ss:List Cr) (t:ByteArray) (B:Nat) (w:World) (hM:Crs ma ss.length ss w) (hlen:ss.length≤1048576) (hB:B<w.heap.size) (hc:w.cell? ⟨B,0,none⟩=some (.string t)) :
 Calls Tryz.prog 28 #[.slice ma ss.length mc,.func (.func 29) #[] #[.pointer (some ⟨B,0,none⟩)]] w fun e w'=>e=.returned (.int .i64 (sixI ss t))∧Below w.heap.size w w':=by
 have HM:=H_ hM
 have HC:=H_ hc
 have HY:Hid (∀k,k<ss.length→(∀i,i<k→(ss.getD i Cr.zero).a≠t)→(ss.getD k Cr.zero).a=t→sixI ss t=(k:Int)):=H_ (fun k hk hn he=>by
  have:=six_at hk hn he
  unfold sixI
  rw [this,if_pos hk])
 have HNo:Hid ((∀i,i<ss.length→(ss.getD i Cr.zero).a≠t)→sixI ss t=-1):=H_ (fun h=>by
  have:=six_no h
  unfold sixI
  rw [this,if_neg (by omega)])
 generalize sixI ss t=R at *
 obtain ⟨len,hl⟩:∃len,len=ss.length:=⟨_,rfl⟩
 rw [←hl] at hlen HY HNo ⊢
 have HL:=H_ hl
 clear hM hc hl
 go_enter Tryz.func28,Tryz.ntmps28
 go_wp2_with fail
 go_loopw [5,8] (fun y z wr=>∃k:Nat,k≤len∧z=.int .i64 k∧Hid (∀i,i<k→(ss.getD i Cr.zero).a≠t)∧Hid (Below w.heap.size w wr)) (fun _ z _=>len-(intOf z).toNat)
 case atStart=>exact ⟨0,by omega,rfl,H_ (fun i hi=>absurd hi (by omega)),H_ (Below.refl _ _)⟩
 case round =>
  obtain ⟨k,hk,rfl,HN,HB⟩:=hrel
  by_cases hlt:k<len
  ·have hlt2:(k:Int)<(len:Int):=by omega
   obtain ⟨b,off,rfl,hbl,c0,c1⟩:=crs_at (HM.out.below HB.out) k (by have:=HL.out;omega)
   have HYk:=H_ (HY.out k (by omega) HN.out)
   have HNk:Hid ((ss.getD k Cr.zero).a≠t→∀i,i<k+1→(ss.getD i Cr.zero).a≠t):=H_ (fun h i hi=>by
    by_cases e:i=k
    ·subst e;exact h
    ·exact HN.out i (by omega))
   have hBl:B<wr.heap.size:=by have:=HB.out.size;omega
   have hcw:wr.cell? ⟨B,0,none⟩=some (.string t):=(HB.out.cell (p:=⟨B,0,none⟩) hB).trans HC.out
   generalize ss.getD k Cr.zero=X at *
   obtain ⟨xn,xm⟩:=X
   dsimp only at c0 c1 HYk HNk
   have HS:=H_ (tick1 xn xm t B wr hBl hcw)
   clear hcw
   by_cases he:xn=t
   ·rw [decide_eq_true he] at HS
    have HR:=H_ (HYk.out he)
    clear he
    go_wp2_with fail
    refine HS.out.mono ?_
    rintro e w1 ⟨rfl,hb⟩
    have HB1:=H_ (HB.out.trans (hb.mono HB.out.size))
    clear hb c0 c1
    go_wp2_with fail
    go_ret
    exact ⟨by rw [HR.out];rfl,HB1.out⟩
   ·rw [decide_eq_false he] at HS
    have HN2:=H_ (HNk.out he)
    clear he
    go_wp2_with fail
    refine HS.out.mono ?_
    rintro e w1 ⟨rfl,hb⟩
    have HB1:=H_ (HB.out.trans (hb.mono HB.out.size))
    clear hb c0 c1
    go_wp2_with fail
    go_roundw
    case rel=>exact ⟨k+1,by omega,by go_num,HN2,HB1⟩
    case measure=>simp [intOf];omega
  ·have hlt2:¬(k:Int)<(len:Int):=by omega
   have HR:=H_ (HNo.out (fun i hi=>HN.out i (by omega)))
   go_wp2_with fail
   go_ret
   exact ⟨by rw [HR.out];rfl,HB.out⟩
set_option maxRecDepth 100000 in
set_option maxHeartbeats 8000000 in
theorem itick_in (ma:Option Addr) (ml mc:Nat) (ca:Option Addr) (cl cc:Nat) (sa:Option Addr) (sl sc:Nat) (ea:Option Addr) (el ec:Nat) (ua:Option Addr) (ul uc:Nat) (da:Option Addr) (dl dc:Nat) (fr:Int) (a:ByteArray) (m:Int) (b:Bool) (kI:Int) (k:Nat) (mk:Int) (R3:Nat→Value→World→Prop) (Post:Ending→World→Prop) (w:World)
 (hk:¬kI<0→kI=(k:Int)∧k<sl∧∃sb so,sa=some ⟨sb,so,none⟩∧sb<w.heap.size∧w.cell? ⟨sb,so+k*2+1,none⟩=some (.int .i64 mk))
 (h1:∀W,Below w.heap.size w W→Calls Tryz.prog 27 #[.agg #[.slice ma ml mc,.slice ca cl cc,.slice sa sl sc,.slice ea el ec,.slice ua ul uc,.slice da dl dc,.int .i64 fr]] W fun e w'=>e=.returned (.bool b)∧Below W.heap.size W w')
 (h2:∀W B,Below w.heap.size w W→B<W.heap.size→W.cell? ⟨B,0,none⟩=some (.string a)→Calls Tryz.prog 28 #[.slice sa sl sc,.func (.func 29) #[] #[.pointer (some ⟨B,0,none⟩)]] W fun e w'=>e=.returned (.int .i64 kI)∧Below W.heap.size W w')
 (h3:b=true→∀W,Below w.heap.size w W→Calls Tryz.prog 31 #[.agg #[.slice ma ml mc,.slice ca cl cc,.slice sa sl sc,.slice ea el ec,.slice ua ul uc,.slice da dl dc,.int .i64 fr]] W fun e w'=>∃(xa:Option Addr) (xc:Nat) (ya:Option Addr) (yc:Nat) (za:Option Addr) (zc:Nat) (pa:Option Addr) (pc:Nat) (ra:Option Addr) (rc:Nat) (ta:Option Addr) (tc:Nat),e=.returned (.agg #[.slice xa ml xc,.slice ya cl yc,.slice za sl zc,.slice pa el pc,.slice ra ul rc,.slice ta dl tc,.int .i64 fr])∧(∃g,za=some ⟨g,0,none⟩∧W.heap.size≤g∧Pt g (sl*2) w')∧(∀W2,Below w'.heap.size w' W2→∀g,za=some ⟨g,0,none⟩→R3 W.heap.size (.agg #[.slice xa ml xc,.slice ya cl yc,.slice za sl zc,.slice pa el pc,.slice ra ul rc,.slice ta dl tc,.int .i64 fr]) (W2.setCell ⟨g,k*2+1,none⟩ (.int .i64 m)))∧Below W.heap.size W w')
 (kg:∀lo v W W' g,R3 lo v W→W.grownBy W' (some g)→g<lo→R3 lo v W')
 (p2:8000<a.size→∀w',Below w.heap.size w w'→Post (.returned (.agg #[.slice none 0 0,.slice none 0 0,.slice none 0 0,.slice none 0 0,.slice none 0 0,.slice none 0 0,.int .i64 0,.int .i64 0,.int .i64 0,.int .i64 0,.int .i64 0,.int .i64 0,.slice none 0 0,.int .i64 2])) w')
 (p1:a.size≤8000→b=false→∀w',Below w.heap.size w w'→Post (.returned (.agg #[.slice none 0 0,.slice none 0 0,.slice none 0 0,.slice none 0 0,.slice none 0 0,.slice none 0 0,.int .i64 0,.int .i64 0,.int .i64 0,.int .i64 0,.int .i64 0,.int .i64 0,.slice none 0 0,.int .i64 1])) w')
 (p6:a.size≤8000→b=true→kI<0→∀w',Below w.heap.size w w'→Post (.returned (.agg #[.slice none 0 0,.slice none 0 0,.slice none 0 0,.slice none 0 0,.slice none 0 0,.slice none 0 0,.int .i64 0,.int .i64 0,.int .i64 0,.int .i64 0,.int .i64 0,.int .i64 0,.slice none 0 0,.int .i64 6])) w')
 (p8:a.size≤8000→b=true→¬kI<0→¬(mk≤m∧m≤121000000)→∀w',Below w.heap.size w w'→Post (.returned (.agg #[.slice none 0 0,.slice none 0 0,.slice none 0 0,.slice none 0 0,.slice none 0 0,.slice none 0 0,.int .i64 0,.int .i64 0,.int .i64 0,.int .i64 0,.int .i64 0,.int .i64 0,.slice none 0 0,.int .i64 8])) w')
 (p0:a.size≤8000→b=true→¬kI<0→(mk≤m∧m≤121000000)→∀(xa:Option Addr) (xc:Nat) (ya:Option Addr) (yc:Nat) (za:Option Addr) (zc:Nat) (pa:Option Addr) (pc:Nat) (ra:Option Addr) (rc:Nat) (ta:Option Addr) (tc:Nat) lo w',w.heap.size≤lo→R3 lo (.agg #[.slice xa ml xc,.slice ya cl yc,.slice za sl zc,.slice pa el pc,.slice ra ul rc,.slice ta dl tc,.int .i64 fr]) w'→Below w.heap.size w w'→Post (.returned (.agg #[.slice xa ml xc,.slice ya cl yc,.slice za sl zc,.slice pa el pc,.slice ra ul rc,.slice ta dl tc,.int .i64 fr,.int .i64 0,.int .i64 0,.int .i64 0,.int .i64 0,.int .i64 0,.slice none 0 0,.int .i64 0])) w') :
 Calls Tryz.prog 7 #[.agg #[.slice ma ml mc,.slice ca cl cc,.slice sa sl sc,.slice ea el ec,.slice ua ul uc,.slice da dl dc,.int .i64 fr],.string a,.int .i64 m] w fun e w'=>Post e w':=by
 have H1:=H_ h1
 have H2:=H_ h2
 have H3:=H_ h3
 have P2:=H_ p2
 have P1:=H_ p1
 have P6:=H_ p6
 have P8:=H_ p8
 have P0:=H_ p0
 have KG:=H_ kg
 have HK:=H_ hk
 clear h1 h2 h3 p2 p1 p6 p8 p0 kg hk
 obtain ⟨sz,hsz⟩:∃z,z=a.size:=⟨_,rfl⟩
 rw [←hsz] at P2 P1 P6 P8 P0
 have HSZ:=H_ hsz
 obtain ⟨W1,hW1⟩:∃z,z=((w.alloc (.cells #[.slice ma ml mc,.slice ca cl cc,.slice sa sl sc,.slice ea el ec,.slice ua ul uc,.slice da dl dc,.int .i64 fr] 42)).alloc (.cells #[.string a] 9)).alloc (.cells #[.slice none 0 0,.slice none 0 0,.slice none 0 0,.slice none 0 0,.slice none 0 0,.slice none 0 0,.int .i64 0,.int .i64 0,.int .i64 0,.int .i64 0,.int .i64 0,.int .i64 0,.slice none 0 0,.int .i64 0] 46):=⟨_,rfl⟩
 have HB1:Hid (Below w.heap.size w W1):=H_ (by rw [hW1];exact (((Below.refl _ _).alloc (Nat.le_refl _) _).alloc (by simp) _).alloc (by simp;omega) _)
 have HA1:Hid (BlkW w.heap.size [.slice ma ml mc,.slice ca cl cc,.slice sa sl sc,.slice ea el ec,.slice ua ul uc,.slice da dl dc,.int .i64 fr] W1):=H_ (by rw [hW1];exact blkW_alloc (blkW_alloc (BlkW.new w [.slice ma ml mc,.slice ca cl cc,.slice sa sl sc,.slice ea el ec,.slice ua ul uc,.slice da dl dc,.int .i64 fr] 42) _) _)
 have HS1:Hid (BlkW (w.heap.size+1) [.string a] W1):=H_ (by
  rw [hW1]
  have:=blkW_alloc (BlkW.new (w.alloc (.cells #[.slice ma ml mc,.slice ca cl cc,.slice sa sl sc,.slice ea el ec,.slice ua ul uc,.slice da dl dc,.int .i64 fr] 42)) [.string a] 9) (.cells #[.slice none 0 0,.slice none 0 0,.slice none 0 0,.slice none 0 0,.slice none 0 0,.slice none 0 0,.int .i64 0,.int .i64 0,.int .i64 0,.int .i64 0,.int .i64 0,.int .i64 0,.slice none 0 0,.int .i64 0] 46)
  simpa using this)
 have HR1:Hid (BlkW (w.heap.size+1+1) [.slice none 0 0,.slice none 0 0,.slice none 0 0,.slice none 0 0,.slice none 0 0,.slice none 0 0,.int .i64 0,.int .i64 0,.int .i64 0,.int .i64 0,.int .i64 0,.int .i64 0,.slice none 0 0,.int .i64 0] W1):=H_ (by
  rw [hW1]
  have:=BlkW.new ((w.alloc (.cells #[.slice ma ml mc,.slice ca cl cc,.slice sa sl sc,.slice ea el ec,.slice ua ul uc,.slice da dl dc,.int .i64 fr] 42)).alloc (.cells #[.string a] 9)) [.slice none 0 0,.slice none 0 0,.slice none 0 0,.slice none 0 0,.slice none 0 0,.slice none 0 0,.int .i64 0,.int .i64 0,.int .i64 0,.int .i64 0,.int .i64 0,.int .i64 0,.slice none 0 0,.int .i64 0] 46
  simpa using this)
 obtain ⟨bR,hbR⟩:∃z,z=w.heap.size+1+1:=⟨_,rfl⟩
 rw [←hbR] at HR1
 obtain ⟨bS,hbS⟩:∃z,z=w.heap.size+1:=⟨_,rfl⟩
 rw [←hbS] at HS1
 have hlo:w.heap.size<bS:=by omega
 have hlo2:bS<bR:=by omega
 have hs1:bR+1≤W1.heap.size:=HR1.out.1.1
 have HW:=H_ hW1
 have HBR:=H_ hbR
 have HBS:=H_ hbS
 clear hW1 hbR hbS hsz
 by_cases hbig:8000<sz
 ·have q2:(8000:Int)<(sz:Int):=by omega
  go_enter Tryz.func7,Tryz.ntmps7
  rw [HSZ.out] at q2
  go_wp2_with fail
  refine bodyPost_ret (v:=.agg #[.slice none 0 0,.slice none 0 0,.slice none 0 0,.slice none 0 0,.slice none 0 0,.slice none 0 0,.int .i64 0,.int .i64 0,.int .i64 0,.int .i64 0,.int .i64 0,.int .i64 0,.slice none 0 0,.int .i64 2]) (by simp [results,Tryz.results7,go_sem]) rfl ?_
  refine P2.out hbig _ ?_
  repeat' first|exact Below.refl _ _|apply Below.setCell|apply Below.alloc
  all_goals first|omega|(simp;done)|(simp;omega)
 have q2:¬(8000:Int)<(a.size:Int):=by rw [←HSZ.out];omega
 have c0:W1.cell? ⟨w.heap.size,0,none⟩=some (.slice ma ml mc):=HA1.out.1.2 0 (by simp)
 have c1:W1.cell? ⟨w.heap.size,1,none⟩=some (.slice ca cl cc):=HA1.out.1.2 1 (by simp)
 have c2:W1.cell? ⟨w.heap.size,2,none⟩=some (.slice sa sl sc):=HA1.out.1.2 2 (by simp)
 have c3:W1.cell? ⟨w.heap.size,3,none⟩=some (.slice ea el ec):=HA1.out.1.2 3 (by simp)
 have c4:W1.cell? ⟨w.heap.size,4,none⟩=some (.slice ua ul uc):=HA1.out.1.2 4 (by simp)
 have c5:W1.cell? ⟨w.heap.size,5,none⟩=some (.slice da dl dc):=HA1.out.1.2 5 (by simp)
 have c6:W1.cell? ⟨w.heap.size,6,none⟩=some (.int .i64 fr):=HA1.out.1.2 6 (by simp)
 have cl0:=HA1.out.1.1
 go_enter Tryz.func7,Tryz.ntmps7
 go_wp2_with fail
 rw [←HW.out,←HBR.out,←HBS.out]
 clear HW HBR HBS q2
 refine (H1.out _ HB1.out).mono ?_
 rintro e w2 ⟨rfl,hb⟩
 clear c0 c1 c2 c3 c4 c5 c6 cl0
 have HB2:=H_ (HB1.out.trans (hb.mono HB1.out.size))
 have HA2:=H_ (HA1.out.below hb)
 have HS2:=H_ (HS1.out.below hb)
 have HR2:=H_ (HR1.out.below hb)
 have hs2:bR+1≤w2.heap.size:=by have:=hb.size;omega
 clear hb HB1 HA1 HS1 HR1 hs1
 cases b
 ·obtain ⟨⟨rl,rk⟩,rf⟩:=HR2.out
  have p0:w2.cell? ⟨bR,0,none⟩=some (.slice none 0 0):=rk 0 (by simp)
  have f0:w2.frozen? ⟨bR,0,none⟩=false:=rf 0 (by simp)
  have p1:w2.cell? ⟨bR,1,none⟩=some (.slice none 0 0):=rk 1 (by simp)
  have f1:w2.frozen? ⟨bR,1,none⟩=false:=rf 1 (by simp)
  have p2:w2.cell? ⟨bR,2,none⟩=some (.slice none 0 0):=rk 2 (by simp)
  have f2:w2.frozen? ⟨bR,2,none⟩=false:=rf 2 (by simp)
  have p3:w2.cell? ⟨bR,3,none⟩=some (.slice none 0 0):=rk 3 (by simp)
  have f3:w2.frozen? ⟨bR,3,none⟩=false:=rf 3 (by simp)
  have p4:w2.cell? ⟨bR,4,none⟩=some (.slice none 0 0):=rk 4 (by simp)
  have f4:w2.frozen? ⟨bR,4,none⟩=false:=rf 4 (by simp)
  have p5:w2.cell? ⟨bR,5,none⟩=some (.slice none 0 0):=rk 5 (by simp)
  have f5:w2.frozen? ⟨bR,5,none⟩=false:=rf 5 (by simp)
  have p6:w2.cell? ⟨bR,6,none⟩=some (.int .i64 0):=rk 6 (by simp)
  have f6:w2.frozen? ⟨bR,6,none⟩=false:=rf 6 (by simp)
  have p7:w2.cell? ⟨bR,7,none⟩=some (.int .i64 0):=rk 7 (by simp)
  have f7:w2.frozen? ⟨bR,7,none⟩=false:=rf 7 (by simp)
  have p8:w2.cell? ⟨bR,8,none⟩=some (.int .i64 0):=rk 8 (by simp)
  have f8:w2.frozen? ⟨bR,8,none⟩=false:=rf 8 (by simp)
  have p9:w2.cell? ⟨bR,9,none⟩=some (.int .i64 0):=rk 9 (by simp)
  have f9:w2.frozen? ⟨bR,9,none⟩=false:=rf 9 (by simp)
  have p10:w2.cell? ⟨bR,10,none⟩=some (.int .i64 0):=rk 10 (by simp)
  have f10:w2.frozen? ⟨bR,10,none⟩=false:=rf 10 (by simp)
  have p11:w2.cell? ⟨bR,11,none⟩=some (.int .i64 0):=rk 11 (by simp)
  have f11:w2.frozen? ⟨bR,11,none⟩=false:=rf 11 (by simp)
  have p12:w2.cell? ⟨bR,12,none⟩=some (.slice none 0 0):=rk 12 (by simp)
  have f12:w2.frozen? ⟨bR,12,none⟩=false:=rf 12 (by simp)
  have p13:w2.cell? ⟨bR,13,none⟩=some (.int .i64 0):=rk 13 (by simp)
  have f13:w2.frozen? ⟨bR,13,none⟩=false:=rf 13 (by simp)
  have hg:=StR.stL_grown bR [.slice none 0 0,.slice none 0 0,.slice none 0 0,.slice none 0 0,.slice none 0 0,.slice none 0 0,.int .i64 0,.int .i64 0,.int .i64 0,.int .i64 0,.int .i64 0,.int .i64 0,.slice none 0 0,.int .i64 1] 0 w2
  simp only [StR.stL,Nat.zero_add,Nat.reduceAdd] at hg
  have HG:=H_ hg
  have HB9:=H_ (HB2.out.grown hg HB2.out.size (fun _ e=>by cases e;omega))
  clear rk rf hg
  go_wp2_with fail
  refine bodyPost_ret (v:=.agg #[.slice none 0 0,.slice none 0 0,.slice none 0 0,.slice none 0 0,.slice none 0 0,.slice none 0 0,.int .i64 0,.int .i64 0,.int .i64 0,.int .i64 0,.int .i64 0,.int .i64 0,.slice none 0 0,.int .i64 1]) (by simp [results,Tryz.results7,go_sem,p0,p1,p2,p3,p4,p5,p6,p7,p8,p9,p10,p11,p12,p13]) rfl ?_
  exact P1.out (by omega) (by trivial) _ HB9.out
 have c1:w2.cell? ⟨w.heap.size,1,none⟩=some (.slice ca cl cc):=HA2.out.1.2 1 (by simp)
 have c2:w2.cell? ⟨w.heap.size,2,none⟩=some (.slice sa sl sc):=HA2.out.1.2 2 (by simp)
 have cl0:=HA2.out.1.1
 have s0:w2.cell? ⟨bS,0,none⟩=some (.string a):=HS2.out.1.2 0 (by simp)
 have sl0:=HS2.out.1.1
 go_wp2_with fail
 refine (H2.out _ bS HB2.out sl0 s0).mono ?_
 rintro e w3 ⟨rfl,hb⟩
 clear c1 c2 cl0 s0 sl0
 have HB3:=H_ (HB2.out.trans (hb.mono HB2.out.size))
 have HA3:=H_ (HA2.out.below hb)
 have HS3:=H_ (HS2.out.below hb)
 have HR3:=H_ (HR2.out.below hb)
 have hs3:bR+1≤w3.heap.size:=by have:=hb.size;omega
 clear hb HB2 HA2 HS2 HR2 hs2
 by_cases hneg:kI<0
 ·obtain ⟨⟨rl,rk⟩,rf⟩:=HR3.out
  have p0:w3.cell? ⟨bR,0,none⟩=some (.slice none 0 0):=rk 0 (by simp)
  have f0:w3.frozen? ⟨bR,0,none⟩=false:=rf 0 (by simp)
  have p1:w3.cell? ⟨bR,1,none⟩=some (.slice none 0 0):=rk 1 (by simp)
  have f1:w3.frozen? ⟨bR,1,none⟩=false:=rf 1 (by simp)
  have p2:w3.cell? ⟨bR,2,none⟩=some (.slice none 0 0):=rk 2 (by simp)
  have f2:w3.frozen? ⟨bR,2,none⟩=false:=rf 2 (by simp)
  have p3:w3.cell? ⟨bR,3,none⟩=some (.slice none 0 0):=rk 3 (by simp)
  have f3:w3.frozen? ⟨bR,3,none⟩=false:=rf 3 (by simp)
  have p4:w3.cell? ⟨bR,4,none⟩=some (.slice none 0 0):=rk 4 (by simp)
  have f4:w3.frozen? ⟨bR,4,none⟩=false:=rf 4 (by simp)
  have p5:w3.cell? ⟨bR,5,none⟩=some (.slice none 0 0):=rk 5 (by simp)
  have f5:w3.frozen? ⟨bR,5,none⟩=false:=rf 5 (by simp)
  have p6:w3.cell? ⟨bR,6,none⟩=some (.int .i64 0):=rk 6 (by simp)
  have f6:w3.frozen? ⟨bR,6,none⟩=false:=rf 6 (by simp)
  have p7:w3.cell? ⟨bR,7,none⟩=some (.int .i64 0):=rk 7 (by simp)
  have f7:w3.frozen? ⟨bR,7,none⟩=false:=rf 7 (by simp)
  have p8:w3.cell? ⟨bR,8,none⟩=some (.int .i64 0):=rk 8 (by simp)
  have f8:w3.frozen? ⟨bR,8,none⟩=false:=rf 8 (by simp)
  have p9:w3.cell? ⟨bR,9,none⟩=some (.int .i64 0):=rk 9 (by simp)
  have f9:w3.frozen? ⟨bR,9,none⟩=false:=rf 9 (by simp)
  have p10:w3.cell? ⟨bR,10,none⟩=some (.int .i64 0):=rk 10 (by simp)
  have f10:w3.frozen? ⟨bR,10,none⟩=false:=rf 10 (by simp)
  have p11:w3.cell? ⟨bR,11,none⟩=some (.int .i64 0):=rk 11 (by simp)
  have f11:w3.frozen? ⟨bR,11,none⟩=false:=rf 11 (by simp)
  have p12:w3.cell? ⟨bR,12,none⟩=some (.slice none 0 0):=rk 12 (by simp)
  have f12:w3.frozen? ⟨bR,12,none⟩=false:=rf 12 (by simp)
  have p13:w3.cell? ⟨bR,13,none⟩=some (.int .i64 0):=rk 13 (by simp)
  have f13:w3.frozen? ⟨bR,13,none⟩=false:=rf 13 (by simp)
  have hg:=StR.stL_grown bR [.slice none 0 0,.slice none 0 0,.slice none 0 0,.slice none 0 0,.slice none 0 0,.slice none 0 0,.int .i64 0,.int .i64 0,.int .i64 0,.int .i64 0,.int .i64 0,.int .i64 0,.slice none 0 0,.int .i64 6] 0 w3
  simp only [StR.stL,Nat.zero_add,Nat.reduceAdd] at hg
  have HG:=H_ hg
  have HB9:=H_ (HB3.out.grown hg HB3.out.size (fun _ e=>by cases e;omega))
  clear rk rf hg
  go_wp2_with fail
  refine bodyPost_ret (v:=.agg #[.slice none 0 0,.slice none 0 0,.slice none 0 0,.slice none 0 0,.slice none 0 0,.slice none 0 0,.int .i64 0,.int .i64 0,.int .i64 0,.int .i64 0,.int .i64 0,.int .i64 0,.slice none 0 0,.int .i64 6]) (by simp [results,Tryz.results7,go_sem,p0,p1,p2,p3,p4,p5,p6,p7,p8,p9,p10,p11,p12,p13]) rfl ?_
  exact P6.out (by omega) (by trivial) hneg _ HB9.out
 obtain ⟨hkk,hks,sb,so,hsa,hsb,hmk⟩:=HK.out (by omega)
 subst hkk hsa
 have hk0:(0:Int)≤(k:Int):=by omega
 have hk1:(k:Int)<(sl:Int):=by omega
 have mc0:w3.cell? ⟨sb,so+k*2+1,none⟩=some (.int .i64 mk):=(HB3.out.cell (p:=⟨sb,so+k*2+1,none⟩) hsb).trans hmk
 have msb:sb<w3.heap.size:=by have:=HB3.out.size;omega
 have HWI:=H_ (fun w=>DocR.inW m mk 121000000 w)
 clear hmk
 have c1:w3.cell? ⟨w.heap.size,1,none⟩=some (.slice ca cl cc):=HA3.out.1.2 1 (by simp)
 have c2:w3.cell? ⟨w.heap.size,2,none⟩=some (.slice (some ⟨sb,so,none⟩) sl sc):=HA3.out.1.2 2 (by simp)
 have cl0:=HA3.out.1.1
 have HKN:=H_ hneg
 clear hneg
 by_cases hm:mk≤m∧m≤121000000
 rotate_left
 ·rw [decide_eq_false hm] at HWI
  have HM:=H_ hm
  clear hm
  obtain ⟨⟨rl,rk⟩,rf⟩:=HR3.out
  have p0:w3.cell? ⟨bR,0,none⟩=some (.slice none 0 0):=rk 0 (by simp)
  have f0:w3.frozen? ⟨bR,0,none⟩=false:=rf 0 (by simp)
  have p1:w3.cell? ⟨bR,1,none⟩=some (.slice none 0 0):=rk 1 (by simp)
  have f1:w3.frozen? ⟨bR,1,none⟩=false:=rf 1 (by simp)
  have p2:w3.cell? ⟨bR,2,none⟩=some (.slice none 0 0):=rk 2 (by simp)
  have f2:w3.frozen? ⟨bR,2,none⟩=false:=rf 2 (by simp)
  have p3:w3.cell? ⟨bR,3,none⟩=some (.slice none 0 0):=rk 3 (by simp)
  have f3:w3.frozen? ⟨bR,3,none⟩=false:=rf 3 (by simp)
  have p4:w3.cell? ⟨bR,4,none⟩=some (.slice none 0 0):=rk 4 (by simp)
  have f4:w3.frozen? ⟨bR,4,none⟩=false:=rf 4 (by simp)
  have p5:w3.cell? ⟨bR,5,none⟩=some (.slice none 0 0):=rk 5 (by simp)
  have f5:w3.frozen? ⟨bR,5,none⟩=false:=rf 5 (by simp)
  have p6:w3.cell? ⟨bR,6,none⟩=some (.int .i64 0):=rk 6 (by simp)
  have f6:w3.frozen? ⟨bR,6,none⟩=false:=rf 6 (by simp)
  have p7:w3.cell? ⟨bR,7,none⟩=some (.int .i64 0):=rk 7 (by simp)
  have f7:w3.frozen? ⟨bR,7,none⟩=false:=rf 7 (by simp)
  have p8:w3.cell? ⟨bR,8,none⟩=some (.int .i64 0):=rk 8 (by simp)
  have f8:w3.frozen? ⟨bR,8,none⟩=false:=rf 8 (by simp)
  have p9:w3.cell? ⟨bR,9,none⟩=some (.int .i64 0):=rk 9 (by simp)
  have f9:w3.frozen? ⟨bR,9,none⟩=false:=rf 9 (by simp)
  have p10:w3.cell? ⟨bR,10,none⟩=some (.int .i64 0):=rk 10 (by simp)
  have f10:w3.frozen? ⟨bR,10,none⟩=false:=rf 10 (by simp)
  have p11:w3.cell? ⟨bR,11,none⟩=some (.int .i64 0):=rk 11 (by simp)
  have f11:w3.frozen? ⟨bR,11,none⟩=false:=rf 11 (by simp)
  have p12:w3.cell? ⟨bR,12,none⟩=some (.slice none 0 0):=rk 12 (by simp)
  have f12:w3.frozen? ⟨bR,12,none⟩=false:=rf 12 (by simp)
  have p13:w3.cell? ⟨bR,13,none⟩=some (.int .i64 0):=rk 13 (by simp)
  have f13:w3.frozen? ⟨bR,13,none⟩=false:=rf 13 (by simp)
  have hg:=StR.stL_grown bR [.slice none 0 0,.slice none 0 0,.slice none 0 0,.slice none 0 0,.slice none 0 0,.slice none 0 0,.int .i64 0,.int .i64 0,.int .i64 0,.int .i64 0,.int .i64 0,.int .i64 0,.slice none 0 0,.int .i64 8] 0 w3
  simp only [StR.stL,Nat.zero_add,Nat.reduceAdd] at hg
  have HG:=H_ hg
  have HB9:=H_ (HB3.out.grown hg HB3.out.size (fun _ e=>by cases e;omega))
  clear rk rf hg
  go_wp2_with (go_at_call 30;refine (HWI.out _).mono ?_;rintro e w' ⟨rfl,rfl⟩)
  refine bodyPost_ret (v:=.agg #[.slice none 0 0,.slice none 0 0,.slice none 0 0,.slice none 0 0,.slice none 0 0,.slice none 0 0,.int .i64 0,.int .i64 0,.int .i64 0,.int .i64 0,.int .i64 0,.int .i64 0,.slice none 0 0,.int .i64 8]) (by simp [results,Tryz.results7,go_sem,p0,p1,p2,p3,p4,p5,p6,p7,p8,p9,p10,p11,p12,p13]) rfl ?_
  exact P8.out (by omega) (by trivial) (by omega) (by first|exact HM.out|(have:=HM.out;omega)) _ HB9.out
 rw [decide_eq_true hm] at HWI
 have HM:=H_ hm
 clear hm
 obtain ⟨S3,hS3⟩:∃z,z=w3.heap.size:=⟨_,rfl⟩
 have hs4x:bR+1≤S3:=by rw [hS3];exact hs3
 have hs4z:w.heap.size≤S3:=by rw [hS3];exact HB3.out.size
 have HS3q:=H_ hS3
 clear hS3
 have c0:w3.cell? ⟨w.heap.size,0,none⟩=some (.slice ma ml mc):=HA3.out.1.2 0 (by simp)
 have c3:w3.cell? ⟨w.heap.size,3,none⟩=some (.slice ea el ec):=HA3.out.1.2 3 (by simp)
 have c4:w3.cell? ⟨w.heap.size,4,none⟩=some (.slice ua ul uc):=HA3.out.1.2 4 (by simp)
 have c5:w3.cell? ⟨w.heap.size,5,none⟩=some (.slice da dl dc):=HA3.out.1.2 5 (by simp)
 have c6:w3.cell? ⟨w.heap.size,6,none⟩=some (.int .i64 fr):=HA3.out.1.2 6 (by simp)
 go_wp2_with (go_at_call 30;refine (HWI.out _).mono ?_;rintro e w' ⟨rfl,rfl⟩)
 refine (H3.out (by trivial) _ HB3.out).mono ?_
 rintro e w4 ⟨xa,xc,ya,yc,za,zc,pa,pc,ra,rc,ta,tc,rfl,hza,hR,hb⟩
 obtain ⟨gS,rfl,hgl,hP⟩:=hza
 have HRR:=H_ hR
 have HP4:=H_ hP
 clear hR hP mc0 msb HWI c0 c1 c2 c3 c4 c5 c6 cl0
 have hs4y:S3≤gS:=by rw [HS3q.out];exact hgl
 rw [←HS3q.out] at HRR
 have HB4:=H_ (HB3.out.trans (hb.mono HB3.out.size))
 have HA4:=H_ (HA3.out.below hb)
 have HS4:=H_ (HS3.out.below hb)
 have HR4:=H_ (HR3.out.below hb)
 have hs4:bR+1≤w4.heap.size:=by have:=hb.size;omega
 clear hb HB3 HA3 HS3 HR3 hs3
 obtain ⟨W5,hW5⟩:∃z,z=w4.alloc (.cells #[.slice xa ml xc,.slice ya cl yc,.slice (some ⟨gS,0,none⟩) sl zc,.slice pa el pc,.slice ra ul rc,.slice ta dl tc,.int .i64 fr] 42):=⟨_,rfl⟩
 have hb:Below w4.heap.size w4 W5:=by rw [hW5];exact (Below.refl _ _).alloc (Nat.le_refl _) _
 have HV:Hid (BlkW w4.heap.size [.slice xa ml xc,.slice ya cl yc,.slice (some ⟨gS,0,none⟩) sl zc,.slice pa el pc,.slice ra ul rc,.slice ta dl tc,.int .i64 fr] W5):=H_ (by rw [hW5];exact BlkW.new w4 _ _)
 have HP5:=H_ (HP4.out.below hb)
 have HX:Hid (Below w4.heap.size w4 W5):=H_ hb
 have HB5:=H_ (HB4.out.trans (hb.mono HB4.out.size))
 have HA5:=H_ (HA4.out.below hb)
 have HS5:=H_ (HS4.out.below hb)
 have HR5:=H_ (HR4.out.below hb)
 have hs5:bR+1≤W5.heap.size:=by have:=hb.size;omega
 clear hb HB4 HA4 HS4 HR4 hs4
 obtain ⟨bV,hbV⟩:∃z,z=w4.heap.size:=⟨_,rfl⟩
 have hgV:gS<bV:=by rw [hbV];exact HP4.out.lt
 rw [←hbV] at HV
 have HBV:=H_ hbV
 have HW5:=H_ hW5
 clear hW5 hbV HP4
 have v1:W5.cell? ⟨bV,2,none⟩=some (.slice (some ⟨gS,0,none⟩) sl zc):=HV.out.1.2 2 (by simp)
 have vl:=HV.out.1.1
 obtain ⟨uu,e0⟩:=HP5.out.has (k*2+1) (by omega)
 have e1:=HP5.out.free (k*2+1) (by omega)
 have el0:=HP5.out.lt
 obtain ⟨W6,hW6⟩:∃z,z=W5.setCell ⟨gS,k*2+1,none⟩ (.int .i64 m):=⟨_,rfl⟩
 have hg6:W5.grownBy W6 (some gS):=by rw [hW6];exact grown_set _ _ _ _
 have HB6:=H_ (HB5.out.grown hg6 HB5.out.size (fun _ e=>by cases e;omega))
 have HR6:=H_ (blkW_grown HR5.out hg6 (by simp;omega))
 have HV6:=H_ (blkW_grown HV.out hg6 (by simp;omega))
 have HQ:Hid (R3 S3 (.agg #[.slice xa ml xc,.slice ya cl yc,.slice (some ⟨gS,0,none⟩) sl zc,.slice pa el pc,.slice ra ul rc,.slice ta dl tc,.int .i64 fr]) W6):=H_ (by rw [hW6];exact HRR.out W5 HX.out gS rfl)
 have HW6:=H_ hW6
 clear hg6 hW6 HRR HX
 have vl6:=HV6.out.1.1
 obtain ⟨⟨rl,rk⟩,rf⟩:=HR6.out
 have p0:W6.cell? ⟨bR,0,none⟩=some (.slice none 0 0):=rk 0 (by simp)
 have f0:W6.frozen? ⟨bR,0,none⟩=false:=rf 0 (by simp)
 have p1:W6.cell? ⟨bR,1,none⟩=some (.slice none 0 0):=rk 1 (by simp)
 have f1:W6.frozen? ⟨bR,1,none⟩=false:=rf 1 (by simp)
 have p2:W6.cell? ⟨bR,2,none⟩=some (.slice none 0 0):=rk 2 (by simp)
 have f2:W6.frozen? ⟨bR,2,none⟩=false:=rf 2 (by simp)
 have p3:W6.cell? ⟨bR,3,none⟩=some (.slice none 0 0):=rk 3 (by simp)
 have f3:W6.frozen? ⟨bR,3,none⟩=false:=rf 3 (by simp)
 have p4:W6.cell? ⟨bR,4,none⟩=some (.slice none 0 0):=rk 4 (by simp)
 have f4:W6.frozen? ⟨bR,4,none⟩=false:=rf 4 (by simp)
 have p5:W6.cell? ⟨bR,5,none⟩=some (.slice none 0 0):=rk 5 (by simp)
 have f5:W6.frozen? ⟨bR,5,none⟩=false:=rf 5 (by simp)
 have p6:W6.cell? ⟨bR,6,none⟩=some (.int .i64 0):=rk 6 (by simp)
 have f6:W6.frozen? ⟨bR,6,none⟩=false:=rf 6 (by simp)
 have p7:W6.cell? ⟨bR,7,none⟩=some (.int .i64 0):=rk 7 (by simp)
 have f7:W6.frozen? ⟨bR,7,none⟩=false:=rf 7 (by simp)
 have p8:W6.cell? ⟨bR,8,none⟩=some (.int .i64 0):=rk 8 (by simp)
 have f8:W6.frozen? ⟨bR,8,none⟩=false:=rf 8 (by simp)
 have p9:W6.cell? ⟨bR,9,none⟩=some (.int .i64 0):=rk 9 (by simp)
 have f9:W6.frozen? ⟨bR,9,none⟩=false:=rf 9 (by simp)
 have p10:W6.cell? ⟨bR,10,none⟩=some (.int .i64 0):=rk 10 (by simp)
 have f10:W6.frozen? ⟨bR,10,none⟩=false:=rf 10 (by simp)
 have p11:W6.cell? ⟨bR,11,none⟩=some (.int .i64 0):=rk 11 (by simp)
 have f11:W6.frozen? ⟨bR,11,none⟩=false:=rf 11 (by simp)
 have p12:W6.cell? ⟨bR,12,none⟩=some (.slice none 0 0):=rk 12 (by simp)
 have f12:W6.frozen? ⟨bR,12,none⟩=false:=rf 12 (by simp)
 have p13:W6.cell? ⟨bR,13,none⟩=some (.int .i64 0):=rk 13 (by simp)
 have f13:W6.frozen? ⟨bR,13,none⟩=false:=rf 13 (by simp)
 have hg:=StR.stL_grown bR [.slice xa ml xc,.slice ya cl yc,.slice (some ⟨gS,0,none⟩) sl zc,.slice pa el pc,.slice ra ul rc,.slice ta dl tc,.int .i64 fr,.int .i64 0,.int .i64 0,.int .i64 0,.int .i64 0,.int .i64 0,.slice none 0 0,.int .i64 0] 0 W6
 simp only [StR.stL,Nat.zero_add,Nat.reduceAdd] at hg
 have HB9:=H_ (HB6.out.grown hg HB6.out.size (fun _ e=>by cases e;omega))
 have HQ9:=H_ (KG.out _ _ _ _ _ HQ.out hg (by omega))
 clear rk rf hg HQ
 have v0:W6.cell? ⟨bV,0,none⟩=some (.slice xa ml xc):=HV6.out.1.2 0 (by simp)
 have vv1:W6.cell? ⟨bV,1,none⟩=some (.slice ya cl yc):=HV6.out.1.2 1 (by simp)
 have vv2:W6.cell? ⟨bV,2,none⟩=some (.slice (some ⟨gS,0,none⟩) sl zc):=HV6.out.1.2 2 (by simp)
 have v3:W6.cell? ⟨bV,3,none⟩=some (.slice pa el pc):=HV6.out.1.2 3 (by simp)
 have v4:W6.cell? ⟨bV,4,none⟩=some (.slice ra ul rc):=HV6.out.1.2 4 (by simp)
 have v5:W6.cell? ⟨bV,5,none⟩=some (.slice ta dl tc):=HV6.out.1.2 5 (by simp)
 have v6:W6.cell? ⟨bV,6,none⟩=some (.int .i64 fr):=HV6.out.1.2 6 (by simp)
 have e6:=HW6.out
 have e5:=HW5.out
 have ev:=HBV.out
 subst e6
 subst e5
 subst ev
 clear HW6 HW5 HBV HV HV6 HR6 HR5 HP5 HB5 HB6 HA5 HS5
 have hcm:=fun (o:Obj)=>(by simp [go_sem,hgV]:(w4.alloc o).setCell ⟨gS,k*2+1,none⟩ (.int .i64 m)=(w4.setCell ⟨gS,k*2+1,none⟩ (.int .i64 m)).alloc o)
 rw [hcm] at p0 p1 p2 p3 p4 p5 p6 p7 p8 p9 p10 p11 p12 p13 f0 f1 f2 f3 f4 f5 f6 f7 f8 f9 f10 f11 f12 f13 v0 vv1 vv2 v3 v4 v5 v6 vl6 rl HB9 HQ9
 clear hcm
 go_wp2_with fail
 refine bodyPost_ret (v:=.agg #[.slice xa ml xc,.slice ya cl yc,.slice (some ⟨gS,0,none⟩) sl zc,.slice pa el pc,.slice ra ul rc,.slice ta dl tc,.int .i64 fr,.int .i64 0,.int .i64 0,.int .i64 0,.int .i64 0,.int .i64 0,.slice none 0 0,.int .i64 0]) (by simp [results,Tryz.results7,go_sem,p0,p1,p2,p3,p4,p5,p6,p7,p8,p9,p10,p11,p12,p13]) rfl ?_
 exact P0.out (by omega) (by trivial) (by omega) (by first|exact HM.out|(have:=HM.out;omega)) _ _ _ _ _ _ _ _ _ _ _ _ S3 _ hs4z HQ9.out HB9.out
end EngR
end Go.Proofs.YtnceeaccbcfopaaGreatDoor
