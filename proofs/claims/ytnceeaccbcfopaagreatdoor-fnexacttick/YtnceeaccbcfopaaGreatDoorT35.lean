/-
  impl.Tick: what it answers.
  The model's copy of a window, and lists of windows of one's own, by their types.
  The conditions stand in what each theorem says.
-/
import Derived.Test.YtnceeaccbcfopaaGreatDoorT34
set_option maxRecDepth 100000
set_option maxHeartbeats 16000000
namespace Go.Proofs.YtnceeaccbcfopaaGreatDoor
open Go.ChangeShapes Go.WideShapes Go.ChangeAt Go.RowKit
set_option linter.unusedVariables false
namespace EngR
open OwG CatR ChG DocR
open RowG (cellsAll grown_set MadeG Rws)
open EvtR (Pt)
theorem tick1 (n:ByteArray) (q:Int) (t:ByteArray) (B:Nat) (w:World) (hB:B<w.heap.size) (hc:w.cell? ⟨B,0,none⟩=some (.string t)) :
 Calls Tryz.prog 29 #[.agg #[.string n,.int .i64 q],.pointer (some ⟨B,0,none⟩)] w fun e w'=>e=.returned (.bool (decide (n=t)))∧Below w.heap.size w w':=by
 have HB:Hid (Below w.heap.size w (w.alloc (.cells #[.string n,.int .i64 q] 63))):=H_ (al_ _ _)
 by_cases h:n=t
 ·subst h
  go_enter Tryz.func29,Tryz.ntmps29
  go_wp2_with fail
  go_ret
  exact ⟨by simp,HB.out⟩
 ·have hne2:(n.toList==t.toList)=false:=by simpa using fun q=>h (LtR.toList_inj q)
  rw [decide_eq_false h]
  go_enter Tryz.func29,Tryz.ntmps29
  go_wp2_with fail
  go_ret
  exact ⟨rfl,HB.out⟩
def sixI (ss:List Cr) (a:ByteArray):Int:=if six ss a<ss.length then (six ss a:Nat) else -1
theorem idxS (ma:Option Addr) (mc:Nat) (ss:List Cr) (t:ByteArray) (B:Nat) (w:World) (hM:Crs ma ss.length ss w) (hlen:ss.length≤1048576) (hB:B<w.heap.size) (hc:w.cell? ⟨B,0,none⟩=some (.string t)) :
 Calls Tryz.prog 28 #[.slice ma ss.length mc,.func (.func 29) #[] #[.pointer (some ⟨B,0,none⟩)]] w fun e w'=>e=.returned (.int .i64 (sixI ss t))∧Below w.heap.size w w':=by
 have HM:=H_ hM
 have HC:=H_ hc
 have HY:Hid (∀k,k<ss.length→(∀i,i<k→(ss.getD i Cr.zero).a≠t)→(ss.getD k Cr.zero).a=t→sixI ss t=(k:Int)):=H_ (fun k hk hn he=>by
  have:=six_at hk hn he
  unfold sixI
  rw [this,if_pos hk])
 have HNo:Hid ((∀i,i<ss.length→(ss.getD i Cr.zero).a≠t)→sixI ss t=-1):=H_ (fun h=>by
  have:=six_no h
  unfold sixI
  rw [this,if_neg (by omega)])
 generalize sixI ss t=R at *
 obtain ⟨len,hl⟩:∃len,len=ss.length:=⟨_,rfl⟩
 rw [←hl] at hlen HY HNo ⊢
 have HL:=H_ hl
 clear hM hc hl
 go_enter Tryz.func28,Tryz.ntmps28
 go_wp2_with fail
 go_loopw [5,8] (fun y z wr=>∃k:Nat,k≤len∧z=.int .i64 k∧Hid (∀i,i<k→(ss.getD i Cr.zero).a≠t)∧Hid (Below w.heap.size w wr)) (fun _ z _=>len-(intOf z).toNat)
 case atStart=>exact ⟨0,by omega,rfl,H_ (fun i hi=>absurd hi (by omega)),H_ (Below.refl _ _)⟩
 case round =>
  obtain ⟨k,hk,rfl,HN,HB⟩:=hrel
  by_cases hlt:k<len
  ·have hlt2:(k:Int)<(len:Int):=by omega
   obtain ⟨b,off,rfl,hbl,c0,c1⟩:=crs_at (HM.out.below HB.out) k (by have:=HL.out;omega)
   have HYk:=H_ (HY.out k (by omega) HN.out)
   have HNk:Hid ((ss.getD k Cr.zero).a≠t→∀i,i<k+1→(ss.getD i Cr.zero).a≠t):=H_ (fun h i hi=>by
    by_cases e:i=k
    ·subst e;exact h
    ·exact HN.out i (by omega))
   have hBl:B<wr.heap.size:=by have:=HB.out.size;omega
   have hcw:wr.cell? ⟨B,0,none⟩=some (.string t):=(HB.out.cell (p:=⟨B,0,none⟩) hB).trans HC.out
   generalize ss.getD k Cr.zero=X at *
   obtain ⟨xn,xm⟩:=X
   dsimp only at c0 c1 HYk HNk
   have HS:=H_ (tick1 xn xm t B wr hBl hcw)
   clear hcw
   by_cases he:xn=t
   ·rw [decide_eq_true he] at HS
    have HR:=H_ (HYk.out he)
    clear he
    go_wp2_with fail
    refine HS.out.mono ?_
    rintro e w1 ⟨rfl,hb⟩
    have HB1:=HT_ HB hb
    clear hb c0 c1
    go_wp2_with fail
    go_ret
    exact ⟨by rw [HR.out];rfl,HB1.out⟩
   ·rw [decide_eq_false he] at HS
    have HN2:=H_ (HNk.out he)
    clear he
    go_wp2_with fail
    refine HS.out.mono ?_
    rintro e w1 ⟨rfl,hb⟩
    have HB1:=HT_ HB hb
    clear hb c0 c1
    go_wp2_with fail
    go_roundw
    case rel=>exact ⟨k+1,by omega,by go_num,HN2,HB1⟩
    case measure=>simp [intOf];omega
  ·have hlt2:¬(k:Int)<(len:Int):=by omega
   have HR:=H_ (HNo.out (fun i hi=>HN.out i (by omega)))
   go_wp2_with fail
   go_ret
   exact ⟨by rw [HR.out];rfl,HB.out⟩
theorem itick_in (ma:Option Addr) (ml mc:Nat) (ca:Option Addr) (cl cc:Nat) (sa:Option Addr) (sl sc:Nat) (ea:Option Addr) (el ec:Nat) (ua:Option Addr) (ul uc:Nat) (da:Option Addr) (dl dc:Nat) (fr:Int) (a:ByteArray) (m:Int) (b:Bool) (kI:Int) (k:Nat) (mk:Int) (R3:Nat→Value→World→Prop) (Post:Ending→World→Prop) (w:World)
 (hk:¬kI<0→kI=(k:Int)∧k<sl∧∃sb so,sa=some ⟨sb,so,none⟩∧sb<w.heap.size∧w.cell? ⟨sb,so+k*2+1,none⟩=some (.int .i64 mk))
 (h1:∀W,Below w.heap.size w W→Calls Tryz.prog 27 #[.agg #[.slice ma ml mc,.slice ca cl cc,.slice sa sl sc,.slice ea el ec,.slice ua ul uc,.slice da dl dc,.int .i64 fr]] W fun e w'=>e=.returned (.bool b)∧Below W.heap.size W w')
 (h2:∀W B,Below w.heap.size w W→B<W.heap.size→W.cell? ⟨B,0,none⟩=some (.string a)→Calls Tryz.prog 28 #[.slice sa sl sc,.func (.func 29) #[] #[.pointer (some ⟨B,0,none⟩)]] W fun e w'=>e=.returned (.int .i64 kI)∧Below W.heap.size W w')
 (h3:b=true→∀W,Below w.heap.size w W→Calls Tryz.prog 31 #[.agg #[.slice ma ml mc,.slice ca cl cc,.slice sa sl sc,.slice ea el ec,.slice ua ul uc,.slice da dl dc,.int .i64 fr]] W fun e w'=>∃(xa:Option Addr) (xc:Nat) (ya:Option Addr) (yc:Nat) (za:Option Addr) (zc:Nat) (pa:Option Addr) (pc:Nat) (ra:Option Addr) (rc:Nat) (ta:Option Addr) (tc:Nat),e=.returned (.agg #[.slice xa ml xc,.slice ya cl yc,.slice za sl zc,.slice pa el pc,.slice ra ul rc,.slice ta dl tc,.int .i64 fr])∧(∃g,za=some ⟨g,0,none⟩∧W.heap.size≤g∧Pt g (sl*2) w')∧(∀W2,Below w'.heap.size w' W2→∀g,za=some ⟨g,0,none⟩→R3 W.heap.size (.agg #[.slice xa ml xc,.slice ya cl yc,.slice za sl zc,.slice pa el pc,.slice ra ul rc,.slice ta dl tc,.int .i64 fr]) (W2.setCell ⟨g,k*2+1,none⟩ (.int .i64 m)))∧Below W.heap.size W w')
 (kg:∀lo v W W' g,R3 lo v W→W.grownBy W' (some g)→g<lo→R3 lo v W')
 (p2:8000<a.size→∀w',Below w.heap.size w w'→Post (.returned (.agg #[.slice none 0 0,.slice none 0 0,.slice none 0 0,.slice none 0 0,.slice none 0 0,.slice none 0 0,.int .i64 0,.int .i64 0,.int .i64 0,.int .i64 0,.int .i64 0,.int .i64 0,.slice none 0 0,.int .i64 2])) w')
 (p1:a.size≤8000→b=false→∀w',Below w.heap.size w w'→Post (.returned (.agg #[.slice none 0 0,.slice none 0 0,.slice none 0 0,.slice none 0 0,.slice none 0 0,.slice none 0 0,.int .i64 0,.int .i64 0,.int .i64 0,.int .i64 0,.int .i64 0,.int .i64 0,.slice none 0 0,.int .i64 1])) w')
 (p6:a.size≤8000→b=true→kI<0→∀w',Below w.heap.size w w'→Post (.returned (.agg #[.slice none 0 0,.slice none 0 0,.slice none 0 0,.slice none 0 0,.slice none 0 0,.slice none 0 0,.int .i64 0,.int .i64 0,.int .i64 0,.int .i64 0,.int .i64 0,.int .i64 0,.slice none 0 0,.int .i64 6])) w')
 (p8:a.size≤8000→b=true→¬kI<0→¬(mk≤m∧m≤121000000)→∀w',Below w.heap.size w w'→Post (.returned (.agg #[.slice none 0 0,.slice none 0 0,.slice none 0 0,.slice none 0 0,.slice none 0 0,.slice none 0 0,.int .i64 0,.int .i64 0,.int .i64 0,.int .i64 0,.int .i64 0,.int .i64 0,.slice none 0 0,.int .i64 8])) w')
 (p0:a.size≤8000→b=true→¬kI<0→(mk≤m∧m≤121000000)→∀(xa:Option Addr) (xc:Nat) (ya:Option Addr) (yc:Nat) (za:Option Addr) (zc:Nat) (pa:Option Addr) (pc:Nat) (ra:Option Addr) (rc:Nat) (ta:Option Addr) (tc:Nat) lo w',w.heap.size≤lo→R3 lo (.agg #[.slice xa ml xc,.slice ya cl yc,.slice za sl zc,.slice pa el pc,.slice ra ul rc,.slice ta dl tc,.int .i64 fr]) w'→Below w.heap.size w w'→Post (.returned (.agg #[.slice xa ml xc,.slice ya cl yc,.slice za sl zc,.slice pa el pc,.slice ra ul rc,.slice ta dl tc,.int .i64 fr,.int .i64 0,.int .i64 0,.int .i64 0,.int .i64 0,.int .i64 0,.slice none 0 0,.int .i64 0])) w') :
 Calls Tryz.prog 7 #[.agg #[.slice ma ml mc,.slice ca cl cc,.slice sa sl sc,.slice ea el ec,.slice ua ul uc,.slice da dl dc,.int .i64 fr],.string a,.int .i64 m] w fun e w'=>Post e w':=by
 have H1:=H_ h1
 have H2:=H_ h2
 have H3:=H_ h3
 have P2:=H_ p2
 have P1:=H_ p1
 have P6:=H_ p6
 have P8:=H_ p8
 have P0:=H_ p0
 have KG:=H_ kg
 have HK:=H_ hk
 clear h1 h2 h3 p2 p1 p6 p8 p0 kg hk
 obtain ⟨sz,hsz⟩:∃z,z=a.size:=⟨_,rfl⟩
 rw [←hsz] at P2 P1 P6 P8 P0
 have HSZ:=H_ hsz
 obtain ⟨W1,hW1⟩:∃z,z=((w.alloc (.cells #[.slice ma ml mc,.slice ca cl cc,.slice sa sl sc,.slice ea el ec,.slice ua ul uc,.slice da dl dc,.int .i64 fr] 42)).alloc (.cells #[.string a] 9)).alloc (.cells #[.slice none 0 0,.slice none 0 0,.slice none 0 0,.slice none 0 0,.slice none 0 0,.slice none 0 0,.int .i64 0,.int .i64 0,.int .i64 0,.int .i64 0,.int .i64 0,.int .i64 0,.slice none 0 0,.int .i64 0] 46):=⟨_,rfl⟩
 have HB1:Hid (Below w.heap.size w W1):=H_ (by rw [hW1];exact ((al_ _ _).alloc (by simp) _).alloc (by simp;omega) _)
 have HA1:Hid (BlkW w.heap.size [.slice ma ml mc,.slice ca cl cc,.slice sa sl sc,.slice ea el ec,.slice ua ul uc,.slice da dl dc,.int .i64 fr] W1):=H_ (by rw [hW1];exact blkW_alloc (blkW_alloc (BlkW.new w [.slice ma ml mc,.slice ca cl cc,.slice sa sl sc,.slice ea el ec,.slice ua ul uc,.slice da dl dc,.int .i64 fr] 42) _) _)
 have HS1:Hid (BlkW (w.heap.size+1) [.string a] W1):=H_ (by
  rw [hW1]
  have:=blkW_alloc (BlkW.new (w.alloc (.cells #[.slice ma ml mc,.slice ca cl cc,.slice sa sl sc,.slice ea el ec,.slice ua ul uc,.slice da dl dc,.int .i64 fr] 42)) [.string a] 9) (.cells #[.slice none 0 0,.slice none 0 0,.slice none 0 0,.slice none 0 0,.slice none 0 0,.slice none 0 0,.int .i64 0,.int .i64 0,.int .i64 0,.int .i64 0,.int .i64 0,.int .i64 0,.slice none 0 0,.int .i64 0] 46)
  simpa using this)
 have HR1:Hid (BlkW (w.heap.size+1+1) [.slice none 0 0,.slice none 0 0,.slice none 0 0,.slice none 0 0,.slice none 0 0,.slice none 0 0,.int .i64 0,.int .i64 0,.int .i64 0,.int .i64 0,.int .i64 0,.int .i64 0,.slice none 0 0,.int .i64 0] W1):=H_ (by
  rw [hW1]
  have:=BlkW.new ((w.alloc (.cells #[.slice ma ml mc,.slice ca cl cc,.slice sa sl sc,.slice ea el ec,.slice ua ul uc,.slice da dl dc,.int .i64 fr] 42)).alloc (.cells #[.string a] 9)) [.slice none 0 0,.slice none 0 0,.slice none 0 0,.slice none 0 0,.slice none 0 0,.slice none 0 0,.int .i64 0,.int .i64 0,.int .i64 0,.int .i64 0,.int .i64 0,.int .i64 0,.slice none 0 0,.int .i64 0] 46
  simpa using this)
 obtain ⟨bR,hbR⟩:∃z,z=w.heap.size+1+1:=⟨_,rfl⟩
 rw [←hbR] at HR1
 obtain ⟨bS,hbS⟩:∃z,z=w.heap.size+1:=⟨_,rfl⟩
 rw [←hbS] at HS1
 have hlo:w.heap.size<bS:=by omega
 have hlo2:bS<bR:=by omega
 have hs1:bR+1≤W1.heap.size:=HR1.out.1.1
 have HW:=H_ hW1
 have HBR:=H_ hbR
 have HBS:=H_ hbS
 clear hW1 hbR hbS hsz
 by_cases hbig:8000<sz
 ·have q2:(8000:Int)<(sz:Int):=by omega
  go_enter Tryz.func7,Tryz.ntmps7
  rw [HSZ.out] at q2
  go_wp2_with fail
  refine bodyPost_ret (v:=.agg #[.slice none 0 0,.slice none 0 0,.slice none 0 0,.slice none 0 0,.slice none 0 0,.slice none 0 0,.int .i64 0,.int .i64 0,.int .i64 0,.int .i64 0,.int .i64 0,.int .i64 0,.slice none 0 0,.int .i64 2]) (by simp [results,Tryz.results7,go_sem]) rfl ?_
  refine P2.out hbig _ ?_
  repeat' first|exact Below.refl _ _|apply Below.setCell|apply Below.alloc
  all_goals first|omega|(simp;done)|(simp;omega)
 have q2:¬(8000:Int)<(a.size:Int):=by rw [←HSZ.out];omega
 have c0:=q_ HA1.out.1.2 0
 have c1:=q_ HA1.out.1.2 1
 have c2:=q_ HA1.out.1.2 2
 have c3:=q_ HA1.out.1.2 3
 have c4:=q_ HA1.out.1.2 4
 have c5:=q_ HA1.out.1.2 5
 have c6:=q_ HA1.out.1.2 6
 have cl0:=HA1.out.1.1
 go_enter Tryz.func7,Tryz.ntmps7
 go_wp2_with fail
 rw [←HW.out,←HBR.out,←HBS.out]
 clear HW HBR HBS q2
 refine (H1.out _ HB1.out).mono ?_
 rintro e w2 ⟨rfl,hb⟩
 clear c0 c1 c2 c3 c4 c5 c6 cl0
 have HB2:=HT_ HB1 hb
 have HA2:=H_ (HA1.out.below hb)
 have HS2:=H_ (HS1.out.below hb)
 have HR2:=H_ (HR1.out.below hb)
 have hs2:bR+1≤w2.heap.size:=by have:=hb.size;omega
 clear hb HB1 HA1 HS1 HR1 hs1
 cases b
 ·obtain ⟨⟨rl,rk⟩,rf⟩:=HR2.out
  have p0:=q_ rk 0
  have f0:=rf 0 (by simp)
  have p1:=q_ rk 1
  have f1:=rf 1 (by simp)
  have p2:=q_ rk 2
  have f2:=rf 2 (by simp)
  have p3:=q_ rk 3
  have f3:=rf 3 (by simp)
  have p4:=q_ rk 4
  have f4:=rf 4 (by simp)
  have p5:=q_ rk 5
  have f5:=rf 5 (by simp)
  have p6:=q_ rk 6
  have f6:=rf 6 (by simp)
  have p7:=q_ rk 7
  have f7:=rf 7 (by simp)
  have p8:=q_ rk 8
  have f8:=rf 8 (by simp)
  have p9:=q_ rk 9
  have f9:=rf 9 (by simp)
  have p10:=q_ rk 10
  have f10:=rf 10 (by simp)
  have p11:=q_ rk 11
  have f11:=rf 11 (by simp)
  have p12:=q_ rk 12
  have f12:=rf 12 (by simp)
  have p13:=q_ rk 13
  have f13:=rf 13 (by simp)
  have hg:=StR.stL_grown bR [.slice none 0 0,.slice none 0 0,.slice none 0 0,.slice none 0 0,.slice none 0 0,.slice none 0 0,.int .i64 0,.int .i64 0,.int .i64 0,.int .i64 0,.int .i64 0,.int .i64 0,.slice none 0 0,.int .i64 1] 0 w2
  simp only [StR.stL,Nat.zero_add,Nat.reduceAdd] at hg
  have HG:=H_ hg
  have HB9:=H_ (HB2.out.grown hg HB2.out.size (fun _ e=>by cases e;omega))
  clear rk rf hg
  go_wp2_with fail
  refine bodyPost_ret (v:=.agg #[.slice none 0 0,.slice none 0 0,.slice none 0 0,.slice none 0 0,.slice none 0 0,.slice none 0 0,.int .i64 0,.int .i64 0,.int .i64 0,.int .i64 0,.int .i64 0,.int .i64 0,.slice none 0 0,.int .i64 1]) (by simp [results,Tryz.results7,go_sem,p0,p1,p2,p3,p4,p5,p6,p7,p8,p9,p10,p11,p12,p13]) rfl ?_
  exact P1.out (by omega) (by trivial) _ HB9.out
 have c1:=q_ HA2.out.1.2 1
 have c2:=q_ HA2.out.1.2 2
 have cl0:=HA2.out.1.1
 have s0:=q_ HS2.out.1.2 0
 have sl0:=HS2.out.1.1
 go_wp2_with fail
 refine (H2.out _ bS HB2.out sl0 s0).mono ?_
 rintro e w3 ⟨rfl,hb⟩
 clear c1 c2 cl0 s0 sl0
 have HB3:=HT_ HB2 hb
 have HA3:=H_ (HA2.out.below hb)
 have HS3:=H_ (HS2.out.below hb)
 have HR3:=H_ (HR2.out.below hb)
 have hs3:bR+1≤w3.heap.size:=by have:=hb.size;omega
 clear hb HB2 HA2 HS2 HR2 hs2
 by_cases hneg:kI<0
 ·obtain ⟨⟨rl,rk⟩,rf⟩:=HR3.out
  have p0:=q_ rk 0
  have f0:=rf 0 (by simp)
  have p1:=q_ rk 1
  have f1:=rf 1 (by simp)
  have p2:=q_ rk 2
  have f2:=rf 2 (by simp)
  have p3:=q_ rk 3
  have f3:=rf 3 (by simp)
  have p4:=q_ rk 4
  have f4:=rf 4 (by simp)
  have p5:=q_ rk 5
  have f5:=rf 5 (by simp)
  have p6:=q_ rk 6
  have f6:=rf 6 (by simp)
  have p7:=q_ rk 7
  have f7:=rf 7 (by simp)
  have p8:=q_ rk 8
  have f8:=rf 8 (by simp)
  have p9:=q_ rk 9
  have f9:=rf 9 (by simp)
  have p10:=q_ rk 10
  have f10:=rf 10 (by simp)
  have p11:=q_ rk 11
  have f11:=rf 11 (by simp)
  have p12:=q_ rk 12
  have f12:=rf 12 (by simp)
  have p13:=q_ rk 13
  have f13:=rf 13 (by simp)
  have hg:=StR.stL_grown bR [.slice none 0 0,.slice none 0 0,.slice none 0 0,.slice none 0 0,.slice none 0 0,.slice none 0 0,.int .i64 0,.int .i64 0,.int .i64 0,.int .i64 0,.int .i64 0,.int .i64 0,.slice none 0 0,.int .i64 6] 0 w3
  simp only [StR.stL,Nat.zero_add,Nat.reduceAdd] at hg
  have HG:=H_ hg
  have HB9:=H_ (HB3.out.grown hg HB3.out.size (fun _ e=>by cases e;omega))
  clear rk rf hg
  go_wp2_with fail
  refine bodyPost_ret (v:=.agg #[.slice none 0 0,.slice none 0 0,.slice none 0 0,.slice none 0 0,.slice none 0 0,.slice none 0 0,.int .i64 0,.int .i64 0,.int .i64 0,.int .i64 0,.int .i64 0,.int .i64 0,.slice none 0 0,.int .i64 6]) (by simp [results,Tryz.results7,go_sem,p0,p1,p2,p3,p4,p5,p6,p7,p8,p9,p10,p11,p12,p13]) rfl ?_
  exact P6.out (by omega) (by trivial) hneg _ HB9.out
 obtain ⟨hkk,hks,sb,so,hsa,hsb,hmk⟩:=HK.out (by omega)
 subst hkk hsa
 have hk0:(0:Int)≤(k:Int):=by omega
 have hk1:(k:Int)<(sl:Int):=by omega
 have mc0:w3.cell? ⟨sb,so+k*2+1,none⟩=some (.int .i64 mk):=(HB3.out.cell (p:=⟨sb,so+k*2+1,none⟩) hsb).trans hmk
 have msb:sb<w3.heap.size:=by have:=HB3.out.size;omega
 have HWI:=H_ (fun w=>DocR.inW m mk 121000000 w)
 clear hmk
 have c1:=q_ HA3.out.1.2 1
 have c2:=q_ HA3.out.1.2 2
 have cl0:=HA3.out.1.1
 have HKN:=H_ hneg
 clear hneg
 by_cases hm:mk≤m∧m≤121000000
 rotate_left
 ·rw [decide_eq_false hm] at HWI
  have HM:=H_ hm
  clear hm
  obtain ⟨⟨rl,rk⟩,rf⟩:=HR3.out
  have p0:=q_ rk 0
  have f0:=rf 0 (by simp)
  have p1:=q_ rk 1
  have f1:=rf 1 (by simp)
  have p2:=q_ rk 2
  have f2:=rf 2 (by simp)
  have p3:=q_ rk 3
  have f3:=rf 3 (by simp)
  have p4:=q_ rk 4
  have f4:=rf 4 (by simp)
  have p5:=q_ rk 5
  have f5:=rf 5 (by simp)
  have p6:=q_ rk 6
  have f6:=rf 6 (by simp)
  have p7:=q_ rk 7
  have f7:=rf 7 (by simp)
  have p8:=q_ rk 8
  have f8:=rf 8 (by simp)
  have p9:=q_ rk 9
  have f9:=rf 9 (by simp)
  have p10:=q_ rk 10
  have f10:=rf 10 (by simp)
  have p11:=q_ rk 11
  have f11:=rf 11 (by simp)
  have p12:=q_ rk 12
  have f12:=rf 12 (by simp)
  have p13:=q_ rk 13
  have f13:=rf 13 (by simp)
  have hg:=StR.stL_grown bR [.slice none 0 0,.slice none 0 0,.slice none 0 0,.slice none 0 0,.slice none 0 0,.slice none 0 0,.int .i64 0,.int .i64 0,.int .i64 0,.int .i64 0,.int .i64 0,.int .i64 0,.slice none 0 0,.int .i64 8] 0 w3
  simp only [StR.stL,Nat.zero_add,Nat.reduceAdd] at hg
  have HG:=H_ hg
  have HB9:=H_ (HB3.out.grown hg HB3.out.size (fun _ e=>by cases e;omega))
  clear rk rf hg
  go_wp2_with (go_at_call 30;refine (HWI.out _).mono ?_;rintro e w' ⟨rfl,rfl⟩)
  refine bodyPost_ret (v:=.agg #[.slice none 0 0,.slice none 0 0,.slice none 0 0,.slice none 0 0,.slice none 0 0,.slice none 0 0,.int .i64 0,.int .i64 0,.int .i64 0,.int .i64 0,.int .i64 0,.int .i64 0,.slice none 0 0,.int .i64 8]) (by simp [results,Tryz.results7,go_sem,p0,p1,p2,p3,p4,p5,p6,p7,p8,p9,p10,p11,p12,p13]) rfl ?_
  exact P8.out (by omega) (by trivial) (by omega) (by first|exact HM.out|(have:=HM.out;omega)) _ HB9.out
 rw [decide_eq_true hm] at HWI
 have HM:=H_ hm
 clear hm
 obtain ⟨S3,hS3⟩:∃z,z=w3.heap.size:=⟨_,rfl⟩
 have hs4x:bR+1≤S3:=by rw [hS3];exact hs3
 have hs4z:w.heap.size≤S3:=by rw [hS3];exact HB3.out.size
 have HS3q:=H_ hS3
 clear hS3
 have c0:=q_ HA3.out.1.2 0
 have c3:=q_ HA3.out.1.2 3
 have c4:=q_ HA3.out.1.2 4
 have c5:=q_ HA3.out.1.2 5
 have c6:=q_ HA3.out.1.2 6
 go_wp2_with (go_at_call 30;refine (HWI.out _).mono ?_;rintro e w' ⟨rfl,rfl⟩)
 refine (H3.out (by trivial) _ HB3.out).mono ?_
 rintro e w4 ⟨xa,xc,ya,yc,za,zc,pa,pc,ra,rc,ta,tc,rfl,hza,hR,hb⟩
 obtain ⟨gS,rfl,hgl,hP⟩:=hza
 have HRR:=H_ hR
 have HP4:=H_ hP
 clear hR hP mc0 msb HWI c0 c1 c2 c3 c4 c5 c6 cl0
 have hs4y:S3≤gS:=by rw [HS3q.out];exact hgl
 rw [←HS3q.out] at HRR
 have HB4:=HT_ HB3 hb
 have HA4:=H_ (HA3.out.below hb)
 have HS4:=H_ (HS3.out.below hb)
 have HR4:=H_ (HR3.out.below hb)
 have hs4:bR+1≤w4.heap.size:=by have:=hb.size;omega
 clear hb HB3 HA3 HS3 HR3 hs3
 obtain ⟨W5,hW5⟩:∃z,z=w4.alloc (.cells #[.slice xa ml xc,.slice ya cl yc,.slice (some ⟨gS,0,none⟩) sl zc,.slice pa el pc,.slice ra ul rc,.slice ta dl tc,.int .i64 fr] 42):=⟨_,rfl⟩
 have hb:Below w4.heap.size w4 W5:=by rw [hW5];exact (Below.refl _ _).alloc (Nat.le_refl _) _
 have HV:Hid (BlkW w4.heap.size [.slice xa ml xc,.slice ya cl yc,.slice (some ⟨gS,0,none⟩) sl zc,.slice pa el pc,.slice ra ul rc,.slice ta dl tc,.int .i64 fr] W5):=H_ (by rw [hW5];exact BlkW.new w4 _ _)
 have HP5:=H_ (HP4.out.below hb)
 have HX:Hid (Below w4.heap.size w4 W5):=H_ hb
 have HB5:=HT_ HB4 hb
 have HA5:=H_ (HA4.out.below hb)
 have HS5:=H_ (HS4.out.below hb)
 have HR5:=H_ (HR4.out.below hb)
 have hs5:bR+1≤W5.heap.size:=by have:=hb.size;omega
 clear hb HB4 HA4 HS4 HR4 hs4
 obtain ⟨bV,hbV⟩:∃z,z=w4.heap.size:=⟨_,rfl⟩
 have hgV:gS<bV:=by rw [hbV];exact HP4.out.lt
 rw [←hbV] at HV
 have HBV:=H_ hbV
 have HW5:=H_ hW5
 clear hW5 hbV HP4
 have v1:=q_ HV.out.1.2 2
 have vl:=HV.out.1.1
 obtain ⟨uu,e0⟩:=HP5.out.has (k*2+1) (by omega)
 have e1:=HP5.out.free (k*2+1) (by omega)
 have el0:=HP5.out.lt
 obtain ⟨W6,hW6⟩:∃z,z=W5.setCell ⟨gS,k*2+1,none⟩ (.int .i64 m):=⟨_,rfl⟩
 have hg6:W5.grownBy W6 (some gS):=by rw [hW6];exact grown_set _ _ _ _
 have HB6:=H_ (HB5.out.grown hg6 HB5.out.size (fun _ e=>by cases e;omega))
 have HR6:=H_ (blkW_grown HR5.out hg6 (by simp;omega))
 have HV6:=H_ (blkW_grown HV.out hg6 (by simp;omega))
 have HQ:Hid (R3 S3 (.agg #[.slice xa ml xc,.slice ya cl yc,.slice (some ⟨gS,0,none⟩) sl zc,.slice pa el pc,.slice ra ul rc,.slice ta dl tc,.int .i64 fr]) W6):=H_ (by rw [hW6];exact HRR.out W5 HX.out gS rfl)
 have HW6:=H_ hW6
 clear hg6 hW6 HRR HX
 have vl6:=HV6.out.1.1
 obtain ⟨⟨rl,rk⟩,rf⟩:=HR6.out
 have p0:=q_ rk 0
 have f0:=rf 0 (by simp)
 have p1:=q_ rk 1
 have f1:=rf 1 (by simp)
 have p2:=q_ rk 2
 have f2:=rf 2 (by simp)
 have p3:=q_ rk 3
 have f3:=rf 3 (by simp)
 have p4:=q_ rk 4
 have f4:=rf 4 (by simp)
 have p5:=q_ rk 5
 have f5:=rf 5 (by simp)
 have p6:=q_ rk 6
 have f6:=rf 6 (by simp)
 have p7:=q_ rk 7
 have f7:=rf 7 (by simp)
 have p8:=q_ rk 8
 have f8:=rf 8 (by simp)
 have p9:=q_ rk 9
 have f9:=rf 9 (by simp)
 have p10:=q_ rk 10
 have f10:=rf 10 (by simp)
 have p11:=q_ rk 11
 have f11:=rf 11 (by simp)
 have p12:=q_ rk 12
 have f12:=rf 12 (by simp)
 have p13:=q_ rk 13
 have f13:=rf 13 (by simp)
 have hg:=StR.stL_grown bR [.slice xa ml xc,.slice ya cl yc,.slice (some ⟨gS,0,none⟩) sl zc,.slice pa el pc,.slice ra ul rc,.slice ta dl tc,.int .i64 fr,.int .i64 0,.int .i64 0,.int .i64 0,.int .i64 0,.int .i64 0,.slice none 0 0,.int .i64 0] 0 W6
 simp only [StR.stL,Nat.zero_add,Nat.reduceAdd] at hg
 have HB9:=H_ (HB6.out.grown hg HB6.out.size (fun _ e=>by cases e;omega))
 have HQ9:=H_ (KG.out _ _ _ _ _ HQ.out hg (by omega))
 clear rk rf hg HQ
 have v0:=q_ HV6.out.1.2 0
 have vv1:=q_ HV6.out.1.2 1
 have vv2:=q_ HV6.out.1.2 2
 have v3:=q_ HV6.out.1.2 3
 have v4:=q_ HV6.out.1.2 4
 have v5:=q_ HV6.out.1.2 5
 have v6:=q_ HV6.out.1.2 6
 have e6:=HW6.out
 have e5:=HW5.out
 have ev:=HBV.out
 subst e6
 subst e5
 subst ev
 clear HW6 HW5 HBV HV HV6 HR6 HR5 HP5 HB5 HB6 HA5 HS5
 have hcm:=fun (o:Obj)=>(by simp [go_sem,hgV]:(w4.alloc o).setCell ⟨gS,k*2+1,none⟩ (.int .i64 m)=(w4.setCell ⟨gS,k*2+1,none⟩ (.int .i64 m)).alloc o)
 rw [hcm] at p0 p1 p2 p3 p4 p5 p6 p7 p8 p9 p10 p11 p12 p13 f0 f1 f2 f3 f4 f5 f6 f7 f8 f9 f10 f11 f12 f13 v0 vv1 vv2 v3 v4 v5 v6 vl6 rl HB9 HQ9
 clear hcm
 go_wp2_with fail
 refine bodyPost_ret (v:=.agg #[.slice xa ml xc,.slice ya cl yc,.slice (some ⟨gS,0,none⟩) sl zc,.slice pa el pc,.slice ra ul rc,.slice ta dl tc,.int .i64 fr,.int .i64 0,.int .i64 0,.int .i64 0,.int .i64 0,.int .i64 0,.slice none 0 0,.int .i64 0]) (by simp [results,Tryz.results7,go_sem,p0,p1,p2,p3,p4,p5,p6,p7,p8,p9,p10,p11,p12,p13]) rfl ?_
 exact P0.out (by omega) (by trivial) (by omega) (by first|exact HM.out|(have:=HM.out;omega)) _ _ _ _ _ _ _ _ _ _ _ _ S3 _ hs4z HQ9.out HB9.out
end EngR
namespace EngR
open OwG CatR ChG DocR
open RowG (cellsAll grown_set MadeG Rws)
open EvtR (Pt)
theorem tgl (t:ByteArray):(WinR.tcells t).length=1:=rfl
theorem infoSg:(Tryz.prog.info? 9).map (fun i=>(i.zero,i.size,i.bytes))=some (some (.string ⟨#[]⟩),1,16):=by kernel_rfl
theorem infoHr:(Tryz.prog.info? 207).map (fun i=>(i.zero,i.size,i.bytes))=some (some (.agg #[.int .i64 0,.int .i64 0]),2,16):=by kernel_rfl
def WaT (lo:Nat) (y:WA) (W:World):Prop:=W.ownsRow lo 9 1 (.slice y.ta y.x.ts.length y.tc) y.x.ts.length (cellsAll WinR.tcells y.x.ts)∧W.ownsRow lo 207 2 (.slice y.ha y.x.hs.length y.hc) y.x.hs.length (cellsAll WinR.H.cells y.x.hs)
def WsT (lo:Nat) (v:Value) (ws:List WinR.Wd) (W:World):Prop:=∃xs:List WA,xs.map WA.x=ws∧W.ownsRow lo 106 8 v ws.length (cellsAll WA.cells xs)∧∀y∈xs,WaT lo y W
theorem wst_nil (lo:Nat) (W:World):WsT lo (.slice none 0 0) [] W:=⟨[],rfl,World.ownsRow_nil _ _ _ _,(fun x h=>absurd h (by simp))⟩
theorem WaT.low {lo lo':Nat} {y:WA} {W:World} (h:WaT lo y W) (hl:lo'≤lo):WaT lo' y W:=⟨OwG.own_low h.1 hl,OwG.own_low h.2 hl⟩
theorem WaT.below {lo:Nat} {y:WA} {W W':World} (h:WaT lo y W) (hb:Below W.heap.size W W'):WaT lo y W':=⟨RowG.own_below h.1 hb,RowG.own_below h.2 hb⟩
theorem WsT.below {lo:Nat} {v:Value} {ws:List WinR.Wd} {W W':World} (h:WsT lo v ws W) (hb:Below W.heap.size W W'):WsT lo v ws W':=by
 obtain ⟨xs,h1,h2,h3⟩:=h
 exact ⟨xs,h1,RowG.own_below h2 hb,fun x hx=>(h3 x hx).below hb⟩
theorem WsT.far {lo g:Nat} {v:Value} {ws:List WinR.Wd} {W W':World} (h:WsT lo v ws W) (hg:W.grownBy W' (some g)) (hlt:g<lo):WsT lo v ws W':=by
 obtain ⟨xs,h1,h2,h3⟩:=h
 exact ⟨xs,h1,own_keepG h2 hg hlt,fun x hx=>⟨own_keepG (h3 x hx).1 hg hlt,own_keepG (h3 x hx).2 hg hlt⟩⟩
theorem wst_more {lo:Nat} {v v':Value} {xs:List WA} {y:WA} {w2 w9:World} (h2:w2.ownsRow lo 106 8 v xs.length (cellsAll WA.cells xs)) (h3:∀y∈xs,WaT lo y w2) (hy:WaT lo y w2) (hgrow:w2.grownBy w9 v.ownBlock) (hown:w9.ownsRow lo 106 8 v' (xs.length+1) (cellsAll WA.cells xs++WA.cells y)):WsT lo v' ((xs ++ [y]).map WA.x) w9:=by
 have hk:∀z:WA,WaT lo z w2→WaT lo z w9:=fun z hz=>⟨own_keepO hz.1 hgrow (own_apart hz.1 h2 (by decide)),own_keepO hz.2 hgrow (own_apart hz.2 h2 (by decide))⟩
 refine ⟨xs ++ [y],rfl,?_,?_⟩
 ·rw [cellsW_snoc,List.length_map,List.length_append]
  exact hown
 ·intro z hz
  rcases List.mem_append.1 hz with h|h
  ·exact hk z (h3 z h)
  ·rw [List.mem_singleton] at h
   subst h
   exact hk _ hy
theorem WsT.reads {lo:Nat} {v:Value} {ws:List WinR.Wd} {W:World} (h:WsT lo v ws W):RWd ws v W:=by
 obtain ⟨xs,h1,h2,h3⟩:=h
 have hl:ws.length=xs.length:=by rw [←h1];simp
 rw [hl] at h2
 obtain ⟨ao,cap,rfl,hm⟩:=RowG.own_made (z:=WA.zero) WA.len h2
 refine ⟨ao,cap,by rw [hl],?_⟩
 rcases hm.rws with h0|⟨b,off,rfl,hb,hc⟩
 ·exact .inl (by omega)
 ·refine .inr ⟨b,off,rfl,hb,fun i hi=>?_⟩
  have hx:i<xs.length:=by omega
  have e:ws.getD i WinR.Wd.zero=(xs.getD i WA.zero).x:=by
   rw [←h1]
   simp [List.getD,hx]
  have hmem:=h3 _ (RowG.getD_mem (z:=WA.zero) xs i hx)
  have c:=hc i hx
  rw [e]
  generalize xs.getD i WA.zero=X at *
  obtain ⟨a1,c1,e1,m1⟩:=RowG.own_made (z:=WinR.tz) tgl hmem.1
  obtain ⟨a2,c2,e2,m2⟩:=RowG.own_made (z:=WinR.H.zero) WinR.H.len hmem.2
  cases e1
  cases e2
  exact ⟨X.ta,X.tc,X.ha,X.hc,c 0 (by omega),c 1 (by omega),c 2 (by omega),c 3 (by omega),c 4 (by omega),c 5 (by omega),c 6 (by omega),c 7 (by omega),m1.rws,m2.rws⟩
theorem rws_src {α:Type} {k:Nat} {cells:α→List Value} {z:α} (hk:∀x,(cells x).length=k) {la:Option Addr} {L:List α} {w:World} (h:Rws k cells z la L w):∀W,Below w.heap.size w W→(L.length=0∨∃ad,la=some ad∧∀j u,(cellsAll cells L)[j]? = some u→W.cell? (ad.add j)=some u):=by
 intro W hW
 rcases h.below hW with h0|⟨b,off,rfl,hb,hc⟩
 ·exact .inl h0
 ·refine .inr ⟨⟨b,off,none⟩,rfl,fun j u hj=>?_⟩
  have h1:=NetR.rws_sub (i:=0) (n:=L.length) hk (.inr ⟨b,off,rfl,hb,hc⟩:Rws k cells z (some ⟨b,off,none⟩) L W) j u (by simpa using hj)
  rw [Nat.zero_mul,Nat.add_zero] at h1
  exact h1
theorem one_tg (ts:List ByteArray):∀u∈cellsAll WinR.tcells ts,u.oneCell'=true:=by
 intro u hu
 obtain ⟨x,_,hx⟩:=List.mem_flatMap.1 hu
 simp only [WinR.tcells,List.mem_singleton] at hx
 subst hx
 rfl
theorem one_hr (hs:List WinR.H):∀u∈cellsAll WinR.H.cells hs,u.oneCell'=true:=WinR.hrs_one hs
theorem swin (x:WinR.Wd) (ta:Option Addr) (tc:Nat) (ha:Option Addr) (hc:Nat) (w:World) (lt:x.ts.length≤1048576) (lh:x.hs.length≤1048576) (hT:WinR.Tgs ta x.ts w) (hH:WinR.Hrs ha x.hs w) :
 Calls Tryz.prog 62 #[.agg #[.string x.a,.string x.m,.int .i64 x.mo,.int .i64 x.ev,.int .i64 x.su,.int .i64 x.mx,.slice ta x.ts.length tc,.slice ha x.hs.length hc]] w fun e w'=>∃na nc ma mc,e=.returned (.agg #[.string x.a,.string x.m,.int .i64 x.mo,.int .i64 x.ev,.int .i64 x.su,.int .i64 x.mx,.slice na x.ts.length nc,.slice ma x.hs.length mc])∧WaT w.heap.size ⟨x,na,nc,ma,mc⟩ w'∧Below w.heap.size w w':=by
 obtain ⟨i0,hi,hz0,hz1,hz2⟩:=info_parts infoSg
 obtain ⟨j0,gi,gz0,gz1,gz2⟩:=info_parts infoHr
 obtain ⟨a,m,mo,ev,su,mx,ts,hs⟩:=x
 dsimp only at *
 have HST:=H_ (rws_src tgl hT)
 have HSH:=H_ (rws_src WinR.H.len hH)
 have HO1:=H_ (one_tg ts)
 have HO2:=H_ (one_hr hs)
 have HL1:Hid ((cellsAll WinR.tcells ts).length=ts.length*1):=H_ (RowG.cellsAll_len tgl ts)
 have HL2:=H_ (RowG.cellsAll_len WinR.H.len hs)
 have HF:Hid (∀na nc ma mc W,W.ownsRow w.heap.size 9 1 (.slice na ts.length nc) ts.length (cellsAll WinR.tcells ts)→W.ownsRow w.heap.size 207 2 (.slice ma hs.length mc) hs.length (cellsAll WinR.H.cells hs)→WaT w.heap.size ⟨⟨a,m,mo,ev,su,mx,ts,hs⟩,na,nc,ma,mc⟩ W):=H_ (fun _ _ _ _ _ h1 h2=>⟨h1,h2⟩)
 have HM1:=H_ (fun (W:World) base v (h:W.ownsRow base 9 1 v ts.length (cellsAll WinR.tcells ts))=>RowG.own_made (z:=WinR.tz) tgl h)
 have HM2:=H_ (fun (W:World) base v (h:W.ownsRow base 207 2 v hs.length (cellsAll WinR.H.cells hs))=>RowG.own_made (z:=WinR.H.zero) WinR.H.len h)
 generalize hX:WaT w.heap.size=X at *
 generalize hC1:cellsAll WinR.tcells ts=C1 at *
 generalize hC2:cellsAll WinR.H.cells hs=C2 at *
 clear hX hC1 hC2 hT hH
 obtain ⟨tl,htl⟩:∃n,n=ts.length:=⟨_,rfl⟩
 obtain ⟨hl,hhl⟩:∃n,n=hs.length:=⟨_,rfl⟩
 rw [←htl] at HST HL1 HF HM1 lt ⊢
 rw [←hhl] at HSH HL2 HF HM2 lh ⊢
 clear htl hhl
 obtain ⟨W0,hW0⟩:∃W0,W0=((w.alloc (.cells #[.string a,.string m,.int .i64 mo,.int .i64 ev,.int .i64 su,.int .i64 mx,.slice ta tl tc,.slice ha hl hc] 106)).alloc (.cells #[.string ⟨#[]⟩,.string ⟨#[]⟩,.int .i64 0,.int .i64 0,.int .i64 0,.int .i64 0,.slice none 0 0,.slice none 0 0] 106)).alloc (.cells #[] 9):=⟨_,rfl⟩
 have HB0:Hid (Below w.heap.size w W0):=H_ (by rw [hW0];exact ((al_ _ _).alloc (by simp) _).alloc (by simp;omega) _)
 have HV0:Hid (BlkW w.heap.size [.string a,.string m,.int .i64 mo,.int .i64 ev,.int .i64 su,.int .i64 mx,.slice ta tl tc,.slice ha hl hc] W0):=H_ (by rw [hW0];exact blkW_alloc (blkW_alloc (BlkW.new w [.string a,.string m,.int .i64 mo,.int .i64 ev,.int .i64 su,.int .i64 mx,.slice ta tl tc,.slice ha hl hc] 106) _) _)
 have HR0:Hid (BlkW (w.heap.size+1) [.string ⟨#[]⟩,.string ⟨#[]⟩,.int .i64 0,.int .i64 0,.int .i64 0,.int .i64 0,.slice none 0 0,.slice none 0 0] W0):=H_ (by
  rw [hW0]
  have:=blkW_alloc (BlkW.new (w.alloc (.cells #[.string a,.string m,.int .i64 mo,.int .i64 ev,.int .i64 su,.int .i64 mx,.slice ta tl tc,.slice ha hl hc] 106)) [.string ⟨#[]⟩,.string ⟨#[]⟩,.int .i64 0,.int .i64 0,.int .i64 0,.int .i64 0,.slice none 0 0,.slice none 0 0] 106) (.cells #[] 9)
  simpa using this)
 have HE0:Hid (W0.ownsRow (w.heap.size+2) 9 1 (.slice (some ⟨w.heap.size+1+1,0,none⟩) 0 0) 0 []):=H_ (by
  rw [hW0]
  have:=LinR.own_empty ((w.alloc (.cells #[.string a,.string m,.int .i64 mo,.int .i64 ev,.int .i64 su,.int .i64 mx,.slice ta tl tc,.slice ha hl hc] 106)).alloc (.cells #[.string ⟨#[]⟩,.string ⟨#[]⟩,.int .i64 0,.int .i64 0,.int .i64 0,.int .i64 0,.slice none 0 0,.slice none 0 0] 106)) (w.heap.size+2) 9 1 (by simp)
  simpa using this)
 have hS0:W0.heap.size=w.heap.size+3:=by rw [hW0];simp
 have HW:=H_ hW0
 have HSZ:=H_ hS0
 clear hW0 hS0
 go_enter Tryz.func62,Tryz.ntmps62
 go_wp2_with (at_builtin;rw [←HW.out];refine RowG.wpList_append_whole _ rfl _ _ 92 rfl (w.heap.size+2) 9 i0 (.string ⟨#[]⟩) 1 16 Tryz.underlying92 hi hz0 hz1 hz2 rfl (by decide) (w.heap.size+1+1) rfl HE0.out ta tl tc C1 rfl HL1.out (HST.out _ HB0.out) HO1.out (by unfold maxLen;omega) (by omega) (by rw [HSZ.out];omega) ?_)
 intro v1 w2 hown hgrow hne
 have HB2:=H_ (HB0.out.grown hgrow HB0.out.size (fun k e=>by simp only [Option.some.injEq] at e;omega))
 have HV2:=H_ (OwG.blkW_grown HV0.out hgrow (by simp only [ne_eq,Option.some.injEq];omega))
 have HR2:=H_ (OwG.blkW_grown HR0.out hgrow (by simp only [ne_eq,Option.some.injEq];omega))
 obtain ⟨na,nc,rfl,-⟩:=HM1.out w2 _ v1 hown
 have HT2:=H_ hown
 clear hown hgrow hne HB0 HV0 HR0 HE0 HW HSZ
 obtain ⟨W3,hW3⟩:∃z,z=w2.setCell ⟨w.heap.size,6,none⟩ (.slice na tl nc):=⟨_,rfl⟩
 have hg3:w2.grownBy W3 (some w.heap.size):=by rw [hW3];exact grown_set _ _ _ _
 have HB3:=H_ (HB2.out.grown hg3 HB2.out.size (fun k e=>by cases e;omega))
 have HV3:Hid (BlkW w.heap.size [.string a,.string m,.int .i64 mo,.int .i64 ev,.int .i64 su,.int .i64 mx,.slice na tl nc,.slice ha hl hc] W3):=H_ (by
  rw [hW3]
  have:=HV2.out.set 6 (.slice na tl nc) (by simp)
  simpa using this)
 have HR3:=H_ (OwG.blkW_grown HR2.out hg3 (by simp only [ne_eq,Option.some.injEq];omega))
 have HT3:=H_ (own_keepG HT2.out hg3 (by omega))
 obtain ⟨W4,hW4⟩:∃z,z=W3.alloc (.cells #[] 207):=⟨_,rfl⟩
 have hb4:Below W3.heap.size W3 W4:=by rw [hW4];exact (Below.refl _ _).alloc (Nat.le_refl _) _
 have hsz3:W3.heap.size=w2.heap.size:=by rw [hW3];simp
 have HB4:=HT_ HB3 hb4
 have HV4:=H_ (HV3.out.below hb4)
 have HR4:=H_ (HR3.out.below hb4)
 have HT4:=H_ (RowG.own_below HT3.out hb4)
 have hbase:w.heap.size+2≤w2.heap.size:=HR2.out.1.1
 have HE4:Hid (W4.ownsRow (w.heap.size+2) 207 2 (.slice (some ⟨w2.heap.size,0,none⟩) 0 0) 0 []):=H_ (by
  rw [hW4,←hsz3]
  exact LinR.own_empty W3 (w.heap.size+2) 207 2 (by rw [hsz3];exact hbase))
 have hs4:w.heap.size+2≤W4.heap.size:=by have:=hb4.size;omega
 have HBs:=H_ hbase
 have HW4:=H_ (by rw [hW4,hW3]:W4=(w2.setCell ⟨w.heap.size,6,none⟩ (.slice na tl nc)).alloc (.cells #[] 207))
 have l1:=HV2.out.1.1
 have f6:=HV2.out.2 6 (by simp)
 have c6:=q_ HV2.out.1.2 6
 have c7:=q_ HV2.out.1.2 7
 clear hW3 hg3 hW4 hb4 hsz3 HB2 HV2 HR2 HT2 HB3 HV3 HR3 HT3 hbase
 go_wp2_with (at_builtin;rw [←HW4.out];refine RowG.wpList_append_whole _ rfl _ _ 104 rfl (w.heap.size+2) 207 j0 (.agg #[.int .i64 0,.int .i64 0]) 2 16 Tryz.underlying104 gi gz0 gz1 gz2 rfl (by decide) w2.heap.size rfl HE4.out ha hl hc C2 rfl HL2.out (HSH.out _ HB4.out) HO2.out (by unfold maxLen;omega) (by omega) hs4 ?_)
 intro v2 w5 hown hgrow hne
 have HB5:=H_ (HB4.out.grown hgrow HB4.out.size (fun k e=>by simp only [Option.some.injEq] at e;have:=HBs.out;omega))
 have HV5:=H_ (OwG.blkW_grown HV4.out hgrow (by simp only [ne_eq,Option.some.injEq];have:=HBs.out;omega))
 have HR5:=H_ (OwG.blkW_grown HR4.out hgrow (by simp only [ne_eq,Option.some.injEq];have:=HBs.out;omega))
 have HT5:=H_ (own_keepO HT4.out hgrow (fun b hb=>own_apart HT4.out HE4.out (by decide) b hb))
 obtain ⟨ma,mc,rfl,-⟩:=HM2.out w5 _ v2 hown
 have HH5:=H_ hown
 clear hown hgrow hne HB4 HV4 HR4 HT4 HE4 HW4 HBs hs4 l1 f6 c6 c7
 have hg6:=grown_set w5 w.heap.size 7 (.slice ma hl mc)
 have hg7:=StR.stL_grown (w.heap.size+1) [.string a,.string m,.int .i64 mo,.int .i64 ev,.int .i64 su,.int .i64 mx,.slice na tl nc,.slice ma hl mc] 0 (w5.setCell ⟨w.heap.size,7,none⟩ (.slice ma hl mc))
 have HT9:=H_ (own_low (own_keepG (own_keepG HT5.out hg6 (by omega)) hg7 (by omega)) (show w.heap.size≤w.heap.size+2 by omega))
 have HH9:=H_ (own_low (own_keepG (own_keepG HH5.out hg6 (by omega)) hg7 (by omega)) (show w.heap.size≤w.heap.size+2 by omega))
 have HB9:=H_ ((HB5.out.grown hg6 HB5.out.size (fun k e=>by cases e;omega)).grown hg7 (by have:=HB5.out.size;simpa using this) (fun k h=>by cases h;omega))
 simp only [StR.stL,Nat.zero_add,Nat.reduceAdd] at HT9 HH9 HB9
 have l1:=HV5.out.1.1
 have l2:=HR5.out.1.1
 have f7:=HV5.out.2 7 (by simp)
 have c0:=q_ HV5.out.1.2 0
 have c1:=q_ HV5.out.1.2 1
 have c2:=q_ HV5.out.1.2 2
 have c3:=q_ HV5.out.1.2 3
 have c4:=q_ HV5.out.1.2 4
 have c5:=q_ HV5.out.1.2 5
 have c6:=q_ HV5.out.1.2 6
 have c7:=q_ HV5.out.1.2 7
 have r0:=q_ HR5.out.1.2 0
 have r1:=q_ HR5.out.1.2 1
 have r2:=q_ HR5.out.1.2 2
 have r3:=q_ HR5.out.1.2 3
 have r4:=q_ HR5.out.1.2 4
 have r5:=q_ HR5.out.1.2 5
 have r6:=q_ HR5.out.1.2 6
 have r7:=q_ HR5.out.1.2 7
 have g0:=HR5.out.2 0 (by simp)
 have g1:=HR5.out.2 1 (by simp)
 have g2:=HR5.out.2 2 (by simp)
 have g3:=HR5.out.2 3 (by simp)
 have g4:=HR5.out.2 4 (by simp)
 have g5:=HR5.out.2 5 (by simp)
 have g6:=HR5.out.2 6 (by simp)
 have g7:=HR5.out.2 7 (by simp)
 clear hg6 hg7 HB5 HV5 HR5 HT5 HH5
 go_wp2_with fail
 refine bodyPost_ret (v:=.agg #[.string a,.string m,.int .i64 mo,.int .i64 ev,.int .i64 su,.int .i64 mx,.slice na tl nc,.slice ma hl mc]) (by simp [results,Tryz.results62,go_sem,r0,r1,r2,r3,r4,r5,r6,r7]) rfl ⟨na,nc,ma,mc,rfl,HF.out _ _ _ _ _ HT9.out HH9.out,HB9.out⟩
end EngR
end Go.Proofs.YtnceeaccbcfopaaGreatDoor
