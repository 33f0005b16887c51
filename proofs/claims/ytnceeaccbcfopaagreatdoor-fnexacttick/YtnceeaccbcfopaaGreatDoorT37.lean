/-
  spec.Tick: what it answers.
  The conditions stand in what each theorem says.
-/
import Derived.Test.YtnceeaccbcfopaaGreatDoorT36
set_option maxRecDepth 100000
set_option maxHeartbeats 16000000
namespace Go.Proofs.YtnceeaccbcfopaaGreatDoor
open Go.ChangeShapes Go.WideShapes Go.ChangeAt Go.RowKit
set_option linter.unusedVariables false
namespace EngR
open OwG CatR ChG DocR
open RowG (cellsAll grown_set MadeG Rws)
open EvtR (Pt)
theorem sillT (cd:Int) (w:World):Calls Tryz.prog 18 #[.int .i64 cd] w fun e w'=>e=.returned (.agg #[.slice none 0 0,.slice none 0 0,.slice none 0 0,.slice none 0 0,.slice none 0 0,.slice none 0 0,.int .i64 0,.int .i64 0,.int .i64 0,.int .i64 0,.int .i64 0,.int .i64 0,.slice none 0 0,.int .i64 cd])∧Below w.heap.size w w':=by
 go_enter Tryz.func18,Tryz.ntmps18
 go_wp2_with fail
 refine bodyPost_ret (v:=.agg #[.slice none 0 0,.slice none 0 0,.slice none 0 0,.slice none 0 0,.slice none 0 0,.slice none 0 0,.int .i64 0,.int .i64 0,.int .i64 0,.int .i64 0,.int .i64 0,.int .i64 0,.slice none 0 0,.int .i64 cd]) (by simp [results,Tryz.results18,go_sem]) rfl ⟨rfl,?_⟩
 repeat' first|exact Below.refl _ _|apply Below.setCell|apply Below.alloc
 all_goals first|omega|(simp;done)|(simp;omega)
theorem stick_in (ma:Option Addr) (ml mc:Nat) (ca:Option Addr) (cl cc:Nat) (sa:Option Addr) (sl sc:Nat) (ea:Option Addr) (el ec:Nat) (ua:Option Addr) (ul uc:Nat) (da:Option Addr) (dl dc:Nat) (fr:Int) (a:ByteArray) (m:Int) (b:Bool) (ss:List Cr) (R3:Nat→Nat→Value→World→Prop) (Post:Ending→World→Prop) (w:World) (hsl:sl≤1048576)
 (h1:∀W,Below w.heap.size w W→Calls Tryz.prog 19 #[.agg #[.slice ma ml mc,.slice ca cl cc,.slice sa sl sc,.slice ea el ec,.slice ua ul uc,.slice da dl dc,.int .i64 fr]] W fun e w'=>e=.returned (.bool b)∧Below W.heap.size W w')
 (h3:b=true→∀W,Below w.heap.size w W→Calls Tryz.prog 20 #[.agg #[.slice ma ml mc,.slice ca cl cc,.slice sa sl sc,.slice ea el ec,.slice ua ul uc,.slice da dl dc,.int .i64 fr]] W fun e w'=>∃(xa:Option Addr) (xc:Nat) (ya:Option Addr) (yc:Nat) (za:Option Addr) (zc:Nat) (pa:Option Addr) (pc:Nat) (ra:Option Addr) (rc:Nat) (ta:Option Addr) (tc:Nat),e=.returned (.agg #[.slice xa ml xc,.slice ya cl yc,.slice za sl zc,.slice pa el pc,.slice ra ul rc,.slice ta dl tc,.int .i64 fr])∧(sl=0∨∃g,za=some ⟨g,0,none⟩∧W.heap.size≤g∧Pt g (sl*2) w')∧Crs za sl ss w'∧(∀W2,Below w'.heap.size w' W2→∀k g,k<sl→za=some ⟨g,0,none⟩→R3 k W.heap.size (.agg #[.slice xa ml xc,.slice ya cl yc,.slice za sl zc,.slice pa el pc,.slice ra ul rc,.slice ta dl tc,.int .i64 fr]) (W2.setCell ⟨g,k*2+1,none⟩ (.int .i64 m)))∧Below W.heap.size W w')
 (kg:∀k lo v W W' g,R3 k lo v W→W.grownBy W' (some g)→g<lo→R3 k lo v W')
 (p2:8000<a.size→∀w',Below w.heap.size w w'→Post (.returned (.agg #[.slice none 0 0,.slice none 0 0,.slice none 0 0,.slice none 0 0,.slice none 0 0,.slice none 0 0,.int .i64 0,.int .i64 0,.int .i64 0,.int .i64 0,.int .i64 0,.int .i64 0,.slice none 0 0,.int .i64 2])) w')
 (p1:a.size≤8000→b=false→∀w',Below w.heap.size w w'→Post (.returned (.agg #[.slice none 0 0,.slice none 0 0,.slice none 0 0,.slice none 0 0,.slice none 0 0,.slice none 0 0,.int .i64 0,.int .i64 0,.int .i64 0,.int .i64 0,.int .i64 0,.int .i64 0,.slice none 0 0,.int .i64 1])) w')
 (p6:a.size≤8000→b=true→(∀i,i<sl→(ss.getD i Cr.zero).a≠a)→∀w',Below w.heap.size w w'→Post (.returned (.agg #[.slice none 0 0,.slice none 0 0,.slice none 0 0,.slice none 0 0,.slice none 0 0,.slice none 0 0,.int .i64 0,.int .i64 0,.int .i64 0,.int .i64 0,.int .i64 0,.int .i64 0,.slice none 0 0,.int .i64 6])) w')
 (p8:a.size≤8000→b=true→∀k,k<sl→(∀i,i<k→(ss.getD i Cr.zero).a≠a)→(ss.getD k Cr.zero).a=a→(¬(0≤m∧m≤121000000)∨m<(ss.getD k Cr.zero).m)→∀w',Below w.heap.size w w'→Post (.returned (.agg #[.slice none 0 0,.slice none 0 0,.slice none 0 0,.slice none 0 0,.slice none 0 0,.slice none 0 0,.int .i64 0,.int .i64 0,.int .i64 0,.int .i64 0,.int .i64 0,.int .i64 0,.slice none 0 0,.int .i64 8])) w')
 (p0:a.size≤8000→b=true→∀k,k<sl→(∀i,i<k→(ss.getD i Cr.zero).a≠a)→(ss.getD k Cr.zero).a=a→(0≤m∧m≤121000000)→¬m<(ss.getD k Cr.zero).m→∀(xa:Option Addr) (xc:Nat) (ya:Option Addr) (yc:Nat) (za:Option Addr) (zc:Nat) (pa:Option Addr) (pc:Nat) (ra:Option Addr) (rc:Nat) (ta:Option Addr) (tc:Nat) lo w',R3 k lo (.agg #[.slice xa ml xc,.slice ya cl yc,.slice za sl zc,.slice pa el pc,.slice ra ul rc,.slice ta dl tc,.int .i64 fr]) w'→Below w.heap.size w w'→Post (.returned (.agg #[.slice xa ml xc,.slice ya cl yc,.slice za sl zc,.slice pa el pc,.slice ra ul rc,.slice ta dl tc,.int .i64 fr,.int .i64 0,.int .i64 0,.int .i64 0,.int .i64 0,.int .i64 0,.slice none 0 0,.int .i64 0])) w') :
 Calls Tryz.prog 5 #[.agg #[.slice ma ml mc,.slice ca cl cc,.slice sa sl sc,.slice ea el ec,.slice ua ul uc,.slice da dl dc,.int .i64 fr],.string a,.int .i64 m] w fun e w'=>Post e w':=by
 have H1:=H_ h1
 have H3:=H_ h3
 have P2:=H_ p2
 have P1:=H_ p1
 have P6:=H_ p6
 have P8:=H_ p8
 have P0:=H_ p0
 have KG:=H_ kg
 have HI:=H_ (fun cd w=>sillT cd w)
 have HMI:=H_ (fun w=>EvtR.sminute_any m w)
 clear h1 h3 p2 p1 p6 p8 p0 kg
 obtain ⟨sz,hsz⟩:∃z,z=a.size:=⟨_,rfl⟩
 rw [←hsz] at P2 P1 P6 P8 P0
 have HSZ:=H_ hsz
 obtain ⟨W1,hW1⟩:∃z,z=(w.alloc (.cells #[.slice ma ml mc,.slice ca cl cc,.slice sa sl sc,.slice ea el ec,.slice ua ul uc,.slice da dl dc,.int .i64 fr] 42)).alloc (.cells #[.slice none 0 0,.slice none 0 0,.slice none 0 0,.slice none 0 0,.slice none 0 0,.slice none 0 0,.int .i64 0,.int .i64 0,.int .i64 0,.int .i64 0,.int .i64 0,.int .i64 0,.slice none 0 0,.int .i64 0] 46):=⟨_,rfl⟩
 have HB1:Hid (Below w.heap.size w W1):=H_ (by rw [hW1];exact (al_ _ _).alloc (by simp) _)
 have HA1:Hid (BlkW w.heap.size [.slice ma ml mc,.slice ca cl cc,.slice sa sl sc,.slice ea el ec,.slice ua ul uc,.slice da dl dc,.int .i64 fr] W1):=H_ (by rw [hW1];exact blkW_alloc (BlkW.new w [.slice ma ml mc,.slice ca cl cc,.slice sa sl sc,.slice ea el ec,.slice ua ul uc,.slice da dl dc,.int .i64 fr] 42) _)
 have HR1:Hid (BlkW (w.heap.size+1) [.slice none 0 0,.slice none 0 0,.slice none 0 0,.slice none 0 0,.slice none 0 0,.slice none 0 0,.int .i64 0,.int .i64 0,.int .i64 0,.int .i64 0,.int .i64 0,.int .i64 0,.slice none 0 0,.int .i64 0] W1):=H_ (by
  rw [hW1]
  have:=BlkW.new (w.alloc (.cells #[.slice ma ml mc,.slice ca cl cc,.slice sa sl sc,.slice ea el ec,.slice ua ul uc,.slice da dl dc,.int .i64 fr] 42)) [.slice none 0 0,.slice none 0 0,.slice none 0 0,.slice none 0 0,.slice none 0 0,.slice none 0 0,.int .i64 0,.int .i64 0,.int .i64 0,.int .i64 0,.int .i64 0,.int .i64 0,.slice none 0 0,.int .i64 0] 46
  simpa using this)
 obtain ⟨bR,hbR⟩:∃z,z=w.heap.size+1:=⟨_,rfl⟩
 rw [←hbR] at HR1
 have hlo:w.heap.size<bR:=by omega
 have hs1:bR+1≤W1.heap.size:=HR1.out.1.1
 have HW:=H_ hW1
 have HBR:=H_ hbR
 clear hW1 hbR hsz
 by_cases hbig:8000<sz
 ·have q2:(8000:Int)<(a.size:Int):=by have:=HSZ.out;omega
  have HBG:=H_ hbig
  clear hbig
  go_enter Tryz.func5,Tryz.ntmps5
  go_wp2_with fail
  rw [←HW.out,←HBR.out]
  clear HW HBR q2
  refine (HI.out 2 _).mono ?_
  rintro e x2 ⟨rfl,hb⟩
  have HBx:=HT_ HB1 hb
  have HRx:=H_ (HR1.out.below hb)
  clear hb
  obtain ⟨⟨rl,rk⟩,rf⟩:=HRx.out
  have p0:=q_ rk 0
  have f0:=rf 0 (by simp)
  have p1:=q_ rk 1
  have f1:=rf 1 (by simp)
  have p2:=q_ rk 2
  have f2:=rf 2 (by simp)
  have p3:=q_ rk 3
  have f3:=rf 3 (by simp)
  have p4:=q_ rk 4
  have f4:=rf 4 (by simp)
  have p5:=q_ rk 5
  have f5:=rf 5 (by simp)
  have p6:=q_ rk 6
  have f6:=rf 6 (by simp)
  have p7:=q_ rk 7
  have f7:=rf 7 (by simp)
  have p8:=q_ rk 8
  have f8:=rf 8 (by simp)
  have p9:=q_ rk 9
  have f9:=rf 9 (by simp)
  have p10:=q_ rk 10
  have f10:=rf 10 (by simp)
  have p11:=q_ rk 11
  have f11:=rf 11 (by simp)
  have p12:=q_ rk 12
  have f12:=rf 12 (by simp)
  have p13:=q_ rk 13
  have f13:=rf 13 (by simp)
  have hg:=StR.stL_grown bR [.slice none 0 0,.slice none 0 0,.slice none 0 0,.slice none 0 0,.slice none 0 0,.slice none 0 0,.int .i64 0,.int .i64 0,.int .i64 0,.int .i64 0,.int .i64 0,.int .i64 0,.slice none 0 0,.int .i64 2] 0 x2
  simp only [StR.stL,Nat.zero_add,Nat.reduceAdd] at hg
  have HG:=H_ hg
  have HB9:=H_ (HBx.out.grown hg HBx.out.size (fun _ e=>by cases e;omega))
  clear rk rf hg
  go_wp2_with fail
  refine bodyPost_ret (v:=.agg #[.slice none 0 0,.slice none 0 0,.slice none 0 0,.slice none 0 0,.slice none 0 0,.slice none 0 0,.int .i64 0,.int .i64 0,.int .i64 0,.int .i64 0,.int .i64 0,.int .i64 0,.slice none 0 0,.int .i64 2]) (by simp [results,Tryz.results5,go_sem,p0,p1,p2,p3,p4,p5,p6,p7,p8,p9,p10,p11,p12,p13]) rfl ?_
  exact P2.out HBG.out _ HB9.out
 have q2:¬(8000:Int)<(a.size:Int):=by have:=HSZ.out;omega
 have c0:=q_ HA1.out.1.2 0
 have c1:=q_ HA1.out.1.2 1
 have c2:=q_ HA1.out.1.2 2
 have c3:=q_ HA1.out.1.2 3
 have c4:=q_ HA1.out.1.2 4
 have c5:=q_ HA1.out.1.2 5
 have c6:=q_ HA1.out.1.2 6
 have cl0:=HA1.out.1.1
 have HSM:=H_ (show sz≤8000 by omega)
 clear hbig
 go_enter Tryz.func5,Tryz.ntmps5
 go_wp2_with fail
 rw [←HW.out,←HBR.out]
 clear HW HBR q2
 refine (H1.out _ HB1.out).mono ?_
 rintro e w2 ⟨rfl,hb⟩
 clear c0 c1 c2 c3 c4 c5 c6 cl0
 have HB2:=HT_ HB1 hb
 have HA2:=H_ (HA1.out.below hb)
 have HR2:=H_ (HR1.out.below hb)
 have hs2:bR+1≤w2.heap.size:=by have:=hb.size;omega
 clear hb HB1 HA1 HR1 hs1
 cases b
 ·go_wp2_with fail
  refine (HI.out 1 _).mono ?_
  rintro e x1 ⟨rfl,hb⟩
  have HBx:=HT_ HB2 hb
  have HRx:=H_ (HR2.out.below hb)
  clear hb
  obtain ⟨⟨rl,rk⟩,rf⟩:=HRx.out
  have p0:=q_ rk 0
  have f0:=rf 0 (by simp)
  have p1:=q_ rk 1
  have f1:=rf 1 (by simp)
  have p2:=q_ rk 2
  have f2:=rf 2 (by simp)
  have p3:=q_ rk 3
  have f3:=rf 3 (by simp)
  have p4:=q_ rk 4
  have f4:=rf 4 (by simp)
  have p5:=q_ rk 5
  have f5:=rf 5 (by simp)
  have p6:=q_ rk 6
  have f6:=rf 6 (by simp)
  have p7:=q_ rk 7
  have f7:=rf 7 (by simp)
  have p8:=q_ rk 8
  have f8:=rf 8 (by simp)
  have p9:=q_ rk 9
  have f9:=rf 9 (by simp)
  have p10:=q_ rk 10
  have f10:=rf 10 (by simp)
  have p11:=q_ rk 11
  have f11:=rf 11 (by simp)
  have p12:=q_ rk 12
  have f12:=rf 12 (by simp)
  have p13:=q_ rk 13
  have f13:=rf 13 (by simp)
  have hg:=StR.stL_grown bR [.slice none 0 0,.slice none 0 0,.slice none 0 0,.slice none 0 0,.slice none 0 0,.slice none 0 0,.int .i64 0,.int .i64 0,.int .i64 0,.int .i64 0,.int .i64 0,.int .i64 0,.slice none 0 0,.int .i64 1] 0 x1
  simp only [StR.stL,Nat.zero_add,Nat.reduceAdd] at hg
  have HG:=H_ hg
  have HB9:=H_ (HBx.out.grown hg HBx.out.size (fun _ e=>by cases e;omega))
  clear rk rf hg
  go_wp2_with fail
  refine bodyPost_ret (v:=.agg #[.slice none 0 0,.slice none 0 0,.slice none 0 0,.slice none 0 0,.slice none 0 0,.slice none 0 0,.int .i64 0,.int .i64 0,.int .i64 0,.int .i64 0,.int .i64 0,.int .i64 0,.slice none 0 0,.int .i64 1]) (by simp [results,Tryz.results5,go_sem,p0,p1,p2,p3,p4,p5,p6,p7,p8,p9,p10,p11,p12,p13]) rfl ?_
  exact P1.out HSM.out (by trivial) _ HB9.out
 have c0:=q_ HA2.out.1.2 0
 have c1:=q_ HA2.out.1.2 1
 have c2:=q_ HA2.out.1.2 2
 have c3:=q_ HA2.out.1.2 3
 have c4:=q_ HA2.out.1.2 4
 have c5:=q_ HA2.out.1.2 5
 have c6:=q_ HA2.out.1.2 6
 have cl0:=HA2.out.1.1
 go_wp2_with fail
 refine (H3.out (by trivial) _ HB2.out).mono ?_
 rintro e w3 ⟨xa,xc,ya,yc,za,zc,pa,pc,ra,rc,ta,tc,rfl,hza,hcr,hR,hb⟩
 have HZA:=H_ hza
 have HCR:=H_ hcr
 have HRR:=H_ hR
 obtain ⟨S2,hS2⟩:∃z,z=w2.heap.size:=⟨_,rfl⟩
 have hs4x:bR+1≤S2:=by rw [hS2];exact hs2
 have hs4z:w.heap.size≤S2:=by rw [hS2];exact HB2.out.size
 rw [←hS2] at HRR HZA
 clear hza hcr hR hS2 c0 c1 c2 c3 c4 c5 c6 cl0
 have HB3:=HT_ HB2 hb
 have HR3:=H_ (HR2.out.below hb)
 have hs3:bR+1≤w3.heap.size:=by have:=hb.size;omega
 clear hb HB2 HA2 HR2 hs2
 obtain ⟨W4,hW4⟩:∃z,z=w3.alloc (.cells #[.slice xa ml xc,.slice ya cl yc,.slice za sl zc,.slice pa el pc,.slice ra ul rc,.slice ta dl tc,.int .i64 fr] 42):=⟨_,rfl⟩
 have hb:Below w3.heap.size w3 W4:=by rw [hW4];exact (Below.refl _ _).alloc (Nat.le_refl _) _
 have HV:Hid (BlkW w3.heap.size [.slice xa ml xc,.slice ya cl yc,.slice za sl zc,.slice pa el pc,.slice ra ul rc,.slice ta dl tc,.int .i64 fr] W4):=H_ (by rw [hW4];exact BlkW.new w3 _ _)
 have HX:=H_ hb
 have hs3x:bR+1≤w3.heap.size:=hs3
 have HB4:=HT_ HB3 hb
 have HR4:=H_ (HR3.out.below hb)
 have hs4:bR+1≤W4.heap.size:=by have:=hb.size;omega
 clear hb HB3 HR3 hs3
 obtain ⟨bV,hbV⟩:∃z,z=w3.heap.size:=⟨_,rfl⟩
 have hVS:bR<bV:=by have:=HX.out.size;rw [hbV];have:=hs3x;omega
 rw [←hbV] at HV
 have HBV:=H_ hbV
 have HW4:=H_ hW4
 clear hW4 hbV
 go_wp2_with fail
 rw [←HW4.out,←HBV.out]
 go_loopw [8] (fun z wr=>∃k:Nat,k≤sl∧z=.int .i64 k∧Hid (∀i,i<k→(ss.getD i Cr.zero).a≠a)∧Hid (Below w3.heap.size w3 wr)∧Hid (BlkW bV [.slice xa ml xc,.slice ya cl yc,.slice za sl zc,.slice pa el pc,.slice ra ul rc,.slice ta dl tc,.int .i64 fr] wr)∧Hid (BlkW bR [.slice none 0 0,.slice none 0 0,.slice none 0 0,.slice none 0 0,.slice none 0 0,.slice none 0 0,.int .i64 0,.int .i64 0,.int .i64 0,.int .i64 0,.int .i64 0,.int .i64 0,.slice none 0 0,.int .i64 0] wr)∧Hid (Below w.heap.size w wr)) (fun z _=>sl-(intOf z).toNat)
 case atStart=>exact ⟨0,by omega,rfl,H_ (fun i hi=>absurd hi (by omega)),HX,HV,HR4,HB4⟩
 case round =>
  clear HX HV HR4 HB4 HW4
  obtain ⟨k,hk,rfl,HNE,HX,HV,HR0,HB0⟩:=hrel
  have v2:=q_ HV.out.1.2 2
  have vl:=HV.out.1.1
  by_cases hlt:k<sl
  ·have hlt2:(k:Int)<(sl:Int):=by omega
   have hk0:(0:Int)≤(k:Int):=by omega
   obtain ⟨gS,rfl,hgl,hP⟩:∃g,za=some ⟨g,0,none⟩∧S2≤g∧Pt g (sl*2) w3:=by
    rcases HZA.out with q|q
    ·omega
    ·exact q
   have HP4:=H_ hP
   obtain ⟨b',o',eb,hbl,c0,c1⟩:=crs_at (HCR.out.below HX.out) k hlt
   cases eb
   rw [Nat.zero_add] at c0 c1
   have HNk:Hid ((ss.getD k Cr.zero).a≠a→∀i,i<k+1→(ss.getD i Cr.zero).a≠a):=H_ (fun h i hi=>by
    by_cases e:i=k
    ·subst e;exact h
    ·exact HNE.out i (by omega))
   have P8k:=H_ (P8.out HSM.out (by trivial) k hlt HNE.out)
   have P0k:=H_ (P0.out HSM.out (by trivial) k hlt HNE.out)
   generalize ss.getD k Cr.zero=X at *
   obtain ⟨xn,xm⟩:=X
   dsimp only at c0 c1 HNk P8k P0k
   clear hP
   by_cases he:xn=a
   rotate_left
   ·have hne2:(xn.toList==a.toList)=false:=by simpa using fun q=>he (LtR.toList_inj q)
    have HN2:=H_ (HNk.out he)
    clear he P8k P0k
    go_wp2_with fail
    go_roundw
    case rel=>exact ⟨k+1,by omega,by go_num,HN2,HX,HV,HR0,HB0⟩
    case measure=>simp [intOf];omega
   subst he
   have hee:(xn.toList==xn.toList)=true:=by simp
   by_cases hmi:0≤m∧m≤121000000
   rotate_left
   ·rw [decide_eq_false hmi] at HMI
    have HP8:=H_ (P8k.out rfl (.inl hmi))
    clear hmi
    go_wp2_with fail
    refine (HMI.out _).mono ?_
    rintro e w' ⟨rfl,hq⟩
    obtain rfl:=hq.symm
    go_wp2_with fail
    refine (HI.out 8 _).mono ?_
    rintro e x8 ⟨rfl,hb⟩
    have hdr:Below wr.heap.size wr x8:=by first|exact hb|exact (Below.refl _ _).drew.trans (hb.mono (Below.refl _ _).drew.size)|exact (bdN (Below.refl _ _) _).trans (hb.mono (by simp))
    have HBx:=HT_ HB0 hdr
    have HRx:=H_ (HR0.out.below hdr)
    clear hb hdr
    obtain ⟨⟨rl,rk⟩,rf⟩:=HRx.out
    have p0:=q_ rk 0
    have f0:=rf 0 (by simp)
    have p1:=q_ rk 1
    have f1:=rf 1 (by simp)
    have p2:=q_ rk 2
    have f2:=rf 2 (by simp)
    have p3:=q_ rk 3
    have f3:=rf 3 (by simp)
    have p4:=q_ rk 4
    have f4:=rf 4 (by simp)
    have p5:=q_ rk 5
    have f5:=rf 5 (by simp)
    have p6:=q_ rk 6
    have f6:=rf 6 (by simp)
    have p7:=q_ rk 7
    have f7:=rf 7 (by simp)
    have p8:=q_ rk 8
    have f8:=rf 8 (by simp)
    have p9:=q_ rk 9
    have f9:=rf 9 (by simp)
    have p10:=q_ rk 10
    have f10:=rf 10 (by simp)
    have p11:=q_ rk 11
    have f11:=rf 11 (by simp)
    have p12:=q_ rk 12
    have f12:=rf 12 (by simp)
    have p13:=q_ rk 13
    have f13:=rf 13 (by simp)
    have hg:=StR.stL_grown bR [.slice none 0 0,.slice none 0 0,.slice none 0 0,.slice none 0 0,.slice none 0 0,.slice none 0 0,.int .i64 0,.int .i64 0,.int .i64 0,.int .i64 0,.int .i64 0,.int .i64 0,.slice none 0 0,.int .i64 8] 0 x8
    simp only [StR.stL,Nat.zero_add,Nat.reduceAdd] at hg
    have HG:=H_ hg
    have HB9:=H_ (HBx.out.grown hg HBx.out.size (fun _ e=>by cases e;omega))
    clear rk rf hg
    go_wp2_with fail
    refine bodyPost_ret (v:=.agg #[.slice none 0 0,.slice none 0 0,.slice none 0 0,.slice none 0 0,.slice none 0 0,.slice none 0 0,.int .i64 0,.int .i64 0,.int .i64 0,.int .i64 0,.int .i64 0,.int .i64 0,.slice none 0 0,.int .i64 8]) (by simp [results,Tryz.results5,go_sem,p0,p1,p2,p3,p4,p5,p6,p7,p8,p9,p10,p11,p12,p13]) rfl ?_
    exact HP8.out _ HB9.out
   have hmi2:=H_ hmi
   rw [decide_eq_true hmi] at HMI
   clear hmi
   by_cases hml:m<xm
   ·have HP8:=H_ (P8k.out rfl (.inr hml))
    have hml2:m<xm:=hml
    go_wp2_with fail
    refine (HMI.out _).mono ?_
    rintro e w' ⟨rfl,hq⟩
    obtain rfl:=hq.symm
    go_wp2_with fail
    refine (HI.out 8 _).mono ?_
    rintro e x8 ⟨rfl,hb⟩
    have hdr:Below wr.heap.size wr x8:=by first|exact hb|exact (Below.refl _ _).drew.trans (hb.mono (Below.refl _ _).drew.size)|exact (bdN (Below.refl _ _) _).trans (hb.mono (by simp))
    have HBx:=HT_ HB0 hdr
    have HRx:=H_ (HR0.out.below hdr)
    clear hb hdr
    obtain ⟨⟨rl,rk⟩,rf⟩:=HRx.out
    have p0:=q_ rk 0
    have f0:=rf 0 (by simp)
    have p1:=q_ rk 1
    have f1:=rf 1 (by simp)
    have p2:=q_ rk 2
    have f2:=rf 2 (by simp)
    have p3:=q_ rk 3
    have f3:=rf 3 (by simp)
    have p4:=q_ rk 4
    have f4:=rf 4 (by simp)
    have p5:=q_ rk 5
    have f5:=rf 5 (by simp)
    have p6:=q_ rk 6
    have f6:=rf 6 (by simp)
    have p7:=q_ rk 7
    have f7:=rf 7 (by simp)
    have p8:=q_ rk 8
    have f8:=rf 8 (by simp)
    have p9:=q_ rk 9
    have f9:=rf 9 (by simp)
    have p10:=q_ rk 10
    have f10:=rf 10 (by simp)
    have p11:=q_ rk 11
    have f11:=rf 11 (by simp)
    have p12:=q_ rk 12
    have f12:=rf 12 (by simp)
    have p13:=q_ rk 13
    have f13:=rf 13 (by simp)
    have hg:=StR.stL_grown bR [.slice none 0 0,.slice none 0 0,.slice none 0 0,.slice none 0 0,.slice none 0 0,.slice none 0 0,.int .i64 0,.int .i64 0,.int .i64 0,.int .i64 0,.int .i64 0,.int .i64 0,.slice none 0 0,.int .i64 8] 0 x8
    simp only [StR.stL,Nat.zero_add,Nat.reduceAdd] at hg
    have HG:=H_ hg
    have HB9:=H_ (HBx.out.grown hg HBx.out.size (fun _ e=>by cases e;omega))
    clear rk rf hg
    go_wp2_with fail
    refine bodyPost_ret (v:=.agg #[.slice none 0 0,.slice none 0 0,.slice none 0 0,.slice none 0 0,.slice none 0 0,.slice none 0 0,.int .i64 0,.int .i64 0,.int .i64 0,.int .i64 0,.int .i64 0,.int .i64 0,.slice none 0 0,.int .i64 8]) (by simp [results,Tryz.results5,go_sem,p0,p1,p2,p3,p4,p5,p6,p7,p8,p9,p10,p11,p12,p13]) rfl ?_
    exact HP8.out _ HB9.out
   have HP0:=H_ (P0k.out rfl hmi2.out (by omega))
   have hml2:¬m<xm:=hml
   go_wp2_with fail
   refine (HMI.out _).mono ?_
   rintro e w' ⟨rfl,hq⟩
   obtain rfl:=hq.symm
   have hgV:gS<bV:=by rw [HBV.out];exact HP4.out.lt
   have HP5:=H_ (HP4.out.below HX.out)
   obtain ⟨uu,e0⟩:=HP5.out.has (k*2+1) (by omega)
   have e1:=HP5.out.free (k*2+1) (by omega)
   have el0:=HP5.out.lt
   obtain ⟨W6,hW6⟩:∃z,z=wr.setCell ⟨gS,k*2+1,none⟩ (.int .i64 m):=⟨_,rfl⟩
   have hg6:wr.grownBy W6 (some gS):=by rw [hW6];exact grown_set _ _ _ _
   have HB6:=H_ (HB0.out.grown hg6 HB0.out.size (fun _ e=>by cases e;omega))
   have HR6:=H_ (blkW_grown HR0.out hg6 (by simp;omega))
   have HV6:=H_ (blkW_grown HV.out hg6 (by simp;omega))
   have HQ:=H_ (HRR.out wr HX.out k gS hlt rfl)
   rw [←hW6] at HQ
   have HW6:=H_ hW6
   clear hg6 hW6 HRR
   obtain ⟨⟨rl,rk⟩,rf⟩:=HR6.out
   have p0:=q_ rk 0
   have f0:=rf 0 (by simp)
   have p1:=q_ rk 1
   have f1:=rf 1 (by simp)
   have p2:=q_ rk 2
   have f2:=rf 2 (by simp)
   have p3:=q_ rk 3
   have f3:=rf 3 (by simp)
   have p4:=q_ rk 4
   have f4:=rf 4 (by simp)
   have p5:=q_ rk 5
   have f5:=rf 5 (by simp)
   have p6:=q_ rk 6
   have f6:=rf 6 (by simp)
   have p7:=q_ rk 7
   have f7:=rf 7 (by simp)
   have p8:=q_ rk 8
   have f8:=rf 8 (by simp)
   have p9:=q_ rk 9
   have f9:=rf 9 (by simp)
   have p10:=q_ rk 10
   have f10:=rf 10 (by simp)
   have p11:=q_ rk 11
   have f11:=rf 11 (by simp)
   have p12:=q_ rk 12
   have f12:=rf 12 (by simp)
   have p13:=q_ rk 13
   have f13:=rf 13 (by simp)
   have hg:=StR.stL_grown bR [.slice xa ml xc,.slice ya cl yc,.slice (some ⟨gS,0,none⟩) sl zc,.slice pa el pc,.slice ra ul rc,.slice ta dl tc,.int .i64 fr,.int .i64 0,.int .i64 0,.int .i64 0,.int .i64 0,.int .i64 0,.slice none 0 0,.int .i64 0] 0 W6
   simp only [StR.stL,Nat.zero_add,Nat.reduceAdd] at hg
   have HB9:=H_ (HB6.out.grown hg HB6.out.size (fun _ e=>by cases e;omega))
   have HQ9:=H_ (KG.out _ _ _ _ _ _ HQ.out hg (by omega))
   clear rk rf hg HQ
   have vv0:=q_ HV6.out.1.2 0
   have vv1:=q_ HV6.out.1.2 1
   have vv2:=q_ HV6.out.1.2 2
   have vv3:=q_ HV6.out.1.2 3
   have vv4:=q_ HV6.out.1.2 4
   have vv5:=q_ HV6.out.1.2 5
   have vv6:=q_ HV6.out.1.2 6
   have vl6:=HV6.out.1.1
   have e6:=HW6.out
   subst e6
   clear HW6 HV6 HR6 HP5 HB6
   go_wp2_with fail
   refine bodyPost_ret (v:=.agg #[.slice xa ml xc,.slice ya cl yc,.slice (some ⟨gS,0,none⟩) sl zc,.slice pa el pc,.slice ra ul rc,.slice ta dl tc,.int .i64 fr,.int .i64 0,.int .i64 0,.int .i64 0,.int .i64 0,.int .i64 0,.slice none 0 0,.int .i64 0]) (by simp [results,Tryz.results5,go_sem,p0,p1,p2,p3,p4,p5,p6,p7,p8,p9,p10,p11,p12,p13]) rfl ?_
   exact HP0.out _ _ _ _ _ _ _ _ _ _ _ _ S2 _ HQ9.out HB9.out
  ·have hlt2:¬(k:Int)<(sl:Int):=by omega
   obtain rfl:k=sl:=by omega
   have HP6:=H_ (P6.out HSM.out (by trivial) HNE.out)
   go_wp2_with fail
   refine (HI.out 6 _).mono ?_
   rintro e x6 ⟨rfl,hb⟩
   have HBx:=HT_ HB0 hb
   have HRx:=H_ (HR0.out.below hb)
   clear hb v2 vl
   obtain ⟨⟨rl,rk⟩,rf⟩:=HRx.out
   have p0:=q_ rk 0
   have f0:=rf 0 (by simp)
   have p1:=q_ rk 1
   have f1:=rf 1 (by simp)
   have p2:=q_ rk 2
   have f2:=rf 2 (by simp)
   have p3:=q_ rk 3
   have f3:=rf 3 (by simp)
   have p4:=q_ rk 4
   have f4:=rf 4 (by simp)
   have p5:=q_ rk 5
   have f5:=rf 5 (by simp)
   have p6:=q_ rk 6
   have f6:=rf 6 (by simp)
   have p7:=q_ rk 7
   have f7:=rf 7 (by simp)
   have p8:=q_ rk 8
   have f8:=rf 8 (by simp)
   have p9:=q_ rk 9
   have f9:=rf 9 (by simp)
   have p10:=q_ rk 10
   have f10:=rf 10 (by simp)
   have p11:=q_ rk 11
   have f11:=rf 11 (by simp)
   have p12:=q_ rk 12
   have f12:=rf 12 (by simp)
   have p13:=q_ rk 13
   have f13:=rf 13 (by simp)
   have hg:=StR.stL_grown bR [.slice none 0 0,.slice none 0 0,.slice none 0 0,.slice none 0 0,.slice none 0 0,.slice none 0 0,.int .i64 0,.int .i64 0,.int .i64 0,.int .i64 0,.int .i64 0,.int .i64 0,.slice none 0 0,.int .i64 6] 0 x6
   simp only [StR.stL,Nat.zero_add,Nat.reduceAdd] at hg
   have HG:=H_ hg
   have HB9:=H_ (HBx.out.grown hg HBx.out.size (fun _ e=>by cases e;omega))
   clear rk rf hg
   go_wp2_with fail
   refine bodyPost_ret (v:=.agg #[.slice none 0 0,.slice none 0 0,.slice none 0 0,.slice none 0 0,.slice none 0 0,.slice none 0 0,.int .i64 0,.int .i64 0,.int .i64 0,.int .i64 0,.int .i64 0,.int .i64 0,.slice none 0 0,.int .i64 6]) (by simp [results,Tryz.results5,go_sem,p0,p1,p2,p3,p4,p5,p6,p7,p8,p9,p10,p11,p12,p13]) rfl ?_
   exact HP6.out _ HB9.out
end EngR
end Go.Proofs.YtnceeaccbcfopaaGreatDoor
