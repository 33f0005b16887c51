/-
  The credit of an account, either side. The conditions: all in the catalog is small; the program's own error stands in its variable.
  The meter of a name, the program's MeterOf. The conditions: all in the catalog is small, the name too; the program's own error stands in its variable.
  What lines come to: both sides say the same. The condition: at most 1048576 lines, whose Meters have at most 1048576 bytes.
  Drawn on both sides: what is left of lines behind a credit. The condition: at most 1048576 lines, whose Meters have at most 1048576 bytes.
  Blocks of three numbers. No condition.
  The model's small hands: a code alone, and a number that is none beyond. No condition.
-/
import Derived.Test.YtmalfhhkjdkadaaGreatDoorN17
namespace Go.Proofs.YtmalfhhkjdkadaaGreatDoor
open Go.ChangeShapes Go.WideShapes Go.ChangeAt Go.RowKit
set_option linter.unusedVariables false
namespace CatR
def crF (t:ByteArray):List Cr→Int
 | []=>0
 | c::cs=>if c.a=t then c.m else crF t cs
theorem crF_hit (t:ByteArray):∀(cs:List Cr) (k:Nat),k<cs.length→(∀i,i<k→cA cs i≠t)→cA cs k=t→crF t cs=cM cs k
 | [],k,h,_,_=>absurd h (by simp)
 | c::cs,0,_,_,h=>by
  rw [crF,if_pos (show c.a=t from h)];rfl
 | c::cs,k+1,hk,hn,h=>by
  rw [crF,if_neg (show ¬c.a=t from hn 0 (by omega))]
  exact crF_hit t cs k (by simpa using hk) (fun i hi=>hn (i+1) (by omega)) h
theorem crF_none (t:ByteArray):∀(cs:List Cr),(∀i,i<cs.length→cA cs i≠t)→crF t cs=0
 | [],_=>rfl
 | c::cs,hn=>by
  rw [crF,if_neg (show ¬c.a=t from hn 0 (by simp))]
  exact crF_none t cs (fun i hi=>hn (i+1) (by simpa using hi))
def crO (c:Ca) (t:ByteArray):Int:=if caB c=true then crF t c.cs else 0
theorem name_le {s:ByteArray} (h:NameR.nameB s=true):1≤s.size∧s.size≤20:=by
 rcases Nat.lt_or_ge s.size 1 with h1|h1
 ·rw [NameR.name_size (.inl h1)] at h;cases h
 ·rcases Nat.lt_or_ge 20 s.size with h2|h2
  ·rw [NameR.name_size (.inr h2)] at h;cases h
  ·exact ⟨h1,h2⟩
theorem caB_iff {c:Ca}:caB c=true↔MsRight c.ms∧CsRight c.cs:=by
 unfold caB
 rw [Bool.and_eq_true,msB_iff,csB_iff]
theorem crO_long (c:Ca) (t:ByteArray) (ht:20<t.size):crO c t=0:=by
 unfold crO
 by_cases h:caB c=true
 ·rw [if_pos h]
  refine crF_none t c.cs (fun i hi e=>?_)
  have:=name_le (((caB_iff.1 h).2.2 i hi).1.1)
  rw [e] at this
  omega
 ·rw [if_neg h]
theorem beq_no {a t:ByteArray} (h:a≠t):(a.toList==t.toList)=false:=by
 cases e:a.toList==t.toList
 ·rfl
 ·exact absurd (toList_inj (beq_iff_eq.1 e)) h
theorem nohit_more {cs:List Cr} {t:ByteArray} {k:Nat} (h:∀i,i<k→cA cs i≠t) (hk:cA cs k≠t):∀i,i<k+1→cA cs i≠t:=fun i hi=>by
 by_cases e:i=k
 ·subst e;exact hk
 ·exact h i (by omega)
set_option maxRecDepth 100000 in
set_option maxHeartbeats 4000000 in
theorem impl_cr (v:Value) (c:Ca) (t:ByteArray) (w:World) (hS:c.Small) (hC:IsCa v c w) (hL:Laid w) :
 Calls Tryz.prog 132 #[v,.string t] w fun e w'=>e=.returned (.int .i64 (crO c t))∧Below w.heap.size w w':=by
 have HR0:Hid (∀W,Below w.heap.size w W→Calls Tryz.prog 69 #[v] W fun e w'=>e=.returned (.bool (caB c))∧Below W.heap.size W w'):=hid_intro (fun W hW=>impl_ca v c W hS (hC.below hW) (hL.below hW))
 obtain ⟨ma,mc,ca,cc,rfl,hM,hR⟩:=hC
 obtain ⟨ms,cs⟩:=c
 have s3:=hS.cl
 simp only at *
 have HO:Hid (crO ⟨ms,cs⟩ t=if caB ⟨ms,cs⟩=true then crF t cs else 0):=rfl
 have HJ:=hid_intro hR
 have HZ:Hid (cs.length=cs.length):=rfl
 clear hM hR hS hL
 generalize caB ⟨ms,cs⟩=r at *
 generalize crO ⟨ms,cs⟩ t=R at *
 generalize ms.length=ml at *
 generalize hcl:cs.length=cl at *
 have HCL:=hid_intro hcl
 clear hcl HZ
 have HB:Hid (Below w.heap.size w (w.alloc (.cells #[.slice ma ml mc,.slice ca cl cc] 40))):=hid_intro ((Below.refl _ _).alloc (Nat.le_refl _) _)
 have HA:Hid (Blk w.heap.size [.slice ma ml mc,.slice ca cl cc] (w.alloc (.cells #[.slice ma ml mc,.slice ca cl cc] 40))):=hid_intro (Blk.new w _ _)
 go_enter Tryz.func132,Tryz.ntmps132
 go_wp2_with fail
 refine (HR0.out _ HB.out).mono ?_
 rintro e w1 ⟨rfl,hb1⟩
 have HB1:=hid_intro (HB.out.trans (hb1.mono HB.out.size))
 have HA1:=hid_intro (HA.out.below hb1)
 have hl1:=HA1.out.1
 have q1:w1.cell? ⟨w.heap.size,1,none⟩=some (.slice ca cl cc):=HA1.out.2 1 (by simp)
 clear hb1
 cases r
 ·go_wp2_with fail
  go_ret
  exact ⟨ret_int (by rw [HO.out];rfl),HB1.out⟩
 ·go_wp2_with fail
  go_loopw [13] (fun z wr=>∃k:Nat,k≤cl∧z=.int .i64 k∧Hid (∀i,i<k→cA cs i≠t)∧Hid (Below w.heap.size w wr)) (fun z _=>cl-(intOf z).toNat)
  case atStart=>exact ⟨0,by omega,rfl,hid_intro (fun i hi=>absurd hi (by omega)),HB1⟩
  case round =>
   clear HB HA HB1 HA1 q1 hl1
   obtain ⟨k,hk,rfl,HN,HB⟩:=hrel
   by_cases hlt:k<cl
   ·have hlt2:(k:Int)<(cl:Int):=by omega
    obtain ⟨b,off,rfl,hbl,d0,d1⟩:=crs_at (HJ.out.below HB.out) k hlt
    have c0:wr.cell? ⟨b,off+k*2,none⟩=some (.string (cA cs k)):=d0
    have c1:wr.cell? ⟨b,off+k*2+1,none⟩=some (.int .i64 (cM cs k)):=d1
    clear d0 d1
    have HAl:=hid_intro (fun o=>HB.out.alloc HB.out.size o)
    by_cases e:cA cs k=t
    ·have HV:Hid (R=cM cs k):=hid_intro (by rw [HO.out];(first|rw [if_pos rfl]|rw [if_pos trivial]);exact crF_hit t cs k (by have:=HCL.out;omega) HN.out e)
     generalize cM cs k=m at *
     rw [e] at c0
     go_wp2_with fail
     go_ret
     exact ⟨ret_int HV.out.symm,HAl.out _⟩
    ·have HM:=hid_intro (nohit_more HN.out e)
     have he:=beq_no e
     generalize cA cs k=a at *
     generalize cM cs k=m at *
     clear e
     go_wp2_with fail
     go_roundw
     case rel=>exact ⟨k+1,by omega,by go_num,HM,hid_intro (HAl.out _)⟩
     case measure=>simp [intOf];omega
   ·obtain rfl:k=cl:=by omega
    have HV:Hid (R=0):=hid_intro (by rw [HO.out];(first|rw [if_pos rfl]|rw [if_pos trivial]);exact crF_none t cs (by rw [HCL.out];exact HN.out))
    go_wp2_with fail
    go_ret
    exact ⟨ret_int HV.out.symm,HB.out⟩
set_option maxRecDepth 100000 in
set_option maxHeartbeats 4000000 in
theorem spec_cr0 (v:Value) (c:Ca) (t:ByteArray) (w:World) (hS:c.Small) (hC:IsCa v c w) :
 Calls Tryz.prog 62 #[v,.string t] w fun e w'=>e=.returned (.int .i64 (crF t c.cs))∧Below w.heap.size w w':=by
 obtain ⟨ma,mc,ca,cc,rfl,hM,hR⟩:=hC
 obtain ⟨ms,cs⟩:=c
 have s3:=hS.cl
 simp only at *
 have HO:Hid (crF t cs=crF t cs):=rfl
 have HJ:=hid_intro hR
 have HH:=hid_intro (fun k=>crF_hit t cs k)
 have HE:=hid_intro (crF_none t cs)
 clear hM hR hS
 generalize crF t cs=R at *
 generalize ms.length=ml at *
 generalize hcl:cs.length=cl at *
 have HCL:=hid_intro hcl
 clear hcl HO
 have HB:Hid (Below w.heap.size w (w.alloc (.cells #[.slice ma ml mc,.slice ca cl cc] 40))):=hid_intro ((Below.refl _ _).alloc (Nat.le_refl _) _)
 have HA:Hid (Blk w.heap.size [.slice ma ml mc,.slice ca cl cc] (w.alloc (.cells #[.slice ma ml mc,.slice ca cl cc] 40))):=hid_intro (Blk.new w _ _)
 go_enter Tryz.func62,Tryz.ntmps62
 go_wp2_with fail
 go_loopw [5] (fun z wr=>∃k:Nat,k≤cl∧z=.int .i64 k∧Hid (∀i,i<k→cA cs i≠t)∧Hid (Below w.heap.size w wr)∧Hid (Blk w.heap.size [.slice ma ml mc,.slice ca cl cc] wr)) (fun z _=>cl-(intOf z).toNat)
 case atStart=>exact ⟨0,by omega,rfl,hid_intro (fun i hi=>absurd hi (by omega)),HB,HA⟩
 case round =>
  clear HB HA
  obtain ⟨k,hk,rfl,HN,HB,HA⟩:=hrel
  have hl1:=HA.out.1
  have q1:wr.cell? ⟨w.heap.size,1,none⟩=some (.slice ca cl cc):=HA.out.2 1 (by simp)
  by_cases hlt:k<cl
  ·have hlt2:(k:Int)<(cl:Int):=by omega
   obtain ⟨b,off,rfl,hbl,d0,d1⟩:=crs_at (HJ.out.below HB.out) k hlt
   have c0:wr.cell? ⟨b,off+k*2,none⟩=some (.string (cA cs k)):=d0
   have c1:wr.cell? ⟨b,off+k*2+1,none⟩=some (.int .i64 (cM cs k)):=d1
   clear d0 d1
   by_cases e:cA cs k=t
   ·have HV:Hid (R=cM cs k):=hid_intro (HH.out k (by have:=HCL.out;omega) HN.out e)
    generalize cM cs k=m at *
    rw [e] at c0
    go_wp2_with fail
    try (go_quiet (fail);go_wp2_with fail)
    go_ret
    exact ⟨ret_int HV.out.symm,by first|exact HB.out|exact bdrewN HB.out _⟩
   ·have HM:=hid_intro (nohit_more HN.out e)
    have he:=beq_no e
    generalize cA cs k=a at *
    generalize cM cs k=m at *
    clear e
    go_wp2_with fail
    try (go_quiet (fail);go_wp2_with fail)
    go_roundw
    case rel=>exact ⟨k+1,by omega,by go_num,HM,by first|exact HB|exact hid_intro (bdrewN HB.out _),by first|exact HA|exact hid_intro (HA.out.drewN _)⟩
    case measure=>simp [intOf];omega
  ·obtain rfl:k=cl:=by omega
   have HV:Hid (R=0):=hid_intro (HE.out HN.out)
   go_wp2_with fail
   go_ret
   exact ⟨ret_int HV.out.symm,HB.out⟩
end CatR
namespace CatR
open EvtR (Pt)
def mFd (t:ByteArray):List Me→Me
 | []=>Me.zero
 | m::ms=>bif m.n.toList==t.toList then m else mFd t ms
def mO (c:Ca) (t:ByteArray):Me:=bif caB c then mFd t c.ms else Me.zero
theorem mFd_hit (t:ByteArray):∀(ms:List Me) (k:Nat),k<ms.length→(∀i,i<k→mN ms i≠t)→mN ms k=t→mFd t ms=ms.getD k Me.zero
 | [],k,hk,_,_=>by simp at hk
 | m::ms,0,_,_,h=>by
  have h:m.n=t:=h
  rw [mFd,h]
  simp
 | m::ms,k+1,hk,hn,h=>by
  have h0:m.n≠t:=hn 0 (by omega)
  have hb:(m.n.toList==t.toList)=false:=beq_no h0
  rw [mFd,hb,cond_false]
  have:=mFd_hit t ms k (by simpa using hk) (fun i hi=>hn (i+1) (by omega)) h
  rw [this]
  rfl
theorem mFd_none (t:ByteArray):∀(ms:List Me),(∀i,i<ms.length→mN ms i≠t)→mFd t ms=Me.zero
 | [],_=>rfl
 | m::ms,hn=>by
  have h0:m.n≠t:=hn 0 (by simp)
  rw [mFd,beq_no h0,cond_false]
  exact mFd_none t ms (fun i hi=>hn (i+1) (by simpa using hi))
theorem ms_rise {ms:List Me} (h:MsRight ms):∀i,i<ms.length→∀j,j<i→lt (mN ms j) (mN ms i)=true
 | 0,_=>fun j hj=>absurd hj (by omega)
 | i+1,hi=>fun j hj=>by
  have h1:=(h.2 (i+1) hi).2 (by omega)
  rw [Nat.add_sub_cancel] at h1
  by_cases q:j=i
  ·subst q;exact h1
  ·exact lt_trans (ms_rise h i (by omega) j (by omega)) h1
theorem ms_apart {ms:List Me} (h:MsRight ms):∀i j,i<ms.length→j<ms.length→mN ms i=mN ms j→i=j:=by
 intro i j hi hj e
 rcases (show i<j∨i=j∨j<i by omega) with q|q|q
 ·have:=ms_rise h j hj i q
  rw [e,lt_irrefl] at this
  cases this
 ·exact q
 ·have:=ms_rise h i hi j q
  rw [e,lt_irrefl] at this
  cases this
theorem name_cases (ms:List Me) (h:MsRight ms) (t:ByteArray):(∃k,k<ms.length∧mN ms k=t∧mFd t ms=ms.getD k Me.zero)∨((∀i,i<ms.length→mN ms i≠t)∧mFd t ms=Me.zero):=by
 by_cases q:∃k,k<ms.length∧mN ms k=t
 ·obtain ⟨k,hk,he⟩:=q
  refine .inl ⟨k,hk,he,mFd_hit t ms k hk (fun i hi e=>?_) he⟩
  have:=ms_apart h i k (by omega) hk (by rw [e,he])
  omega
 ·have q2:∀i,i<ms.length→mN ms i≠t:=fun i hi e=>q ⟨i,hi,e⟩
  exact .inr ⟨q2,mFd_none t ms q2⟩
theorem pt_grown {g m:Nat} {w w':World} {row:Option Nat} (h:Pt g m w) (hg:w.grownBy w' row) (hne:some g≠row):Pt g m w':=by
 have e:=hg.block g h.lt hne
 exact ⟨by have:=hg.size;have:=h.lt;omega,fun o ho=>by obtain ⟨v,hv⟩:=h.has o ho;exact ⟨v,(World.cell?_of_block (a:=⟨g,o,none⟩) e).trans hv⟩,fun o ho=>(World.frozen?_of_block (a:=⟨g,o,none⟩) e).trans (h.free o ho)⟩
theorem res_zero {w w':World} (hb:Below w.heap.size w w'):ResM w Me.zero (.returned (.agg #[.string ⟨#[]⟩,.int .i64 0,.bool false,.int .i64 0,.int .i64 0,.slice none 0 0])) w':=⟨none,0,rfl,Tis.nil _ _,.inl rfl,hb⟩
set_option maxRecDepth 100000 in
set_option maxHeartbeats 8000000 in
theorem impl_mo (v:Value) (c:Ca) (t:ByteArray) (w:World) (ht:t.size≤1048576) (hS:c.Small) (hC:IsCa v c w) (hL:Laid w) :
 Calls Tryz.prog 171 #[v,.string t] w fun e w'=>ResM w (mO c t) e w':=by
 have H1:=hid_intro (fun W (hW:Below w.heap.size w W)=>impl_ca v c W hS (hC.below hW) (hL.below hW))
 obtain ⟨ma,mc,ca,cc,rfl,hM,hR⟩:=hC
 obtain ⟨V,hV⟩:=mes_v hM
 have HB0:Hid (Below w.heap.size w ((w.alloc (.cells #[.slice ma c.ms.length mc,.slice ca c.cs.length cc] 40)).alloc (.cells #[.string ⟨#[]⟩,.int .i64 0,.bool false,.int .i64 0,.int .i64 0,.slice none 0 0] 119))):=hid_intro (((Below.refl _ _).alloc (Nat.le_refl _) _).alloc (by simp) _)
 have HC0:Hid (Blk w.heap.size [.slice ma c.ms.length mc,.slice ca c.cs.length cc] ((w.alloc (.cells #[.slice ma c.ms.length mc,.slice ca c.cs.length cc] 40)).alloc (.cells #[.string ⟨#[]⟩,.int .i64 0,.bool false,.int .i64 0,.int .i64 0,.slice none 0 0] 119))):=hid_intro ((Blk.new w _ _).alloc _)
 have HQ0:Hid (Pt (w.heap.size+1) 6 ((w.alloc (.cells #[.slice ma c.ms.length mc,.slice ca c.cs.length cc] 40)).alloc (.cells #[.string ⟨#[]⟩,.int .i64 0,.bool false,.int .i64 0,.int .i64 0,.slice none 0 0] 119))):=hid_intro (by have:=pt_new (w.alloc (.cells #[.slice ma c.ms.length mc,.slice ca c.cs.length cc] 40)) [.string ⟨#[]⟩,.int .i64 0,.bool false,.int .i64 0,.int .i64 0,.slice none 0 0] 119;simpa using this)
 have HMO:Hid (mO c t=bif caB c then mFd t c.ms else Me.zero):=rfl
 have HIF:Hid (caB c=true↔MsRight c.ms∧CsRight c.cs):=hid_intro caB_iff
 generalize caB c=r at *
 generalize mO c t=RES at *
 cases r
 ·rw [cond_false] at HMO
  obtain rfl:=HMO.out
  generalize c.ms.length=ml at *
  generalize c.cs.length=cl at *
  clear hM hR hV hS HIF
  go_enter Tryz.func171,Tryz.ntmps171
  go_wp2_with fail
  refine (H1.out _ HB0.out).mono ?_
  rintro e w1 ⟨rfl,hb1⟩
  have HB1:=hid_intro (HB0.out.trans (hb1.mono HB0.out.size))
  have HQ2:=hid_intro (HQ0.out.below hb1)
  clear hb1
  have q:=HQ2.out.lt
  obtain ⟨y0,e0⟩:=HQ2.out.has 0 (by omega)
  obtain ⟨y1,e1⟩:=HQ2.out.has 1 (by omega)
  obtain ⟨y2,e2⟩:=HQ2.out.has 2 (by omega)
  obtain ⟨y3,e3⟩:=HQ2.out.has 3 (by omega)
  obtain ⟨y4,e4⟩:=HQ2.out.has 4 (by omega)
  obtain ⟨y5,e5⟩:=HQ2.out.has 5 (by omega)
  have z0:=HQ2.out.free 0 (by omega)
  have z1:=HQ2.out.free 1 (by omega)
  have z2:=HQ2.out.free 2 (by omega)
  have z3:=HQ2.out.free 3 (by omega)
  have z4:=HQ2.out.free 4 (by omega)
  have z5:=HQ2.out.free 5 (by omega)
  go_wp2_with fail
  refine bodyPost_ret (v:=.agg #[.string ⟨#[]⟩,.int .i64 0,.bool false,.int .i64 0,.int .i64 0,.slice none 0 0]) (by simp [results,Tryz.results171,go_sem,e0,e1,e2,e3,e4,e5]) rfl (res_zero ?_)
  exact (((((HB1.out.setCell (by simp) _).setCell (by simp) _).setCell (by simp) _).setCell (by simp) _).setCell (by simp) _).setCell (by simp) _
 ·rw [cond_true] at HMO
  obtain ⟨hms,_⟩:=HIF.out.1 rfl
  have HBN:=hid_intro (fun W (hW:Below w.heap.size w W)=>byName_any ma c.ms.length mc c.ms V W hms.1 (fun i hi=>(hS.ms i hi).1) (hV.below hW))
  generalize hml:c.ms.length=ml at *
  generalize c.cs.length=cl at *
  go_enter Tryz.func171,Tryz.ntmps171
  go_wp2_with fail
  refine (H1.out _ HB0.out).mono ?_
  rintro e w1 ⟨rfl,hb1⟩
  have HB1:=hid_intro (HB0.out.trans (hb1.mono HB0.out.size))
  have HC1:=hid_intro (HC0.out.below hb1)
  have HQ1:=hid_intro (HQ0.out.below hb1)
  clear hb1
  have x0:w1.cell? ⟨w.heap.size,0,none⟩=some (.slice ma ml mc):=HC1.out.2 0 (by simp)
  have xl:=HC1.out.1
  go_wp2_with fail
  refine (HBN.out _ HB1.out).mono ?_
  rintro e w2 ⟨rfl,hown2,hb2⟩
  have HB2:=hid_intro (HB1.out.trans (hb2.mono HB1.out.size))
  have HQ2:=hid_intro (HQ1.out.below hb2)
  have HO2:=hid_intro hown2
  clear hb2 hown2 x0 xl
  obtain ⟨hl2,a0,hl3⟩:=hL.below HB2.out
  rcases name_cases c.ms hms t with ⟨k,hk,hkt,hkf⟩|⟨hno,hkf⟩
  ·obtain ⟨ta,tc,hvk,hTk⟩:=hV.is k (by omega)
   have hmr:=(hms.2 k hk).1
   have ht1:=hmr.2.2.2.2.1
   have ht5:=hmr.2.2.2.2.2.1
   have hap:=ms_apart hms
   rw [hml] at hap
   have HT:=hid_intro (take_has w1.heap.size ml (mapD c.ms V ml) t _ _ _ _ _ _ _ _ w2 ht HO2.out ((has_mapD c.ms V t ml).2 ⟨k,by omega,hkt⟩) (fun z=>by rw [←hkt,at_mapD c.ms V z ml hap k (by omega),hvk]))
   rw [hkf] at HMO
   have HCP:Hid (∀W,Below w.heap.size w W→Calls Tryz.prog 203 #[.agg #[.string (c.ms.getD k Me.zero).n,.int .i64 (c.ms.getD k Me.zero).g,.bool (c.ms.getD k Me.zero).wh,.int .i64 (c.ms.getD k Me.zero).f,.int .i64 (c.ms.getD k Me.zero).l,.slice ta (c.ms.getD k Me.zero).ts.length tc]] W fun e w'=>ResM W (c.ms.getD k Me.zero) e w'):=hid_intro (fun W hW=>by
    rcases hTk.2 with h0|⟨b,off,rfl,_⟩
    ·omega
    ·exact copy_me b off tc _ W ht1 ht5 (hS.ms k hk).1 (hTk.below hW))
   have HIS:=hid_intro (fun w=>IsR.is_nil a0 w)
   generalize c.ms.getD k Me.zero=X at *
   obtain ⟨n,g,wh,f,l,ts⟩:=X
   obtain rfl:=HMO.out
   simp only at HT HCP
   clear hvk hTk hmr ht1 ht5 hap hkf HMO HBN hV hM hR hS hms HIF
   go_wp2_with fail
   refine HT.out.mono ?_
   rintro e w3 ⟨rfl,hown3,hg3⟩
   have HB3:=hid_intro (HB2.out.grown hg3 HB2.out.size (fun q e=>by cases e;exact HB1.out.size))
   have g0:w3.cell? ⟨0,0,none⟩=some (.iface 322 (.pointer (some a0))):=(World.cell?_of_block (a:=⟨0,0,none⟩) (hg3.block _ hl2 (fun e=>by simp at e;have:=hL.1;have:=HB1.out.size;omega))).trans hl3
   have gl:0<w3.heap.size:=by have:=hg3.size;omega
   have HQ3:Hid (Pt (w.heap.size+1) 6 w3):=hid_intro (pt_grown HQ2.out hg3 (fun e=>by simp at e;have:=HQ1.out.lt;omega))
   clear hown3 hg3
   go_wp2_with (go_at_call 154;refine (HIS.out _).mono ?_;rintro e w' ⟨rfl,rfl⟩)
   have HBa:=hid_intro (HB3.out.alloc HB3.out.size (.cells #[.string n,.int .i64 g,.bool wh,.int .i64 f,.int .i64 l,.slice ta ts.length tc] 119))
   refine (HCP.out _ HBa.out).mono ?_
   rintro e w4 ⟨ta',tc',rfl,hT4,hO4,hb4⟩
   simp only at hT4 hO4
   have HB4:=hid_intro (HBa.out.trans (hb4.mono HBa.out.size))
   have HQ4:=hid_intro ((HQ3.out.below ((Below.refl _ _).alloc (Nat.le_refl _) (.cells #[.string n,.int .i64 g,.bool wh,.int .i64 f,.int .i64 l,.slice ta ts.length tc] 119))).below hb4)
   have HT4:=hid_intro hT4
   have HO4:Hid (ts.length=0∨∃g,ta'=some ⟨g,0,none⟩∧w3.heap.size≤g∧Pt g (ts.length*2) w4):=hid_intro (hO4.imp id (fun ⟨g,h1,h2,h3⟩=>⟨g,h1,by simp at h2;omega,h3⟩))
   have hq3:=HQ3.out.lt
   have hw3:=HB3.out.size
   clear hT4 hO4 hb4 g0
   have q:=HQ4.out.lt
   obtain ⟨y0,e0⟩:=HQ4.out.has 0 (by omega)
   obtain ⟨y1,e1⟩:=HQ4.out.has 1 (by omega)
   obtain ⟨y2,e2⟩:=HQ4.out.has 2 (by omega)
   obtain ⟨y3,e3⟩:=HQ4.out.has 3 (by omega)
   obtain ⟨y4,e4⟩:=HQ4.out.has 4 (by omega)
   obtain ⟨y5,e5⟩:=HQ4.out.has 5 (by omega)
   have z0:=HQ4.out.free 0 (by omega)
   have z1:=HQ4.out.free 1 (by omega)
   have z2:=HQ4.out.free 2 (by omega)
   have z3:=HQ4.out.free 3 (by omega)
   have z4:=HQ4.out.free 4 (by omega)
   have z5:=HQ4.out.free 5 (by omega)
   go_wp2_with fail
   refine bodyPost_ret (v:=.agg #[.string n,.int .i64 g,.bool wh,.int .i64 f,.int .i64 l,.slice ta' ts.length tc']) (by simp [results,Tryz.results171,go_sem,e0,e1,e2,e3,e4,e5]) rfl ⟨ta',tc',rfl,?_,?_,?_⟩
   ·rcases Nat.eq_zero_or_pos ts.length with h0|h0
    ·exact ⟨rfl,.inl h0⟩
    ·obtain ⟨g',e1,e2,e3⟩:=HO4.out.resolve_left (by omega)
     subst e1
     exact (((((HT4.out.far (by omega) _ _).far (by omega) _ _).far (by omega) _ _).far (by omega) _ _).far (by omega) _ _).far (by omega) _ _
   ·refine HO4.out.imp id (fun ⟨g',e1,e2,e3⟩=>⟨g',e1,by omega,?_⟩)
    exact (((((e3.far (by omega) _ _).far (by omega) _ _).far (by omega) _ _).far (by omega) _ _).far (by omega) _ _).far (by omega) _ _
   ·exact (((((HB4.out.setCell (by simp) _).setCell (by simp) _).setCell (by simp) _).setCell (by simp) _).setCell (by simp) _).setCell (by simp) _
  ·have hnh:Maps.has (mapD c.ms V ml) (kS t)=false:=by
    cases hh:Maps.has (mapD c.ms V ml) (kS t)
    ·rfl
    ·obtain ⟨q,hq,hqe⟩:=(has_mapD c.ms V t ml).1 hh
     exact absurd hqe (hno q (by omega))
   have HT:=hid_intro (take_no w1.heap.size ml (mapD c.ms V ml) t w2 ht HO2.out hnh a0 hl2 hl3)
   rw [hkf] at HMO
   obtain rfl:=HMO.out
   have HIS:=hid_intro (fun w=>IsR.is_same a0 w)
   clear hnh hno hkf HMO HBN hV hM hR hS hms HIF
   go_wp2_with fail
   refine HT.out.mono ?_
   rintro e w3 ⟨rfl,hb3⟩
   have HB3:=hid_intro (HB2.out.trans (hb3.mono HB2.out.size))
   have g0:w3.cell? ⟨0,0,none⟩=some (.iface 322 (.pointer (some a0))):=(hb3.cell (p:=⟨0,0,none⟩) hl2).trans hl3
   have gl:0<w3.heap.size:=by have:=hb3.size;omega
   have HQ3:=hid_intro (HQ2.out.below hb3)
   have HQ4:=hid_intro (HQ3.out.below ((Below.refl _ _).alloc (Nat.le_refl _) (.cells #[.string ⟨#[]⟩,.int .i64 0,.bool false,.int .i64 0,.int .i64 0,.slice none 0 0] 119)))
   have HB4:=hid_intro (HB3.out.alloc HB3.out.size (.cells #[.string ⟨#[]⟩,.int .i64 0,.bool false,.int .i64 0,.int .i64 0,.slice none 0 0] 119))
   clear hb3
   go_wp2_with fail
   refine (HIS.out _).mono ?_
   rintro e w5 ⟨rfl,hw5⟩
   have HQ5:Hid (Pt (w.heap.size+1) 6 w5):=hid_intro (by rw [hw5];exact HQ4.out)
   have HB5:Hid (Below w.heap.size w w5):=hid_intro (by rw [hw5];exact HB4.out)
   clear hw5 HB4 HQ4 g0 gl
   have q:=HQ5.out.lt
   obtain ⟨y0,e0⟩:=HQ5.out.has 0 (by omega)
   obtain ⟨y1,e1⟩:=HQ5.out.has 1 (by omega)
   obtain ⟨y2,e2⟩:=HQ5.out.has 2 (by omega)
   obtain ⟨y3,e3⟩:=HQ5.out.has 3 (by omega)
   obtain ⟨y4,e4⟩:=HQ5.out.has 4 (by omega)
   obtain ⟨y5,e5⟩:=HQ5.out.has 5 (by omega)
   have z0:=HQ5.out.free 0 (by omega)
   have z1:=HQ5.out.free 1 (by omega)
   have z2:=HQ5.out.free 2 (by omega)
   have z3:=HQ5.out.free 3 (by omega)
   have z4:=HQ5.out.free 4 (by omega)
   have z5:=HQ5.out.free 5 (by omega)
   go_wp2_with fail
   refine bodyPost_ret (v:=.agg #[.string ⟨#[]⟩,.int .i64 0,.bool false,.int .i64 0,.int .i64 0,.slice none 0 0]) (by simp [results,Tryz.results171,go_sem,e0,e1,e2,e3,e4,e5]) rfl (res_zero ?_)
   exact (((((HB5.out.setCell (by simp) _).setCell (by simp) _).setCell (by simp) _).setCell (by simp) _).setCell (by simp) _).setCell (by simp) _
end CatR
namespace LinR
open RowG LtR
def sumL (es:List N):Int:=(es.map (fun e=>e.n)).sum
def totL (es:List N):Int:=bif sB es then sumL es else 0
theorem sum_take (es:List N) (k:Nat) (h:k<es.length):sumL (es.take (k+1))=sumL (es.take k)+(es.getD k N.zero).n:=by
 unfold sumL
 rw [take_more (z:=N.zero) es k h,List.map_append,List.sum_append]
 simp
theorem num_in {n:Int} (h:nOk n=true):-1000000000000000≤n∧n≤1000000000000000:=by unfold nOk at h;simpa using h
theorem line_in {es:List N} (h:SRight es) (k:Nat) (hk:k<es.length):-1000000000000000≤(es.getD k N.zero).n∧(es.getD k N.zero).n≤1000000000000000:=by
 have:=(h.2 k hk).2
 unfold lOk at this
 simp only [Bool.and_eq_true] at this
 exact num_in this.2.1
theorem sum_in {es:List N} (h:SRight es):∀k,k≤es.length→-(1000000000000000*(k:Int))≤sumL (es.take k)∧sumL (es.take k)≤1000000000000000*(k:Int)
 | 0,_=>by simp [sumL]
 | k+1,hk=>by
  have h1:=sum_in h k (by omega)
  have h2:=line_in h k (by omega)
  rw [sum_take es k (by omega)]
  push_cast
  omega
end LinR
namespace LinR
open RowG LtR
open ClampR (clamp)
def pd (c n:Int):Int:=clamp n 0 c
theorem pd_bd {c n:Int} (hc:0≤c):0≤pd c n∧pd c n≤c∧(n≤0→pd c n=0)∧(0<n→pd c n≤n∧(pd c n=n∨pd c n=c)):=by
 unfold pd clamp
 split<;>(try split)<;>omega
def cr (c:Int) (es:List N):Nat→Int
 | 0=>c
 | k+1=>cr c es k-pd (cr c es k) (es.getD k N.zero).n
def dl (c:Int) (es:List N):Nat→List N
 | 0=>[]
 | k+1=>dl c es k ++ [⟨(es.getD k N.zero).i,(es.getD k N.zero).n-pd (cr c es k) (es.getD k N.zero).n⟩]
theorem dl_len (c:Int) (es:List N):∀k,(dl c es k).length=k
 | 0=>rfl
 | k+1=>by simp [dl,dl_len c es k]
theorem cr_bd {c:Int} (es:List N) (hc:0≤c):∀k,0≤cr c es k∧cr c es k≤c
 | 0=>⟨hc,Int.le_refl _⟩
 | k+1=>by
  have h:=cr_bd es hc k
  have p:=pd_bd (n:=(es.getD k N.zero).n) h.1
  simp only [cr]
  omega
theorem dl_mem {c:Int} {es:List N}:∀{k},k≤es.length→∀e∈dl c es k,∃x∈es,e.i=x.i
 | 0,_,e,h=>by cases h
 | k+1,hk,e,h=>by
  rcases List.mem_append.1 h with h|h
  ·exact dl_mem (by omega) e h
  ·simp only [List.mem_singleton] at h
   exact ⟨_,getD_mem (z:=N.zero) es k (by omega),by rw [h]⟩
def drawL (c:Int) (es:List N):List N:=(dl c es es.length).filter nz
def drawB (c:Int) (es:List N):List N:=bif sB es&&decide (0≤c∧c≤1000000000000000) then drawL c es else []
theorem inS (n low high:Int) (w:World) :
 Calls Tryz.prog 118 #[.int .i64 n,.int .i64 low,.int .i64 high] w fun e w'=>e=.returned (.bool (decide (low≤n∧n≤high)))∧w'=w:=by
 rcases (show (¬low≤n)∨(low≤n∧¬n≤high)∨(low≤n∧n≤high) by omega) with h|⟨h1,h2⟩|⟨h1,h2⟩
 all_goals
  go_enter Tryz.func118,Tryz.ntmps118
  go_wp2
  go_ret
  exact ⟨ret_bool (by first|(simp [*];done)|(simp;omega)),rfl⟩
theorem isS (n low high:Int) (w:World) :
 Calls Tryz.prog 95 #[.int .i64 n,.int .i64 low,.int .i64 high] w fun e w'=>e=.returned (.bool (decide (low≤n∧n≤high)))∧w'=w:=by
 rcases (show (¬low≤n)∨(low≤n∧¬n≤high)∨(low≤n∧n≤high) by omega) with h|⟨h1,h2⟩|⟨h1,h2⟩
 all_goals
  go_enter Tryz.func95,Tryz.ntmps95
  go_wp2
  go_ret
  exact ⟨ret_bool (by first|(simp [*];done)|(simp;omega)),rfl⟩
def Res (w:World) (l:List N) (e:Ending) (w':World):Prop:=∃ao cap,e=.returned (.slice ao l.length cap)∧MadeG 2 N.cells N.zero w.heap.size ao l w'∧Below w.heap.size w w'
theorem res_own {w w':World} {l:List N} {v:Value} (h:w'.ownsRow w.heap.size 116 2 v l.length (cellsAll N.cells l)) (hb:Below w.heap.size w w'):Res w l (.returned v) w':=by
 obtain ⟨ao,cap,rfl,hm⟩:=own_made (z:=N.zero) N.len h
 exact ⟨ao,cap,rfl,hm,hb⟩
theorem sub_w {a b:Int} (h:-4000000000000000≤a-b∧a-b≤4000000000000000):wrap64 (a-b)=a-b:=by unfold wrap64;omega
set_option maxRecDepth 100000 in
set_option maxHeartbeats 4000000 in
theorem impl_drawn (ao:Option Addr) (cap:Nat) (es:List N) (c:Int) (w:World) (hlen:es.length≤1048576) (hS:∀e∈es,e.i.size≤1048576) (hI:Lis ao es w) :
 Calls Tryz.prog 131 #[.slice ao es.length cap,.int .i64 c] w fun e w'=>Res w (drawB c es) e w':=by
 obtain ⟨i0,hi,hz0,hz1,hz2⟩:=info_parts infoN
 have H1:=hid_intro (impl_lines ao cap es w hlen hS hI)
 have H2:=hid_intro (fun w=>inS c 0 1000000000000000 w)
 have HT:Hid (drawB c es=bif sB es&&decide (0≤c∧c≤1000000000000000) then drawL c es else []):=rfl
 have HR:=hid_intro (sB_iff (es:=es)).1
 have HC0:Hid (decide (0≤c∧c≤1000000000000000)=true→0≤c∧c≤1000000000000000):=hid_intro (fun h=>by simpa using h)
 have HI:=hid_intro hI
 have HPT:=hid_intro (fun bo cap' W (h:Lis bo (dl c es es.length) W) (h6:es.length≤40)=>put_any bo cap' (dl c es es.length) W (by rw [dl_len];omega) (fun e he=>by obtain ⟨x,hx,e1⟩:=dl_mem (Nat.le_refl _) e he;rw [e1];exact hS x hx) h)
 have HDL:Hid (drawL c es=(dl c es es.length).filter nz):=rfl
 rw [←HDL.out,dl_len] at HPT
 generalize drawB c es=D at *
 generalize sB es=r at *
 generalize decide (0≤c∧c≤1000000000000000)=q at *
 obtain ⟨len,hl⟩:∃len,len=es.length:=⟨_,rfl⟩
 rw [←hl] at hlen H1 HPT HDL ⊢
 have HL:=hid_intro hl
 clear hI hS hl
 cases r
 ·go_enter Tryz.func131,Tryz.ntmps131
  go_wp2_with fail
  refine (H1.out).mono ?_
  rintro e w1 ⟨rfl,hb1⟩
  have HB:=hid_intro hb1
  clear hb1
  go_wp2_with fail
  go_ret
  rw [HT.out]
  exact ⟨none,0,rfl,made_nil _ _ _,HB.out⟩
 cases q
 ·go_enter Tryz.func131,Tryz.ntmps131
  go_wp2_with fail
  refine (H1.out).mono ?_
  rintro e w1 ⟨rfl,hb1⟩
  have HB:=hid_intro hb1
  clear hb1
  go_wp2_with (go_at_call 118;refine (H2.out _).mono ?_;rintro e w2 ⟨rfl,rfl⟩)
  go_ret
  rw [HT.out]
  exact ⟨none,0,rfl,made_nil _ _ _,HB.out⟩
 have HQ:=hid_intro (HR.out rfl)
 have HC:=hid_intro (HC0.out rfl)
 have h6:len≤6:=by have:=HQ.out.1;have:=HL.out;omega
 go_enter Tryz.func131,Tryz.ntmps131
 go_wp2_with fail
 refine (H1.out).mono ?_
 rintro e w1 ⟨rfl,hb1⟩
 have HB:=hid_intro hb1
 clear hb1
 go_wp2_with (go_at_call 118;refine (H2.out _).mono ?_;rintro e w2 ⟨rfl,rfl⟩)
 go_loopw [1,5,19] (fun x v z wr=>∃k:Nat,k≤len∧x=.int .i64 (cr c es k)∧z=.int .i64 k∧Hid (wr.ownsRow w.heap.size 116 2 v k (cellsAll N.cells (dl c es k)))∧Hid (Below w.heap.size w wr)) (fun x v z _=>len-(intOf z).toNat)
 case atStart=>exact ⟨0,by omega,rfl,rfl,hid_intro (World.ownsRow_nil _ _ _ _),HB⟩
 case round =>
  obtain ⟨k,hk,rfl,rfl,HO,HB⟩:=hrel
  by_cases hlt:k<len
  ·have hlt2:(k:Int)<(len:Int):=by omega
   obtain ⟨b,off,rfl,hbl,c0,c1⟩:=(HI.out.below HB.out).at k (by have:=HL.out;omega)
   have HIN:=hid_intro (line_in HQ.out k (by have:=HL.out;omega))
   have HCB:=hid_intro (cr_bd es HC.out.1 k)
   have HN1:Hid (cr c es (k+1)=cr c es k-pd (cr c es k) (es.getD k N.zero).n):=rfl
   have HN2:Hid (dl c es (k+1)=dl c es k ++ [⟨(es.getD k N.zero).i,(es.getD k N.zero).n-pd (cr c es k) (es.getD k N.zero).n⟩]):=rfl
   generalize es.getD k N.zero=X at *
   obtain ⟨xi,xn⟩:=X
   dsimp only at c0 c1 HIN HN1 HN2
   have HPD:=hid_intro (pd_bd (n:=xn) HCB.out.1)
   have HCL:=hid_intro (fun w=>ClampR.impl_any xn 0 (cr c es k) w)
   have hpe:clamp xn 0 (cr c es k)=pd (cr c es k) xn:=rfl
   rw [hpe] at HCL
   have w1:wrap64 (cr c es k-pd (cr c es k) xn)=cr c es k-pd (cr c es k) xn:=sub_w (by have:=HPD.out;have:=HCB.out;have:=HC.out;omega)
   have w2:wrap64 (xn-pd (cr c es k) xn)=xn-pd (cr c es k) xn:=sub_w (by have:=HPD.out;have:=HCB.out;have:=HC.out;have:=HIN.out;omega)
   have HLD:=hid_intro (dl_len c es k)
   generalize pd (cr c es k) xn=p at *
   generalize dl c es k=F at *
   generalize cr c es k=C at *
   clear hpe
   go_wp2_with (first|(go_at_call 179;refine (HCL.out _).mono ?_;rintro e w3 ⟨rfl,rfl⟩)|(at_builtin;refine wpList_append_own _ rfl _ _ 33 rfl w.heap.size 116 i0 (.agg #[.string ⟨#[]⟩,.int .i64 0]) 2 24 Tryz.underlying33 hi hz0 hz1 hz2 rfl (by decide) _ _ _ rfl ((HO.out.alloc _).alloc _) ⟨_,0,none⟩ 1 1 (N.cells ⟨xi,xn-p⟩) rfl rfl ?d1 ?d2 ?d3 ?d4 ?d5 ?_))
   case d1 =>
    intro j u hx
    have:=two_cells (wr.alloc (.cells #[.string xi,.int .i64 xn] 116)) xi (xn-p) 116 j u hx
    simpa using this
   case d2=>exact two_one _
   case d3=>unfold maxLen;omega
   case d4=>omega
   case d5=>have h1:=HB.out.size;simp;omega
   intro v' w4 hown hgrow hne
   have HO4:Hid (w4.ownsRow w.heap.size 116 2 v' (k+1) (cellsAll N.cells (F ++ [(⟨xi,xn-p⟩:N)]))):=hid_intro (by rw [cellsAll_app];exact hown)
   have HOB:=hid_intro (fun c hc=>(HO.out.lt c hc).1)
   have HB4:Hid (Below w.heap.size w w4):=hid_intro (((HB.out.alloc HB.out.size _).alloc (HB.out.alloc HB.out.size _).size _).grown hgrow ((HB.out.alloc HB.out.size _).alloc (HB.out.alloc HB.out.size _).size _).size (fun c e=>HOB.out c e))
   clear hown hgrow hne
   go_wp2_with fail
   go_roundw
   case rel=>exact ⟨k+1,by omega,by rw [HN1.out],by go_num,hid_intro (by rw [HN2.out];exact HO4.out),HB4⟩
   case measure=>simp [intOf];omega
  ·have hlt2:¬(k:Int)<(len:Int):=by omega
   obtain rfl:k=len:=by omega
   have HLD:=hid_intro (dl_len c es k)
   obtain ⟨bo,cap',rfl,hm⟩:=own_made (z:=N.zero) N.len (by rw [HLD.out];exact HO.out)
   have HM:=hid_intro hm.rws
   rw [HLD.out]
   clear hm
   go_wp2_with fail
   refine (HPT.out _ _ _ HM.out (by have:=HL.out;omega)).mono ?_
   rintro e w5 ⟨v,rfl,ho,hb5⟩
   have HO5:=hid_intro (own_low ho HB.out.size)
   have HB5:=hid_intro (HB.out.trans (hb5.mono HB.out.size))
   clear ho hb5
   go_wp2_with fail
   go_ret
   rw [HT.out]
   exact res_own HO5.out HB5.out
theorem dl_more (c:Int) (es:List N) (k:Nat):(dl c es (k+1)).filter nz=(dl c es k).filter nz++(bif nz ⟨(es.getD k N.zero).i,(es.getD k N.zero).n-pd (cr c es k) (es.getD k N.zero).n⟩ then [⟨(es.getD k N.zero).i,(es.getD k N.zero).n-pd (cr c es k) (es.getD k N.zero).n⟩] else []):=by
 show ((dl c es k) ++ [_]).filter nz=_
 rw [List.filter_append]
 generalize (⟨(es.getD k N.zero).i,(es.getD k N.zero).n-pd (cr c es k) (es.getD k N.zero).n⟩:N)=X
 cases hr:nz X<;>simp [hr]
theorem min_any (a b:Int) (w:World):Calls Tryz.prog 106 #[.int .i64 a,.int .i64 b] w fun e w'=>e=.returned (.int .i64 (if a<b then a else b))∧w'=w:=by
 by_cases h:a<b
 all_goals
  simp only [h,if_true,if_false]
  go_enter Tryz.func106,Tryz.ntmps106
  go_wp2
  go_ret
  exact ⟨rfl,rfl⟩
theorem pd_min {c n:Int} (hc:0≤c) (hn:0<n):(if n<c then n else c)=pd c n:=by
 unfold pd clamp
 split<;>split<;>(try split)<;>omega
set_option maxRecDepth 100000 in
set_option maxHeartbeats 4000000 in
theorem spec_drawn0 (ao:Option Addr) (cap:Nat) (es:List N) (c:Int) (w:World) (hR:SRight es) (hC:0≤c∧c≤1000000000000000) (hI:Lis ao es w) :
 Calls Tryz.prog 61 #[.slice ao es.length cap,.int .i64 c] w fun e w'=>∃v,e=.returned v∧w'.ownsRow w.heap.size 116 2 v (drawL c es).length (cellsAll N.cells (drawL c es))∧Below w.heap.size w w':=by
 obtain ⟨i0,hi,hz0,hz1,hz2⟩:=info_parts infoN
 have HI:=hid_intro hI
 have HQ:=hid_intro hR
 have HC:=hid_intro hC
 have HDL:Hid (drawL c es=(dl c es es.length).filter nz):=rfl
 generalize drawL c es=D at *
 obtain ⟨len,hl⟩:∃len,len=es.length:=⟨_,rfl⟩
 rw [←hl] at HDL ⊢
 have HL:=hid_intro hl
 have h6:len≤6:=by have:=hR.1;omega
 have HE:=hid_intro (own_empty w w.heap.size 116 2 (Nat.le_refl _))
 clear hI hl hR hC
 go_enter Tryz.func61,Tryz.ntmps61
 go_wp2_with fail
 go_loopw [1,5,6] (fun x v z wr=>∃k:Nat,k≤len∧x=.int .i64 (cr c es k)∧z=.int .i64 k∧Hid (wr.ownsRow w.heap.size 116 2 v ((dl c es k).filter nz).length (cellsAll N.cells ((dl c es k).filter nz)))∧Hid (Below w.heap.size w wr)) (fun x v z _=>len-(intOf z).toNat)
 case atStart=>exact ⟨0,by omega,rfl,rfl,HE,hid_intro ((Below.refl _ _).alloc (Nat.le_refl _) _)⟩
 case round =>
  obtain ⟨k,hk,rfl,rfl,HO,HB⟩:=hrel
  by_cases hlt:k<len
  ·have hlt2:(k:Int)<(len:Int):=by omega
   obtain ⟨b,off,rfl,hbl,c0,c1⟩:=(HI.out.below HB.out).at k (by have:=HL.out;omega)
   have HIN:=hid_intro (line_in HQ.out k (by have:=HL.out;omega))
   have HCB:=hid_intro (cr_bd es HC.out.1 k)
   have HN1:Hid (cr c es (k+1)=cr c es k-pd (cr c es k) (es.getD k N.zero).n):=rfl
   have HN2:=hid_intro (dl_more c es k)
   have HLF:Hid (((dl c es k).filter nz).length≤6):=hid_intro (by
    have h1:=List.length_filter_le nz (dl c es k)
    rw [dl_len] at h1
    omega)
   generalize (dl c es k).filter nz=F at *
   generalize es.getD k N.zero=X at *
   obtain ⟨xi,xn⟩:=X
   dsimp only at c0 c1 HIN HN1 HN2
   have HPD:=hid_intro (pd_bd (n:=xn) HCB.out.1)
   by_cases hx:0<xn
   ·have HMN:=hid_intro (fun w=>min_any xn (cr c es k) w)
    rw [pd_min HCB.out.1 hx] at HMN
    have w1:wrap64 (cr c es k-pd (cr c es k) xn)=cr c es k-pd (cr c es k) xn:=sub_w (by have:=HPD.out;have:=HCB.out;have:=HC.out;omega)
    have w2:wrap64 (xn-pd (cr c es k) xn)=xn-pd (cr c es k) xn:=sub_w (by have:=HPD.out;have:=HCB.out;have:=HC.out;have:=HIN.out;omega)
    generalize pd (cr c es k) xn=p at *
    generalize cr c es k=C at *
    obtain ⟨Y,hY⟩:∃Y,Y=xn-p:=⟨_,rfl⟩
    rw [←hY] at HN2
    replace w2:wrap64 (xn-p)=Y:=w2.trans hY.symm
    obtain ⟨Z,hZ⟩:∃Z,Z=C-p:=⟨_,rfl⟩
    rw [←hZ] at HN1
    replace w1:wrap64 (C-p)=Z:=w1.trans hZ.symm
    clear hZ hY
    have HB1:=hid_intro (HB.out.alloc HB.out.size (.cells #[.string xi,.int .i64 Y] 116))
    have HO1:=hid_intro (HO.out.alloc (.cells #[.string xi,.int .i64 Y] 116))
    rcases nz_cases xi Y with ⟨q1,q2,q3⟩|⟨q1,q2,q3⟩
    ·rw [q3,cond_false,List.append_nil] at HN2
     go_wp2_with (go_at_call 106;refine (HMN.out _).mono ?_;rintro e w3 ⟨rfl,rfl⟩)
     go_roundw
     case rel=>exact ⟨k+1,by omega,by first|(rw [HN1.out];done)|rw [HN1.out,w1],by go_num,hid_intro (by rw [HN2.out];exact HO1.out),HB1⟩
     case measure=>simp [intOf];omega
    ·rw [q3,cond_true] at HN2
     go_wp2_with (first|(go_at_call 106;refine (HMN.out _).mono ?_;rintro e w3 ⟨rfl,rfl⟩)|(at_builtin;refine wpList_append_own _ rfl _ _ 33 rfl w.heap.size 116 i0 (.agg #[.string ⟨#[]⟩,.int .i64 0]) 2 24 Tryz.underlying33 hi hz0 hz1 hz2 rfl (by decide) _ _ _ rfl (HO1.out.alloc _) ⟨_,0,none⟩ 1 1 (N.cells ⟨xi,Y⟩) rfl rfl ?d1 ?d2 ?d3 ?d4 ?d5 ?_))
     case d1 =>
      intro j u hx
      have:=two_cells (wr.alloc (.cells #[.string xi,.int .i64 Y] 116)) xi Y 116 j u hx
      simpa using this
     case d2=>exact two_one _
     case d3=>unfold maxLen;have:=HLF.out;omega
     case d4=>have:=HLF.out;omega
     case d5=>have h1:=HB.out.size;simp;omega
     intro v' w4 hown hgrow hne
     have HO4:Hid (w4.ownsRow w.heap.size 116 2 v' (F ++ [(⟨xi,Y⟩:N)]).length (cellsAll N.cells (F ++ [(⟨xi,Y⟩:N)]))):=hid_intro (by rw [cellsAll_app,List.length_append];exact hown)
     have HOB:=hid_intro (fun c hc=>(HO.out.lt c hc).1)
     have HB4:Hid (Below w.heap.size w w4):=hid_intro ((HB1.out.alloc HB1.out.size _).grown hgrow (HB1.out.alloc HB1.out.size _).size (fun c e=>HOB.out c e))
     clear hown hgrow hne
     go_wp2_with fail
     go_roundw
     case rel=>exact ⟨k+1,by omega,by first|(rw [HN1.out];done)|rw [HN1.out,w1],by go_num,hid_intro (by rw [HN2.out];exact HO4.out),HB4⟩
     case measure=>simp [intOf];omega
   ·have e0:pd (cr c es k) xn=0:=HPD.out.2.2.1 (by omega)
    rw [e0,Int.sub_zero] at HN1 HN2
    clear e0 HPD
    generalize cr c es k=C at *
    have HB1:=hid_intro (HB.out.alloc HB.out.size (.cells #[.string xi,.int .i64 xn] 116))
    have HO1:=hid_intro (HO.out.alloc (.cells #[.string xi,.int .i64 xn] 116))
    rcases nz_cases xi xn with ⟨q1,q2,q3⟩|⟨q1,q2,q3⟩
    ·rw [q3,cond_false,List.append_nil] at HN2
     go_wp2_with fail
     go_roundw
     case rel=>exact ⟨k+1,by omega,by first|(rw [HN1.out];done)|rw [HN1.out,w1],by go_num,hid_intro (by rw [HN2.out];exact HO1.out),HB1⟩
     case measure=>simp [intOf];omega
    ·rw [q3,cond_true] at HN2
     go_wp2_with (at_builtin;refine wpList_append_own _ rfl _ _ 33 rfl w.heap.size 116 i0 (.agg #[.string ⟨#[]⟩,.int .i64 0]) 2 24 Tryz.underlying33 hi hz0 hz1 hz2 rfl (by decide) _ _ _ rfl (HO1.out.alloc _) ⟨_,0,none⟩ 1 1 (N.cells ⟨xi,xn⟩) rfl rfl ?d1 ?d2 ?d3 ?d4 ?d5 ?_)
     case d1=>exact fun _ _ h=>h
     case d2=>exact two_one _
     case d3=>unfold maxLen;have:=HLF.out;omega
     case d4=>have:=HLF.out;omega
     case d5=>have h1:=HB.out.size;simp;omega
     intro v' w4 hown hgrow hne
     have HO4:Hid (w4.ownsRow w.heap.size 116 2 v' (F ++ [(⟨xi,xn⟩:N)]).length (cellsAll N.cells (F ++ [(⟨xi,xn⟩:N)]))):=hid_intro (by rw [cellsAll_app,List.length_append];exact hown)
     have HOB:=hid_intro (fun c hc=>(HO.out.lt c hc).1)
     have HB4:Hid (Below w.heap.size w w4):=hid_intro ((HB1.out.alloc HB1.out.size _).grown hgrow (HB1.out.alloc HB1.out.size _).size (fun c e=>HOB.out c e))
     clear hown hgrow hne
     go_wp2_with fail
     go_roundw
     case rel=>exact ⟨k+1,by omega,by first|(rw [HN1.out];done)|rw [HN1.out,w1],by go_num,hid_intro (by rw [HN2.out];exact HO4.out),HB4⟩
     case measure=>simp [intOf];omega
  ·have hlt2:¬(k:Int)<(len:Int):=by omega
   obtain rfl:k=len:=by omega
   rw [←HDL.out] at HO
   go_wp2_with fail
   go_ret
   exact ⟨_,rfl,HO.out,HB.out⟩
theorem draw_len {c:Int} {es:List N}:(drawB c es).length≤6:=by
 unfold drawB
 cases hs:sB es
 ·simp
 ·have:=(sB_iff.1 hs).1
  have h2:=List.length_filter_le nz (dl c es es.length)
  rw [dl_len] at h2
  cases decide (0≤c∧c≤1000000000000000)
  ·simp
  ·simp only [Bool.and_self,cond_true,drawL]
   omega
end LinR
namespace CatR
open FixR (In Thrown out)
theorem below3 {w W:World} (hb:Below w.heap.size w W) {p:Nat} (hp:w.heap.size≤p) (x y z:Value):Below w.heap.size w (((W.setCell ⟨p,0,none⟩ x).setCell ⟨p,1,none⟩ y).setCell ⟨p,2,none⟩ z) :=
 ((hb.setCell (p:=⟨p,0,none⟩) hp _).setCell (p:=⟨p,1,none⟩) hp _).setCell (p:=⟨p,2,none⟩) hp _
def Z3 (p:Nat) (w:World):Prop:=p<w.heap.size∧(∃x,w.cell? ⟨p,0,none⟩=some x)∧(∃x,w.cell? ⟨p,1,none⟩=some x)∧(∃x,w.cell? ⟨p,2,none⟩=some x)∧w.frozen? ⟨p,0,none⟩=false∧w.frozen? ⟨p,1,none⟩=false∧w.frozen? ⟨p,2,none⟩=false
theorem Z3.below {p:Nat} {w w':World} (h:Z3 p w) (hb:Below w.heap.size w w'):Z3 p w':=by
 obtain ⟨hl,⟨x0,h0⟩,⟨x1,h1⟩,⟨x2,h2⟩,z0,z1,z2⟩:=h
 have c:=fun o=>hb.cell (p:=⟨p,o,none⟩) hl
 have z:=fun o=>hb.frozen (p:=⟨p,o,none⟩) hl
 exact ⟨by have:=hb.size;omega,⟨x0,(c 0).trans h0⟩,⟨x1,(c 1).trans h1⟩,⟨x2,(c 2).trans h2⟩,(z 0).trans z0,(z 1).trans z1,(z 2).trans z2⟩
theorem Z3.new (w:World) (T:TypeId):Z3 w.heap.size (w.alloc (Obj.cells #[.int .i64 0,.int .i64 0,.int .i64 0] T)) :=
 ⟨by simp,⟨_,by simp [go_sem];rfl⟩,⟨_,by simp [go_sem];rfl⟩,⟨_,by simp [go_sem];rfl⟩,by simp [go_sem],by simp [go_sem],by simp [go_sem]⟩
end CatR
namespace FixR
theorem ill_any (code:Int) (w:World):Calls Tryz.prog 148 #[.int .i64 code] w fun e w'=>e=.returned (out 0 code)∧Below w.heap.size w w':=by
 go_enter Tryz.func148,Tryz.ntmps148
 go_wp2
 refine bodyPost_ret (v:=out 0 code) (by simp [out,results,Tryz.results148,go_sem]) rfl ⟨rfl,?_⟩
 repeat' first|exact Below.refl _ _|apply Below.setCell|apply Below.alloc
 all_goals first|omega|(simp;done)|(simp;omega)
theorem outS_in (v:Int) (hv:In v) (w:World):Calls Tryz.prog 107 #[.int .i64 v] w fun e w'=>e=.returned (out v 0)∧Below w.heap.size w w':=by
 obtain ⟨h1,h2⟩:=hv
 go_enter Tryz.func107,Tryz.ntmps107
 go_wp2
 refine bodyPost_ret (v:=out v 0) (by simp [out,results,Tryz.results107,go_sem]) rfl ⟨rfl,?_⟩
 repeat' first|exact Below.refl _ _|apply Below.setCell|apply Below.alloc
 all_goals first|omega|(simp;done)|(simp;omega)
theorem outS_over (v:Int) (hv:¬In v) (w:World):Calls Tryz.prog 107 #[.int .i64 v] w fun e w'=>e=.returned (out 0 12)∧Below w.heap.size w w':=by
 have key:(¬-1000000000000000≤v)∨(-1000000000000000≤v∧¬v≤1000000000000000):=by unfold In at hv;omega
 clear hv
 rcases key with h1|⟨h1,h2⟩
 all_goals
  go_enter Tryz.func107,Tryz.ntmps107
  go_wp2_with (first|(go_at_call 95;go_in)|(go_at_call 142;go_in)|(go_at_call 148;refine (ill_any _ _).mono ?_;rintro e w2 ⟨rfl,hb⟩;unfold out;obtain ⟨hc,hz⟩:=bcell hb))
  refine bodyPost_ret (v:=out 0 12) (by simp [out,results,Tryz.results107,go_sem,hc]) rfl ⟨rfl,?_⟩
  exact (((bel_alloc hb).setCell (by simp) _).setCell (by simp) _).setCell (by simp) _
end FixR
end Go.Proofs.YtmalfhhkjdkadaaGreatDoor
