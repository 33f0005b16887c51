/-
  The program's looks at windows that are to be billed: all right; two of one meter. The conditions: sizes of at most 1048576; the program's table holds what its text lays.
  What an account is billed, in numbers: its windows in the order of their meters, each rated. No condition.
  The program's charges of windows that stand by their meters. The conditions: sizes of at most 1048576; the program's variables hold what its text lays.
  The program's charges, rated. The conditions: sizes of at most 1048576; the program's variables hold what its text lays.
-/
import Derived.Deep.RegionHeld3
import Derived.Test.YtmalfhhkjdkadaaGreatDoorN28
namespace Go.Proofs.YtmalfhhkjdkadaaGreatDoor
open Go.ChangeShapes Go.WideShapes Go.ChangeAt Go.RowKit
set_option linter.unusedVariables false
namespace BilR
open LtR WinR
open RowG (Rws getD_mem)
open CatR (Blk Blk.new)
def wsB (ws:List Wd):Bool:=decide (ws.length≤20)&&ws.all wB
theorem wsB_no {ws:List Wd} {k:Nat} (hk:k<ws.length) (h:wB (ws.getD k Wd.zero)=false):wsB ws=false:=by
 have hm:=getD_mem (z:=Wd.zero) ws k hk
 cases hw:wsB ws
 ·rfl
 ·unfold wsB at hw
  simp only [Bool.and_eq_true] at hw
  have:=List.all_eq_true.1 hw.2 _ hm
  rw [h] at this;cases this
theorem wsB_yes {ws:List Wd} (h1:ws.length≤20) (h:∀i,i<ws.length→wB (ws.getD i Wd.zero)=true):wsB ws=true:=by
 unfold wsB
 rw [decide_eq_true h1,Bool.true_and,List.all_eq_true]
 intro x hx
 obtain ⟨i,hi,rfl⟩:=List.getElem_of_mem hx
 have:=h i hi
 simpa [List.getD,hi] using this
set_option maxRecDepth 100000 in
set_option maxHeartbeats 4000000 in
theorem iwins_in (ao:Option Addr) (cap:Nat) (ws:List Wd) (w:World) (hlen:ws.length≤1048576) (hI:Wns ao ws w)
 (hw:∀k,k<ws.length→∀ta tc ha hc W,Below w.heap.size w W→Tgs ta (ws.getD k Wd.zero).ts W→Hrs ha (ws.getD k Wd.zero).hs W→Calls Tryz.prog 123 #[.agg (wcells (ws.getD k Wd.zero) ta tc ha hc)] W fun e w'=>e=.returned (.bool (wB (ws.getD k Wd.zero)))∧Below W.heap.size W w') :
 Calls Tryz.prog 127 #[.slice ao ws.length cap] w fun e w'=>e=.returned (.bool (wsB ws))∧Below w.heap.size w w':=by
 have HI:=hid_intro hI
 have HWR:=hid_intro hw
 have HF:Hid (∀k,k<ws.length→wB (ws.getD k Wd.zero)=false→wsB ws=false):=hid_intro (fun k hk h=>wsB_no hk h)
 have HG:Hid (20<ws.length→wsB ws=false):=hid_intro (fun h=>by unfold wsB;rw [decide_eq_false (by omega)];rfl)
 have HY:Hid (ws.length≤20→(∀i,i<ws.length→wB (ws.getD i Wd.zero)=true)→wsB ws=true):=hid_intro (fun h h2=>wsB_yes h h2)
 generalize wsB ws=R at *
 obtain ⟨len,hl⟩:∃len,len=ws.length:=⟨_,rfl⟩
 have HL:=hid_intro hl
 rw [←hl] at hlen HF HG HY ⊢
 clear hI hw hl
 by_cases h16:20<len
 ·have h2:(20:Int)<(len:Int):=by omega
  have HR:=hid_intro (HG.out h16)
  go_enter Tryz.func127,Tryz.ntmps127
  go_wp2_with fail
  go_ret
  exact ⟨ret_bool HR.out.symm,Below.refl _ _⟩
 have h2:¬(20:Int)<(len:Int):=by omega
 go_enter Tryz.func127,Tryz.ntmps127
 go_wp2_with fail
 go_loopw [10] (fun z wr=>∃k:Nat,k≤len∧z=.int .i64 k∧Hid (∀i,i<k→wB (ws.getD i Wd.zero)=true)∧Hid (Below w.heap.size w wr)) (fun z _=>len-(intOf z).toNat)
 case atStart=>exact ⟨0,by omega,rfl,hid_intro (fun i hi=>absurd hi (by omega)),hid_intro (Below.refl _ _)⟩
 case round =>
  obtain ⟨k,hk,rfl,HK,HB⟩:=hrel
  by_cases hlt:k<len
  ·have hlt2:(k:Int)<(len:Int):=by omega
   obtain ⟨b,off,ta,tc,ha,hc,rfl,hbl,c0,c1,c2,c3,c4,c5,c6,c7,hT,hH⟩:=(HI.out.below HB.out).at k (by have:=HL.out;omega)
   have hlk:k<ws.length:=by have:=HL.out;omega
   have HWK:=hid_intro (HWR.out k hlk ta tc ha hc)
   have HFK:=hid_intro (HF.out k hlt)
   have HMK:Hid (wB (ws.getD k Wd.zero)=true→∀i,i<k+1→wB (ws.getD i Wd.zero)=true):=hid_intro (fun h i hi=>by
    by_cases e:i=k
    ·subst e;exact h
    ·exact HK.out i (by omega))
   obtain ⟨X,hX⟩:∃z,z=ws.getD k Wd.zero:=⟨_,rfl⟩
   rw [←hX] at c0 c1 c2 c3 c4 c5 c6 c7 hT hH HWK HFK HMK
   generalize hqw:wB X=bw at *
   clear hqw hX
   obtain ⟨xa,xm,xo,xe,xs,xx,xt,xh⟩:=X
   dsimp only [wcells] at c0 c1 c2 c3 c4 c5 c6 c7 hT hH HWK
   obtain ⟨W1,hW1⟩:∃z,z=wr.alloc (.cells #[.string xa,.string xm,.int .i64 xo,.int .i64 xe,.int .i64 xs,.int .i64 xx,.slice ta xt.length tc,.slice ha xh.length hc] 107):=⟨_,rfl⟩
   have hal:Below wr.heap.size wr W1:=by rw [hW1];exact (Below.refl _ _).alloc (Nat.le_refl _) _
   have HB1:=hid_intro (HB.out.trans (hal.mono HB.out.size))
   have HW1:=hid_intro hW1
   have HWK1:=hid_intro (HWK.out W1 HB1.out (hT.below hal) (hH.below hal))
   clear hT hH hal hW1 HWK HWR
   generalize xt.length=tl at *
   generalize xh.length=hl at *
   go_wp2_with fail
   rw [←HW1.out]
   clear HW1 c0 c1 c2 c3 c4 c5 c6 c7
   refine HWK1.out.mono ?_
   rintro e w2 ⟨rfl,hb⟩
   have HB2:=hid_intro (HB1.out.trans (hb.mono HB1.out.size))
   clear hb HB1 HWK1
   cases bw
   ·have HR:=hid_intro (HFK.out rfl)
    go_wp2_with fail
    go_ret
    exact ⟨ret_bool HR.out.symm,HB2.out⟩
   have HK2:=hid_intro (HMK.out rfl)
   go_wp2_with fail
   go_roundw
   case rel=>exact ⟨k+1,by omega,by go_num,HK2,HB2⟩
   case measure=>simp [intOf];omega
  ·have hlt2:¬(k:Int)<(len:Int):=by omega
   obtain rfl:k=len:=by omega
   have HR:=hid_intro (HY.out (by omega) HK.out)
   go_wp2_with fail
   go_ret
   exact ⟨ret_bool HR.out.symm,HB.out⟩
theorem ris_of {rs:List WP} (hs:rs.Pairwise (fun x y=>lt y.d.m x.d.m=false)) (ha:∀i,1≤i→i<rs.length→(rs.getD i WP.zero).d.m≠(rs.getD (i-1) WP.zero).d.m):Ris (fun p:WP=>p.d.m) rs:=by
 have adj:∀i (h:i+1<rs.length),lt (rs[i]'(by omega)).d.m rs[i+1].d.m=true:=by
  intro i h
  have h1:=List.pairwise_iff_getElem.1 hs i (i+1) (by omega) h (by omega)
  have h2:=ha (i+1) (by omega) h
  simp only [Nat.add_sub_cancel] at h2
  rw [show rs.getD (i+1) WP.zero=rs[i+1] by simp [List.getD,h],show rs.getD i WP.zero=rs[i]'(by omega) by simp [List.getD,show i<rs.length by omega]] at h2
  cases h3:lt (rs[i]'(by omega)).d.m rs[i+1].d.m
  ·exact absurd (lt_total h1 h3) h2
  ·rfl
 refine List.pairwise_iff_getElem.2 (fun i j hi hj hij=>?_)
 obtain ⟨d,rfl⟩:∃d,j=i+1+d:=⟨j-i-1,by omega⟩
 clear hij
 induction d with
 | zero=>exact adj i hj
 | succ d ih=>exact lt_trans (ih (by omega)) (adj (i+1+d) hj)
theorem not_ris {rs:List WP} {i:Nat} (h1:1≤i) (hi:i<rs.length) (h:(rs.getD i WP.zero).d.m=(rs.getD (i-1) WP.zero).d.m):¬(rs.map (fun p:WP=>p.d.m)).Nodup:=by
 intro hn
 have h2:=List.pairwise_iff_getElem.1 hn (i-1) i (by simp;omega) (by simpa using hi) (by omega)
 rw [show rs.getD i WP.zero=rs[i] by simp [List.getD,hi],show rs.getD (i-1) WP.zero=rs[i-1]'(by omega) by simp [List.getD,show i-1<rs.length by omega]] at h
 exact h2 (by simp [h])
theorem bdrewN {B:Nat} {a w:World} (h:Below B a w) (n:Nat):Below B a (w.drewN n):=⟨h.os,h.tape,h.output,h.size,h.block⟩
def TwR (rs:List WP) (e:Ending):Prop:=∃r,e=.returned (.bool r)∧(r=true→¬(rs.map (fun p:WP=>p.d.m)).Nodup)∧(r=false→Ris (fun p:WP=>p.d.m) rs)
set_option maxRecDepth 100000 in
set_option maxHeartbeats 4000000 in
theorem twice_one (ao:Option Addr) (cap:Nat) (rs:List WP) (w:World) (hlen:rs.length≤1048576) (hs:rs.Pairwise (fun x y=>lt y.d.m x.d.m=false)) (hI:Rws 8 WP.cells WP.zero ao rs w) :
 Calls Tryz.prog 174 #[.slice ao rs.length cap] w fun e w'=>TwR rs e∧Below w.heap.size w w':=by
 have HI:=hid_intro hI
 have HN:Hid (∀i,1≤i→i<rs.length→(rs.getD i WP.zero).d.m=(rs.getD (i-1) WP.zero).d.m→¬(rs.map (fun p:WP=>p.d.m)).Nodup):=hid_intro (fun i h1 h2 h3=>not_ris h1 h2 h3)
 have HY:Hid ((∀i,1≤i→i<rs.length→(rs.getD i WP.zero).d.m≠(rs.getD (i-1) WP.zero).d.m)→Ris (fun p:WP=>p.d.m) rs):=hid_intro (fun h=>ris_of hs h)
 obtain ⟨len,hl⟩:∃len,len=rs.length:=⟨_,rfl⟩
 have HL:=hid_intro hl
 rw [←hl] at hlen HN HY ⊢
 clear hI hs hl
 go_enter Tryz.func174,Tryz.ntmps174
 go_wp2_with fail
 go_loopw [3] (fun z wr=>∃k:Nat,1≤k∧(k≤len∨k=1)∧z=.int .i64 k∧Hid (∀i,1≤i→i<k→(rs.getD i WP.zero).d.m≠(rs.getD (i-1) WP.zero).d.m)∧Hid (Below w.heap.size w wr)) (fun z _=>len-(intOf z).toNat)
 case atStart=>exact ⟨1,by omega,by omega,rfl,hid_intro (fun i h1 hi=>absurd hi (by omega)),hid_intro (Below.refl _ _)⟩
 case round =>
  obtain ⟨k,hk1,hk,rfl,HK,HB⟩:=hrel
  by_cases hlt:k<len
  ·have hlt2:(k:Int)<(len:Int):=by omega
   have HW:=hid_intro (HI.out.below HB.out)
   obtain ⟨b,off,e0,hbl,hc⟩:∃b off,ao=some ⟨b,off,none⟩∧b<wr.heap.size∧∀j,j<rs.length→∀i,i<8→wr.cell? ⟨b,off+j*8+i,none⟩=(rs.getD j WP.zero).cells[i]?:=by
    rcases HW.out with h0|⟨b,off,e,hl,hc⟩
    ·have:=HL.out;omega
    ·exact ⟨b,off,e,hl,hc⟩
   subst e0
   have c1:=hc k (by have:=HL.out;omega) 1 (by omega)
   have d1:=hc (k-1) (by have:=HL.out;omega) 1 (by omega)
   have HNK:=hid_intro (HN.out k hk1 hlt)
   have HMK:Hid ((rs.getD k WP.zero).d.m≠(rs.getD (k-1) WP.zero).d.m→∀i,1≤i→i<k+1→(rs.getD i WP.zero).d.m≠(rs.getD (i-1) WP.zero).d.m):=hid_intro (fun h i h1 hi=>by
    by_cases e:i=k
    ·subst e;exact h
    ·exact HK.out i h1 (by omega))
   generalize rs.getD k WP.zero=X at *
   generalize rs.getD (k-1) WP.zero=Y at *
   simp only [WP.cells,List.getElem?_cons_zero,List.getElem?_cons_succ] at c1 d1
   generalize X.d.m=xm at *
   generalize Y.d.m=ym at *
   obtain ⟨j,hj⟩:∃j,j=k-1:=⟨_,rfl⟩
   rw [←hj] at d1
   have hjl:(j:Int)<(len:Int):=by omega
   have hw1:IntKind.i64.wrap ((k:Int)-1)=(j:Int):=by rw [IntKind.wrap_i64];omega
   have HJ:=hid_intro hj
   clear hj
   clear hc HW
   cases hq:(xm.toList==ym.toList)
   ·have hne:xm≠ym:=fun e=>by subst e;simp at hq
    have HK2:=hid_intro (HMK.out hne)
    go_wp2_with fail
    go_quiet (fail)
    go_wp2_with fail
    go_roundw
    case rel=>exact ⟨k+1,by omega,by omega,by go_num,HK2,hid_intro (bdrewN HB.out _)⟩
    case measure=>simp [intOf];omega
   ·have he:xm=ym:=toList_inj (by simpa using hq)
    have HR:=hid_intro (HNK.out he)
    go_wp2_with fail
    go_quiet (fail)
    go_wp2_with fail
    go_ret
    exact ⟨⟨true,rfl,fun _=>HR.out,fun h=>by cases h⟩,bdrewN HB.out _⟩
  ·have hlt2:¬(k:Int)<(len:Int):=by omega
   have HR:=hid_intro (HY.out (fun i h1 hi=>HK.out i h1 (by omega)))
   go_wp2_with fail
   go_ret
   exact ⟨⟨false,rfl,fun h=>(by cases h),fun _=>HR.out⟩,HB.out⟩
end BilR
namespace BilR
open LtR WinR LinR
open RowG (getD_mem)
open CatR (Me Ca Cr mFd mN MsRight CsRight MRight rO rt rt_bd caB crF cA cM name_cases)
theorem pk_in {B:Int}:∀(hs:List H) (p:Int),(∀x∈hs,0≤x.s∧x.s≤B)→0≤p→p≤B→0≤hs.foldl (fun p x=>grt p x.s) p∧hs.foldl (fun p x=>grt p x.s) p≤B
 | [],p,_,h1,h2=>⟨h1,h2⟩
 | x::hs,p,h,h1,h2=>by
  have hx:=h x (List.mem_cons_self ..)
  rw [List.foldl_cons]
  refine pk_in hs _ (fun y hy=>h y (List.mem_cons_of_mem _ hy)) ?_ ?_<;>(unfold grt;split<;>omega)
theorem wB_name {x:Wd} (h:wB x=true):NameR.nameB x.m=true:=by
 unfold wB namedB at h
 simp only [Bool.and_eq_true] at h
 exact h.1.2.1
theorem valV_in {x:Wd} (h:wB x=true) (g:Int):0≤valV x g∧valV x g≤1000000000000:=by
 unfold wB at h
 simp only [Bool.and_eq_true] at h
 obtain ⟨_,hc,ht,hh⟩:=h
 obtain ⟨_,hs,hm⟩:=counted_su hc
 unfold tagsB at ht
 simp only [Bool.and_eq_true,decide_eq_true_eq] at ht
 have ht:=ht.1
 unfold timedB hoursB at hh
 simp only [Bool.and_eq_true] at hh
 have hk:0≤pk x.hs∧pk x.hs≤x.su:=pk_in x.hs 0 (fun y hy=>by
  have:=List.all_eq_true.1 hh.2.2.1 y hy
  unfold hOk at this
  simp only [Bool.and_eq_true,decide_eq_true_eq] at this
  exact this.2) (by omega) hs.1
 unfold valV
 split
 ·exact hs
 ·split
  ·omega
  ·split
   ·omega
   ·split<;>omega
def hasM (ms:List Me) (t:ByteArray):Bool:=ms.any (fun m=>m.n.toList==t.toList)
theorem hasM_iff {ms:List Me} {t:ByteArray}:hasM ms t=true↔∃k,k<ms.length∧CatR.mN ms k=t:=by
 unfold hasM
 rw [List.any_eq_true]
 constructor
 ·rintro ⟨m,hm,h⟩
  obtain ⟨k,hk,rfl⟩:=List.getElem_of_mem hm
  refine ⟨k,hk,?_⟩
  unfold CatR.mN
  rw [show ms.getD k CatR.Me.zero=ms[k] by simp [List.getD,hk]]
  exact toList_inj (by simpa using h)
 ·rintro ⟨k,hk,h⟩
  refine ⟨ms.getD k CatR.Me.zero,getD_mem (z:=CatR.Me.zero) ms k hk,?_⟩
  unfold CatR.mN at h
  rw [h];simp
theorem has_found {ms:List Me} {t:ByteArray} (hR:MsRight ms) (h:hasM ms t=true):MRight (mFd t ms)∧(mFd t ms).n=t:=by
 rcases name_cases ms hR t with ⟨k,hk,h1,h2⟩|⟨h1,_⟩
 ·rw [h2]
  exact ⟨(hR.2 k hk).1,h1⟩
 ·obtain ⟨k,hk,h2⟩:=hasM_iff.1 h
  exact absurd h2 (h1 k hk)
theorem has_none {ms:List Me} {t:ByteArray} (hR:MsRight ms) (h:hasM ms t=false):mFd t ms=CatR.Me.zero:=by
 rcases name_cases ms hR t with ⟨k,hk,h1,h2⟩|⟨_,h2⟩
 ·rw [hasM_iff.2 ⟨k,hk,h1⟩] at h;cases h
 ·exact h2
def useV (ms:List Me) (x:Wd):Int:=valV x (mFd x.m ms).g
def rC (ms:List Me) (x:Wd):Int:=(rO (mFd x.m ms) (useV ms x)).2
def rN (ms:List Me) (x:Wd):N:=⟨(mFd x.m ms).n,(rO (mFd x.m ms) (useV ms x)).1⟩
def ratC (ms:List Me):List Wd→Int
 | []=>0
 | x::l=>if rC ms x=0 then ratC ms l else rC ms x
theorem ratC_hit {ms:List Me}:∀{l:List Wd} {k:Nat},k<l.length→(∀i,i<k→rC ms (l.getD i Wd.zero)=0)→rC ms (l.getD k Wd.zero)≠0→ratC ms l=rC ms (l.getD k Wd.zero)
 | [],_,h,_,_=>absurd h (by simp)
 | x::l,0,_,_,h=>by
  have h':rC ms x≠0:=h
  unfold ratC
  rw [if_neg h'];rfl
 | x::l,k+1,hk,h0,h=>by
  have hx:rC ms x=0:=h0 0 (by omega)
  unfold ratC
  rw [if_pos hx]
  exact ratC_hit (k:=k) (by simpa using hk) (fun i hi=>h0 (i+1) (by omega)) h
theorem ratC_none {ms:List Me}:∀{l:List Wd},(∀i,i<l.length→rC ms (l.getD i Wd.zero)=0)→ratC ms l=0
 | [],_=>rfl
 | x::l,h=>by
  have hx:rC ms x=0:=h 0 (by simp)
  unfold ratC
  rw [if_pos hx]
  exact ratC_none (fun i hi=>h (i+1) (by simpa using hi))
theorem rO_cases {m:Me} {u:Int} (h:MRight m) (hu:0≤u∧u≤1000000000000):((rO m u).2=0∧0≤(rO m u).1∧(rO m u).1≤1000000000000000)∨rO m u=(0,12):=by
 have h1:=(rt_bd h hu).1
 unfold rO
 split
 ·rename_i q
  exact .inl ⟨rfl,h1,q⟩
 ·exact .inr rfl
def nodB:List ByteArray→Bool
 | []=>true
 | x::l=>!(l.any (fun y=>y.toList==x.toList))&&nodB l
theorem nodB_iff:∀{l:List ByteArray},nodB l=true↔l.Nodup
 | []=>by simp [nodB]
 | x::l=>by
  unfold nodB
  rw [Bool.and_eq_true,nodB_iff (l:=l),List.nodup_cons]
  refine and_congr_left (fun _=>?_)
  rw [Bool.not_eq_true',List.any_eq_false]
  constructor
  ·intro h hx
   exact h x hx (by simp)
  ·intro h y hy e
   exact h (by rw [←toList_inj (by simpa using e:y.toList=x.toList)];exact hy)
def ownW (a:ByteArray) (x:Wd):Bool:=x.a.toList==a.toList
def billR (c:Ca) (a:ByteArray) (ws:List Wd):List N × Int :=
 let own:=ws.filter (ownW a)
 if own.all (fun x=>hasM c.ms x.m)=false then ([],6)
 else if nodB (own.map Wd.m)=false then ([],10)
 else if ratC c.ms (srt Wd.m own)≠0 then ([],ratC c.ms (srt Wd.m own))
 else (drawL (crF a c.cs) (((srt Wd.m own).map (rN c.ms)).filter nz),0)
def billB (c:Ca) (a:ByteArray) (ws:List Wd):List N × Int :=
 if 8000<a.size∨400<ws.length then ([],2)
 else if (caB c&&NameR.nameB a&&wsB ws)=true then billR c a ws else ([],1)
theorem sub_len:∀{a b:List ByteArray},a.Nodup→(∀x∈a,x∈b)→a.length≤b.length
 | [],b,_,_=>Nat.zero_le _
 | x::a,b,h,hs=>by
  obtain ⟨h1,h2⟩:=List.nodup_cons.1 h
  obtain ⟨s,t,rfl⟩:=List.append_of_mem (hs x (List.mem_cons_self ..))
  have:=sub_len (a:=a) (b:=s++t) h2 (fun y hy=>by
   have hy':=hs y (List.mem_cons_of_mem _ hy)
   simp only [List.mem_append,List.mem_cons] at hy' ⊢
   rcases hy' with q|q|q
   ·exact .inl q
   ·subst q;exact absurd hy h1
   ·exact .inr q)
  simp only [List.length_append,List.length_cons] at this ⊢
  omega
theorem sok_of {es:List N} (hp:es.Pairwise (fun x y=>lt x.i y.i=true)) (ho:∀e∈es,lOk e=true):SOk es es.length:=by
 intro i hi
 have hm:=getD_mem (z:=N.zero) es i hi
 refine ⟨?_,ho _ hm⟩
 cases i with
 | zero =>
  have h1:=ho _ hm
  unfold lOk at h1
  simp only [Bool.and_eq_true] at h1
  exact lt_empty (CatR.name_le h1.1).1
 | succ i =>
  have h1:=List.pairwise_iff_getElem.1 hp i (i+1) (by omega) hi (by omega)
  show lt (es.getD i N.zero).i (es.getD (i+1) N.zero).i=true
  rw [show es.getD (i+1) N.zero=es[i+1] by simp [List.getD,hi],show es.getD i N.zero=es[i]'(by omega) by simp [List.getD,show i<es.length by omega]]
  exact h1
theorem cr_in {cs:List Cr} (h:CsRight cs) (t:ByteArray):0≤crF t cs∧crF t cs≤1000000000000:=by
 by_cases q:∃k,k<cs.length∧cA cs k=t∧∀i,i<k→cA cs i≠t
 ·obtain ⟨k,hk,he,hi⟩:=q
  rw [CatR.crF_hit t cs k hk hi he]
  exact (h.2 k hk).1.2
 ·have hn:∀n,n≤cs.length→∀i,i<n→cA cs i≠t:=by
   intro n
   induction n with
   | zero=>exact fun _ i hi=>absurd hi (by omega)
   | succ n ih =>
    intro hn i hi e
    have ih':=ih (by omega)
    by_cases e2:i=n
    ·subst e2;exact q ⟨i,hn,e,ih'⟩
    ·exact ih' i (by omega) e
  rw [CatR.crF_none t cs (hn cs.length (Nat.le_refl _))]
  omega
theorem lines_right {ms:List Me} {S:List Wd} (hR:MsRight ms) (hS:Ris Wd.m S) (hh:∀x∈S,hasM ms x.m=true) (hw:∀x∈S,wB x=true) (h0:∀x∈S,rC ms x=0):SRight ((S.map (rN ms)).filter nz):=by
 have hn:∀x∈S,(rN ms x).i=x.m:=fun x hx=>(has_found hR (hh x hx)).2
 have hp:((S.map (rN ms)).filter nz).Pairwise (fun x y=>lt x.i y.i=true):=by
  refine List.Pairwise.filter _ ?_
  rw [List.pairwise_map]
  exact hS.imp_of_mem (fun {x y} hx hy h=>by rw [hn x hx,hn y hy];exact h)
 refine ⟨?_,sok_of hp (fun e he=>?_)⟩
 ·have h1:=List.length_filter_le nz (S.map (rN ms))
  rw [List.length_map] at h1
  have h2:=sub_len (ris_nodup hS) (b:=ms.map (fun m=>m.n)) (fun t ht=>by
   obtain ⟨x,hx,rfl⟩:=List.mem_map.1 ht
   obtain ⟨k,hk,e⟩:=hasM_iff.1 (hh x hx)
   rw [←e]
   exact List.mem_map.2 ⟨ms.getD k CatR.Me.zero,getD_mem (z:=CatR.Me.zero) ms k hk,rfl⟩)
  simp only [List.length_map] at h2
  have:=hR.1
  omega
 ·obtain ⟨h1,h2⟩:=List.mem_filter.1 he
  obtain ⟨x,hx,rfl⟩:=List.mem_map.1 h1
  obtain ⟨f1,f2⟩:=has_found hR (hh x hx)
  have hz:rC ms x=0:=h0 x hx
  have hb:0≤(rN ms x).n∧(rN ms x).n≤1000000000000000:=by
   rcases rO_cases f1 (valV_in (hw x hx) (mFd x.m ms).g) with ⟨_,q⟩|q
   ·exact q
   ·unfold rC useV at hz
    rw [q] at hz;cases hz
  unfold nz at h2
  simp only [decide_eq_true_eq] at h2
  unfold lOk nOk
  rw [hn x hx,wB_name (hw x hx),decide_eq_true (by omega),decide_eq_true h2];rfl
end BilR
namespace BilR
open LtR WinR
open RowG (Rws cellsAll cellsAll_app own_below getD_mem)
open CatR (Blk Blk.new Me Ca mFd MsRight IsMe IsCa caB ResM mO)
structure CG where
 i:ByteArray
 u:Int
 mv:Value
def CG.zero:CG:=⟨⟨#[]⟩,0,.agg #[]⟩
def CG.cells (x:CG):List Value:=[.string x.i,.int .i64 x.u,.func (.func 173) #[x.mv] #[]]
theorem CG.len (x:CG):x.cells.length=3:=rfl
theorem CG.one (x:CG):∀v∈x.cells,v.oneCell'=true:=by
 intro v hv
 simp only [CG.cells,List.mem_cons,List.not_mem_nil,or_false] at hv
 rcases hv with rfl|rfl|rfl<;>rfl
def MeI (mv:Value) (m:Me) (W:World):Prop:=IsMe mv m W∧∃n g wh f l b tl tc z,mv=.agg #[.string n,.int .i64 g,.bool wh,.int .i64 f,.int .i64 l,.slice (some ⟨b,0,none⟩) tl tc]∧b<W.heap.size∧W.cell? ⟨b,0,none⟩=some (.int .i64 z)
theorem MeI.below {mv:Value} {m:Me} {W W':World} (h:MeI mv m W) (hb:Below W.heap.size W W'):MeI mv m W':=by
 obtain ⟨h1,n,g,wh,f,l,b,tl,tc,z,e,hl,hc⟩:=h
 exact ⟨h1.below hb,n,g,wh,f,l,b,tl,tc,z,e,Nat.lt_of_lt_of_le hl hb.size,(hb.cell (p:=⟨b,0,none⟩) hl).trans hc⟩
theorem MeI.grown {mv:Value} {m:Me} {W W':World} {v:Value} (h:MeI mv m W) (hg:W.grownBy W' v.ownBlock) (hs:∀b,v.ownBlock=some b→∃s,W.cell? ⟨b,0,none⟩=some (.string s)):MeI mv m W':=by
 obtain ⟨h1,n,g,wh,f,l,b,tl,tc,z,e,hl,hc⟩:=h
 have hne:some b≠v.ownBlock:=fun q=>by
  obtain ⟨s,hs⟩:=hs b q.symm
  rw [hc] at hs;cases hs
 have eb:=hg.block b hl hne
 have f':=fun o=>World.cell?_of_block (a:=⟨b,o,none⟩) eb
 refine ⟨?_,n,g,wh,f,l,b,tl,tc,z,e,Nat.lt_of_lt_of_le hl hg.size,(f' 0).trans hc⟩
 obtain ⟨ta,tc',e1,hT⟩:=h1
 have e2:=e1.symm.trans e
 simp only [Value.agg.injEq,Array.mk.injEq,List.cons.injEq,Value.slice.injEq,and_true] at e2
 obtain ⟨_,_,_,_,_,rfl,_,_⟩:=e2
 refine ⟨_,tc',e1,hT.1,hT.2.imp id ?_⟩
 rintro ⟨b2,off,e3,_,hc2⟩
 simp only [Option.some.injEq,Addr.mk.injEq,and_true] at e3
 obtain ⟨rfl,rfl⟩:=e3
 exact ⟨_,_,rfl,Nat.lt_of_lt_of_le hl hg.size,fun j hj=>⟨(f' _).trans (hc2 j hj).1,(f' _).trans (hc2 j hj).2⟩⟩
def GsOk (ms:List Me) (rs:List WP) (k:Nat) (gs:List CG) (W:World):Prop:=gs.length=k∧∀i,i<k→(gs.getD i CG.zero).i=(rs.getD i WP.zero).d.m∧(gs.getD i CG.zero).u=useV ms (rs.getD i WP.zero).d∧MeI (gs.getD i CG.zero).mv (mFd (rs.getD i WP.zero).d.m ms) W
theorem GsOk.below {ms:List Me} {rs:List WP} {k:Nat} {gs:List CG} {W W':World} (h:GsOk ms rs k gs W) (hb:Below W.heap.size W W'):GsOk ms rs k gs W':=⟨h.1,fun i hi=>⟨(h.2 i hi).1,(h.2 i hi).2.1,(h.2 i hi).2.2.below hb⟩⟩
theorem GsOk.grown {ms:List Me} {rs:List WP} {k:Nat} {gs:List CG} {W W':World} {v:Value} (h:GsOk ms rs k gs W) (hg:W.grownBy W' v.ownBlock) (hs:∀b,v.ownBlock=some b→∃s,W.cell? ⟨b,0,none⟩=some (.string s)):GsOk ms rs k gs W':=⟨h.1,fun i hi=>⟨(h.2 i hi).1,(h.2 i hi).2.1,(h.2 i hi).2.2.grown hg hs⟩⟩
theorem GsOk.more {ms:List Me} {rs:List WP} {k:Nat} {gs:List CG} {W:World} (h:GsOk ms rs k gs W) (x:CG) (h1:x.i=(rs.getD k WP.zero).d.m) (h2:x.u=useV ms (rs.getD k WP.zero).d) (h3:MeI x.mv (mFd (rs.getD k WP.zero).d.m ms) W):GsOk ms rs (k+1) (gs ++ [x]) W:=by
 refine ⟨by simp [h.1],fun i hi=>?_⟩
 by_cases e:i=k
 ·subst e
  have:(gs ++ [x]).getD i CG.zero=x:=by simp [List.getD,←h.1]
  rw [this]
  exact ⟨h1,h2,h3⟩
 ·have:(gs ++ [x]).getD i CG.zero=gs.getD i CG.zero:=by
   have hl:i<gs.length:=by have:=h.1;omega
   simp [List.getD,List.getElem?_append_left hl]
  rw [this]
  exact h.2 i (by omega)
theorem own_text {W:World} {base:Nat} {v:Value} {gs:List CG} (h:W.ownsRow base 255 3 v gs.length (cellsAll CG.cells gs)) (h0:gs.length=0→v=.slice none 0 0):∀b,v.ownBlock=some b→∃s,W.cell? ⟨b,0,none⟩=some (.string s):=by
 intro b hb
 by_cases q:gs.length=0
 ·rw [h0 q] at hb;cases hb
 ·obtain ⟨ao,cap,rfl,hm⟩:=RowG.own_made (z:=CG.zero) CG.len h
  rcases hm.own with q2|⟨g,rfl,_,_⟩
  ·exact absurd q2 q
  have:g=b:=by simpa [Value.ownBlock] using hb
  subst this
  rcases hm.rws with q2|⟨b2,off,e,hl,hc⟩
  ·exact absurd q2 q
  simp only [Option.some.injEq,Addr.mk.injEq,and_true] at e
  obtain ⟨rfl,rfl⟩:=e
  exact ⟨_,hc 0 (by omega) 0 (by omega)⟩
theorem infoCG:(Tryz.prog.info? 255).map (fun i=>(i.zero,i.size,i.bytes))=some (some (.agg #[.string ⟨#[]⟩,.int .i64 0,.nilFunc]),3,32):=by kernel_rfl
def BxC (w:World) (B1 B2:Nat) (a0 a1 a2 a3 a4 a5 a6 a7 b0 b1 b2 b3 b4 b5:Value) (W:World):Prop:=Below w.heap.size w W∧B1<W.heap.size∧B2<W.heap.size∧W.cell? ⟨B1,0,none⟩=some a0∧W.cell? ⟨B1,1,none⟩=some a1∧W.cell? ⟨B1,2,none⟩=some a2∧W.cell? ⟨B1,3,none⟩=some a3∧W.cell? ⟨B1,4,none⟩=some a4∧W.cell? ⟨B1,5,none⟩=some a5∧W.cell? ⟨B1,6,none⟩=some a6∧W.cell? ⟨B1,7,none⟩=some a7∧W.cell? ⟨B2,0,none⟩=some b0∧W.cell? ⟨B2,1,none⟩=some b1∧W.cell? ⟨B2,2,none⟩=some b2∧W.cell? ⟨B2,3,none⟩=some b3∧W.cell? ⟨B2,4,none⟩=some b4∧W.cell? ⟨B2,5,none⟩=some b5
theorem BxC.below {w:World} {B1 B2:Nat} {a0 a1 a2 a3 a4 a5 a6 a7 b0 b1 b2 b3 b4 b5:Value} {W W':World} (h:BxC w B1 B2 a0 a1 a2 a3 a4 a5 a6 a7 b0 b1 b2 b3 b4 b5 W) (hb:Below W.heap.size W W'):BxC w B1 B2 a0 a1 a2 a3 a4 a5 a6 a7 b0 b1 b2 b3 b4 b5 W':=by
 obtain ⟨h0,l1,l2,p0,p1,p2,p3,p4,p5,p6,p7,p8,p9,p10,p11,p12,p13⟩:=h
 have f:=fun o=>hb.cell (p:=⟨B1,o,none⟩) l1
 have g:=fun o=>hb.cell (p:=⟨B2,o,none⟩) l2
 have hs:=hb.size
 exact ⟨h0.trans (hb.mono h0.size),by omega,by omega,(f 0).trans p0,(f 1).trans p1,(f 2).trans p2,(f 3).trans p3,(f 4).trans p4,(f 5).trans p5,(f 6).trans p6,(f 7).trans p7,(g 0).trans p8,(g 1).trans p9,(g 2).trans p10,(g 3).trans p11,(g 4).trans p12,(g 5).trans p13⟩
theorem BxC.drew {w:World} {B1 B2:Nat} {a0 a1 a2 a3 a4 a5 a6 a7 b0 b1 b2 b3 b4 b5:Value} {W:World} (h:BxC w B1 B2 a0 a1 a2 a3 a4 a5 a6 a7 b0 b1 b2 b3 b4 b5 W):BxC w B1 B2 a0 a1 a2 a3 a4 a5 a6 a7 b0 b1 b2 b3 b4 b5 W.drew:=⟨h.1.drew,h.2⟩
theorem BxC.grown {w:World} {B1 B2:Nat} {a0 a1 a2 a3 a4 a5 a6 a7 b0 b1 b2 b3 b4 b5:Value} {W W':World} {v:Value} {wr:World} {base e size n:Nat} {xs:List Value} (h:BxC w B1 B2 a0 a1 a2 a3 a4 a5 a6 a7 b0 b1 b2 b3 b4 b5 W) (hg:W.grownBy W' v.ownBlock) (ho:wr.ownsRow base e size v n xs) (h1:v.ownBlock≠some B1) (h2:v.ownBlock≠some B2) (hbase:w.heap.size≤base):BxC w B1 B2 a0 a1 a2 a3 a4 a5 a6 a7 b0 b1 b2 b3 b4 b5 W':=by
 obtain ⟨h0,l1,l2,p0,p1,p2,p3,p4,p5,p6,p7,p8,p9,p10,p11,p12,p13⟩:=h
 have f:=fun o=>World.cell?_of_block (a:=⟨B1,o,none⟩) (hg.block B1 l1 (fun e=>h1 e.symm))
 have g:=fun o=>World.cell?_of_block (a:=⟨B2,o,none⟩) (hg.block B2 l2 (fun e=>h2 e.symm))
 have hs:=hg.size
 exact ⟨h0.grown hg h0.size (fun c e=>Nat.le_trans hbase (ho.lt c e).1),by omega,by omega,(f 0).trans p0,(f 1).trans p1,(f 2).trans p2,(f 3).trans p3,(f 4).trans p4,(f 5).trans p5,(f 6).trans p6,(f 7).trans p7,(g 0).trans p8,(g 1).trans p9,(g 2).trans p10,(g 3).trans p11,(g 4).trans p12,(g 5).trans p13⟩
theorem ne_empty {n:ByteArray} (h:1≤n.size):n.toList.isEmpty=false:=by
 cases hn:n.toList with
 | nil =>
  rw [ByteArray.toList_eq] at hn;have:n.data.toList.length=0:=by rw [hn];rfl
  have h2:n.data.toList.length=n.size:=rfl
  omega
 | cons x l=>rfl
theorem charge_cells (x:CG) (W:World):∀(j:Nat) u,(CG.cells x)[j]? = some u→(W.alloc (.cells #[.string x.i,.int .i64 x.u,.func (.func 173) #[x.mv] #[]] 255)).cell? ((⟨W.heap.size,0,none⟩:Addr).add j)=some u:=by
 intro j u hx
 have hB:=(Blk.new W (CG.cells x) 255).2 j (by have:=(List.getElem?_eq_some_iff.1 hx).1;exact this)
 rw [hx] at hB
 have e:((⟨W.heap.size,0,none⟩:Addr).add j)=⟨W.heap.size,j,none⟩:=by
  by_cases h:j=0
  ·subst h;simp [Addr.add]
  ·simp [Addr.add,h]
 rw [e]
 exact hB
def ChR (ms:List Me) (rs:List WP) (base:Nat) (e:Ending) (W:World):Prop :=
 (∃v,e=.returned (.tuple #[v,.int .i64 6])∧∃p∈rs,hasM ms p.d.m=false) ∨
 ((
  ∀p∈rs,hasM ms p.d.m=true)∧((∃v,e=.returned (.tuple #[v,.int .i64 10])∧¬(rs.map (fun p:WP=>p.d.m)).Nodup) ∨
  (∃v gs,e=.returned (.tuple #[v,.int .i64 0])∧Ris (fun p:WP=>p.d.m) rs∧W.ownsRow base 255 3 v gs.length (cellsAll CG.cells gs)∧GsOk ms rs rs.length gs W)))
set_option maxRecDepth 100000 in
set_option maxHeartbeats 8000000 in
theorem charges_in (ma:Option Addr) (ml mc:Nat) (ca:Option Addr) (cl cc:Nat) (ms:List Me) (bo:Option Addr) (cap:Nat) (rs:List WP) (w:World) (hlen:rs.length≤1048576)
 (hI:Rws 8 WP.cells WP.zero bo rs w) (hs:rs.Pairwise (fun x y=>lt y.d.m x.d.m=false))
 (hM:∀p∈rs,∀W,Below w.heap.size w W→Calls Tryz.prog 171 #[.agg #[.slice ma ml mc,.slice ca cl cc],.string p.d.m] W fun e w'=>(∃mv,e=.returned mv∧(∃n g wh f l ta tl tc,mv=.agg #[.string n,.int .i64 g,.bool wh,.int .i64 f,.int .i64 l,.slice ta tl tc]∧g=(mFd p.d.m ms).g∧(hasM ms p.d.m=true→n=p.d.m∧1≤n.size)∧(hasM ms p.d.m=false→n=⟨#[]⟩))∧(hasM ms p.d.m=true→MeI mv (mFd p.d.m ms) w'))∧Below W.heap.size W w')
 (hV:∀p∈rs,hasM ms p.d.m=true→∀W,Below w.heap.size w W→Calls Tryz.prog 172 #[.agg p.cells.toArray,.int .i64 (mFd p.d.m ms).g] W fun e w'=>e=.returned (.int .i64 (useV ms p.d))∧Below W.heap.size W w') :
 Calls Tryz.prog 128 #[.agg #[.slice ma ml mc,.slice ca cl cc],.slice bo rs.length cap] w fun e w'=>ChR ms rs w.heap.size e w'∧Below w.heap.size w w':=by
 obtain ⟨i0,hi,hz0,hz1,hz2⟩:=info_parts infoCG
 have hmf:∀(fn:Fn) (first cap:Array Value) (w:World),(Instr.makeFunc fn first cap).run Tryz.prog w=.ok (.func fn first cap) w:=fun _ _ _ _=>rfl
 have HI:=hid_intro hI
 have HM:=hid_intro hM
 have HV:=hid_intro hV
 have HTW:Hid (∀W,Below w.heap.size w W→Calls Tryz.prog 174 #[.slice bo rs.length cap] W fun e w'=>TwR rs e∧Below W.heap.size W w'):=hid_intro (fun W hW=>twice_one bo cap rs W hlen hs (hI.below hW))
 obtain ⟨len,hl⟩:∃len,len=rs.length:=⟨_,rfl⟩
 rw [←hl] at hlen HTW ⊢
 have HL:=hid_intro hl
 clear hI hs hM hV hl
 obtain ⟨W0,hW0⟩:∃z,z=w.alloc (.cells #[.slice ma ml mc,.slice ca cl cc] 40):=⟨_,rfl⟩
 have HB0:Hid (Below w.heap.size w W0):=hid_intro (by rw [hW0];exact (Below.refl _ _).alloc (Nat.le_refl _) _)
 have HA0:Hid (Blk w.heap.size [.slice ma ml mc,.slice ca cl cc] W0):=hid_intro (by rw [hW0];exact Blk.new w _ _)
 have HW:=hid_intro hW0
 have HS0:Hid (w.heap.size+1≤W0.heap.size):=hid_intro (by rw [hW0];simp)
 clear hW0
 go_enter Tryz.func128,Tryz.ntmps128
 go_wp2_with fail
 rw [←HW.out]
 clear HW
 go_loopw [6,12] (fun v z wr=>∃(k:Nat) (gs:List CG),k≤len∧z=.int .i64 k∧Hid (gs.length=0→v=.slice none 0 0)∧Hid (wr.ownsRow (w.heap.size+1) 255 3 v gs.length (cellsAll CG.cells gs))∧Hid (GsOk ms rs k gs wr)∧Hid (∀i,i<k→hasM ms (rs.getD i WP.zero).d.m=true)∧Hid (Blk w.heap.size [.slice ma ml mc,.slice ca cl cc] wr)∧Hid (Below w.heap.size w wr)) (fun v z _=>len-(intOf z).toNat)
 case atStart=>exact ⟨0,[],by omega,rfl,hid_intro (fun _=>rfl),hid_intro (World.ownsRow_nil _ _ _ _),hid_intro ⟨rfl,fun i h=>absurd h (by omega)⟩,hid_intro (fun i h=>absurd h (by omega)),HA0,HB0⟩
 case round =>
  clear HA0 HB0
  obtain ⟨k,gs,hk,rfl,HNIL,HO,HG,HH,HA,HB⟩:=hrel
  by_cases hlt:k<len
  ·have hlt2:(k:Int)<(len:Int):=by omega
   have hlk:k<rs.length:=by have:=HL.out;omega
   obtain ⟨b',off,e0,hbl,hc⟩:∃b off,bo=some ⟨b,off,none⟩∧b<wr.heap.size∧∀i,i<8→wr.cell? ⟨b,off+k*8+i,none⟩=(rs.getD k WP.zero).cells[i]?:=by
    rcases HI.out.below HB.out with h0|⟨b,off,e,hl,hc⟩
    ·omega
    ·exact ⟨b,off,e,hl,fun i hi=>hc k hlk i hi⟩
   subst e0
   have hmem:=getD_mem (z:=WP.zero) rs k hlk
   have HMK:=hid_intro (HM.out _ hmem)
   have HVK:=hid_intro (HV.out _ hmem)
   have HMORE:=hid_intro (fun (x:CG) (W:World) (h:GsOk ms rs k gs W) h1 h2 h3=>GsOk.more h x h1 h2 h3)
   have HHM:Hid (hasM ms (rs.getD k WP.zero).d.m=true→∀i,i<k+1→hasM ms (rs.getD i WP.zero).d.m=true):=hid_intro (fun h i hi=>by
    by_cases e:i=k
    ·subst e;exact h
    ·exact HH.out i (by omega))
   have HNO:Hid (hasM ms (rs.getD k WP.zero).d.m=false→∃p∈rs,hasM ms p.d.m=false):=hid_intro (fun h=>⟨_,hmem,h⟩)
   have HGL:Hid (gs.length=k):=hid_intro HG.out.1
   generalize rs.getD k WP.zero=X at *
   obtain ⟨⟨xa,xm,xo,xe,xs,xx,xt,xh⟩,ta,tc,ha,hc'⟩:=X
   have c0:=hc 0 (by omega)
   have c1:=hc 1 (by omega)
   have c2:=hc 2 (by omega)
   have c3:=hc 3 (by omega)
   have c4:=hc 4 (by omega)
   have c5:=hc 5 (by omega)
   have c6:=hc 6 (by omega)
   have c7:=hc 7 (by omega)
   simp only [WP.cells,List.getElem?_cons_zero,List.getElem?_cons_succ,Nat.add_zero] at c0 c1 c2 c3 c4 c5 c6 c7
   simp only [WP.cells] at HVK
   dsimp only at HMK HVK HMORE HHM HNO
   clear hc hmem
   generalize hu:useV ms ⟨xa,xm,xo,xe,xs,xx,xt,xh⟩=uv at *
   generalize mFd xm ms=MM at *
   generalize hasM ms xm=hb at *
   generalize xt.length=l1 at *
   generalize xh.length=l2 at *
   clear hu
   obtain ⟨W1,hW1⟩:∃z,z=wr.alloc (.cells #[.string xa,.string xm,.int .i64 xo,.int .i64 xe,.int .i64 xs,.int .i64 xx,.slice ta l1 tc,.slice ha l2 hc'] 107):=⟨_,rfl⟩
   have hal:Below wr.heap.size wr W1:=by rw [hW1];exact (Below.refl _ _).alloc (Nat.le_refl _) _
   have HX1:Hid (Blk wr.heap.size [.string xa,.string xm,.int .i64 xo,.int .i64 xe,.int .i64 xs,.int .i64 xx,.slice ta l1 tc,.slice ha l2 hc'] W1):=hid_intro (by rw [hW1];exact Blk.new wr _ _)
   have HLT:Hid (∀b,u6.ownBlock=some b→b<wr.heap.size):=hid_intro (fun b e=>(HO.out.lt b e).2)
   have HB1:=hid_intro (HB.out.trans (hal.mono HB.out.size))
   have HA1:=hid_intro (HA.out.below hal)
   have HO1:=hid_intro (own_below HO.out hal)
   have HG1:=hid_intro (HG.out.below hal)
   have HSB:Hid (w.heap.size+1≤wr.heap.size):=hid_intro (by have:=HA.out.1;omega)
   have HW1:=hid_intro hW1
   clear hal hW1 HO HG HA HB
   have a0:=HA1.out.2 0 (by simp)
   have a1:=HA1.out.2 1 (by simp)
   have aL:=HA1.out.1
   simp only [List.getElem?_cons_zero,List.getElem?_cons_succ] at a0 a1
   rw [HW1.out] at a0 a1 aL
   obtain ⟨B1,hB1⟩:∃z,z=wr.heap.size:=⟨_,rfl⟩
   have HBE:=hid_intro hB1
   rw [←hB1] at HX1
   clear hB1
   go_wp2_with fail
   rw [←HW1.out,←HBE.out]
   clear HW1 a0 a1 aL c0 c1 c2 c3 c4 c5 c6 c7
   refine (HMK.out W1 HB1.out).mono ?_
   rintro e w2 ⟨⟨mv,rfl,⟨n,g,wh,f,l,ta2,tl2,tc2,rfl,hg,hn1,hn2⟩,hme⟩,hb2⟩
   have HB2:=hid_intro (HB1.out.trans (hb2.mono HB1.out.size))
   have HX2S:Hid (wr.heap.size<w2.heap.size):=hid_intro (by have:=HX1.out.1;have:=hb2.size;have:=HBE.out;omega)
   have HX2:=hid_intro (HX1.out.below hb2)
   have HA2:=hid_intro (HA1.out.below hb2)
   have HO2:=hid_intro (own_below HO1.out hb2)
   have HG2:=hid_intro (HG1.out.below hb2)
   have HME:=hid_intro hme
   have HGE:=hid_intro hg
   clear hb2 hme hg HB1 HX1 HA1 HO1 HG1 HMK
   obtain ⟨W2,hW2⟩:∃z,z=w2.alloc (.cells #[.string n,.int .i64 g,.bool wh,.int .i64 f,.int .i64 l,.slice ta2 tl2 tc2] 119):=⟨_,rfl⟩
   have hal:Below w2.heap.size w2 W2:=by rw [hW2];exact (Below.refl _ _).alloc (Nat.le_refl _) _
   have HY3:Hid (Blk w2.heap.size [.string n,.int .i64 g,.bool wh,.int .i64 f,.int .i64 l,.slice ta2 tl2 tc2] W2):=hid_intro (by rw [hW2];exact Blk.new w2 _ _)
   have HB3:=hid_intro (HB2.out.trans (hal.mono HB2.out.size))
   have HX3:=hid_intro (HX2.out.below hal)
   have HA3:=hid_intro (HA2.out.below hal)
   have HO3:=hid_intro (own_below HO2.out hal)
   have HG3:=hid_intro (HG2.out.below hal)
   have HME3:=hid_intro (fun h=>(HME.out h).below hal)
   have HW2:=hid_intro hW2
   clear hal hW2 HB2 HX2 HA2 HO2 HG2 HME
   obtain ⟨B2,hB2⟩:∃z,z=w2.heap.size:=⟨_,rfl⟩
   have HBE2:=hid_intro hB2
   have HSZ2:Hid (wr.heap.size<w2.heap.size):=hid_intro (by have:=HX2S.out;omega)
   rw [←hB2] at HY3
   clear hB2
   cases hb
   ·obtain rfl:=hn2 rfl
    have HNN:=hid_intro (HNO.out rfl)
    go_wp2_with fail
    rw [←HW2.out]
    go_ret2
    exact ⟨.inl ⟨_,rfl,HNN.out⟩,HB3.out⟩
   obtain ⟨rfl,hn⟩:=hn1 rfl
   clear hn1 hn2
   have hne:=ne_empty hn
   have HX:=hid_intro (HVK.out rfl)
   have HHK:=hid_intro (HHM.out rfl)
   rw [←HGE.out] at HX
   have HS0:Hid (BxC w B1 B2 (.string xa) (.string n) (.int .i64 xo) (.int .i64 xe) (.int .i64 xs) (.int .i64 xx) (.slice ta l1 tc) (.slice ha l2 hc') (.string n) (.int .i64 g) (.bool wh) (.int .i64 f) (.int .i64 l) (.slice ta2 tl2 tc2) W2):=hid_intro ⟨HB3.out,HX3.out.1,HY3.out.1,HX3.out.2 0 (by simp),HX3.out.2 1 (by simp),HX3.out.2 2 (by simp),HX3.out.2 3 (by simp),HX3.out.2 4 (by simp),HX3.out.2 5 (by simp),HX3.out.2 6 (by simp),HX3.out.2 7 (by simp),HY3.out.2 0 (by simp),HY3.out.2 1 (by simp),HY3.out.2 2 (by simp),HY3.out.2 3 (by simp),HY3.out.2 4 (by simp),HY3.out.2 5 (by simp)⟩
   have HS1:=hid_intro HS0.out.drew
   have HOA:Hid (W2.drew.ownsRow (w.heap.size+1) 255 3 u6 gs.length (cellsAll CG.cells gs)):=hid_intro HO3.out
   have HGA:Hid (GsOk ms rs k gs W2.drew):=hid_intro (HG3.out.below ((Below.refl _ _).drew))
   have HMA:Hid (MeI (.agg #[.string n,.int .i64 g,.bool wh,.int .i64 f,.int .i64 l,.slice ta2 tl2 tc2]) MM W2.drew):=hid_intro ((HME3.out rfl).below ((Below.refl _ _).drew))
   have HAA:Hid (Blk w.heap.size [.slice ma ml mc,.slice ca cl cc] W2.drew):=hid_intro (HA3.out.below ((Below.refl _ _).drew))
   have HN1:Hid (u6.ownBlock≠some B1∧u6.ownBlock≠some B2):=hid_intro ⟨fun e=>by have:=HLT.out _ e;have:=HBE.out;omega,fun e=>by have:=HLT.out _ e;have:=HBE2.out;have:=HSZ2.out;omega⟩
   have sz1:gs.length+1≤maxLen:=by unfold maxLen;have:=HGL.out;omega
   have sz2:(gs.length+1)*32≤140737488355328:=by have:=HGL.out;omega
   have sz3:0<3:=by omega
   clear HX3 HY3 HO3 HG3 HME3 HA3 HVK HHM HNO
   go_wp2_with fail
   rw [←HW2.out,←HBE2.out]
   clear HW2
   go_region_held3 (fun W=>Below w.heap.size w W∧B1<W.heap.size∧B2<W.heap.size∧W.cell? ⟨B1,0,none⟩=some (.string xa)∧W.cell? ⟨B1,1,none⟩=some (.string n)∧W.cell? ⟨B1,2,none⟩=some (.int .i64 xo)∧W.cell? ⟨B1,3,none⟩=some (.int .i64 xe)∧W.cell? ⟨B1,4,none⟩=some (.int .i64 xs)∧W.cell? ⟨B1,5,none⟩=some (.int .i64 xx)∧W.cell? ⟨B1,6,none⟩=some (.slice ta l1 tc)∧W.cell? ⟨B1,7,none⟩=some (.slice ha l2 hc')∧W.cell? ⟨B2,0,none⟩=some (.string n)∧W.cell? ⟨B2,1,none⟩=some (.int .i64 g)∧W.cell? ⟨B2,2,none⟩=some (.bool wh)∧W.cell? ⟨B2,3,none⟩=some (.int .i64 f)∧W.cell? ⟨B2,4,none⟩=some (.int .i64 l)∧W.cell? ⟨B2,5,none⟩=some (.slice ta2 tl2 tc2))
    (first|assumption|(exact HS0.out)|(exact HS1.out)|(exact @BxC.below w B1 B2 _ _ _ _ _ _ _ _ _ _ _ _ _ _ _ _ (by assumption) hb3)|(exact @BxC.below w B1 B2 _ _ _ _ _ _ _ _ _ _ _ _ _ _ _ _ (by assumption) ((Below.refl _ _).alloc (Nat.le_refl _) _))|(exact @BxC.grown w B1 B2 _ _ _ _ _ _ _ _ _ _ _ _ _ _ _ _ _ _ _ _ _ _ _ (by assumption) hgrow HOA.out HN1.out.1 HN1.out.2 (by omega)))
    (first|(go_at_call 172;refine (HX.out _ (by first|exact (by assumption:BxC w B1 B2 _ _ _ _ _ _ _ _ _ _ _ _ _ _ _).1|exact HS1.out.1|exact HS0.out.1)).mono ?_;rintro e w3 ⟨rfl,hb3⟩;have HO4:=hid_intro (own_below HOA.out hb3);have HG4:=hid_intro (HGA.out.below hb3);have HM4:=hid_intro (HMA.out.below hb3);have HA4:=hid_intro (HAA.out.below hb3);have HS4:Hid (w.heap.size+1≤w3.heap.size):=hid_intro (by have:=HA4.out.1;omega))|(refine LinR.step_append_own rfl _ _ 192 rfl (w.heap.size+1) 255 i0 (.agg #[.string ⟨#[]⟩,.int .i64 0,.nilFunc]) 3 32 Tryz.underlying192 hi hz0 hz1 hz2 rfl sz3 _ _ _ rfl (HO4.out.alloc _) ⟨w3.heap.size,0,none⟩ 1 1 (CG.cells ⟨n,uv,.agg #[.string n,.int .i64 g,.bool wh,.int .i64 f,.int .i64 l,.slice ta2 tl2 tc2]⟩) rfl rfl (charge_cells ⟨n,uv,.agg #[.string n,.int .i64 g,.bool wh,.int .i64 f,.int .i64 l,.slice ta2 tl2 tc2]⟩ _) (CG.one _) sz1 sz2 (Nat.le_trans HS4.out (by simp)) ?_;intro v' w4 hown hgrow hne4))
   all_goals (
    rename_i hS
    have HB9:=hid_intro hS.1
    have HTX:=hid_intro (own_text (HO4.out.alloc (.cells #[.string n,.int .i64 uv,.func (.func 173) #[.agg #[.string n,.int .i64 g,.bool wh,.int .i64 f,.int .i64 l,.slice ta2 tl2 tc2]] #[]] 255)) HNIL.out)
    have hal4:Below w3.heap.size w3 (w3.alloc (.cells #[.string n,.int .i64 uv,.func (.func 173) #[.agg #[.string n,.int .i64 g,.bool wh,.int .i64 f,.int .i64 l,.slice ta2 tl2 tc2]] #[]] 255)):=(Below.refl _ _).alloc (Nat.le_refl _) _
    have HG9:=hid_intro (HMORE.out ⟨n,uv,.agg #[.string n,.int .i64 g,.bool wh,.int .i64 f,.int .i64 l,.slice ta2 tl2 tc2]⟩ w4 ((HG4.out.below hal4).grown hgrow HTX.out) rfl rfl ((HM4.out.below hal4).grown hgrow HTX.out))
    have HA9:Hid (Blk w.heap.size [.slice ma ml mc,.slice ca cl cc] w4):=hid_intro (by
     have h:=HA4.out.below hal4
     have eb:=hgrow.block w.heap.size h.1 (fun e=>by have:=(HO4.out.lt _ e.symm).1;omega)
     exact ⟨Nat.lt_of_lt_of_le h.1 hgrow.size,fun i hi=>(World.cell?_of_block (a:=⟨w.heap.size,i,none⟩) eb).trans (h.2 i hi)⟩)
    have HO9:Hid (w4.ownsRow (w.heap.size+1) 255 3 v' (gs ++ [(⟨n,uv,.agg #[.string n,.int .i64 g,.bool wh,.int .i64 f,.int .i64 l,.slice ta2 tl2 tc2]⟩:CG)]).length (cellsAll CG.cells (gs ++ [(⟨n,uv,.agg #[.string n,.int .i64 g,.bool wh,.int .i64 f,.int .i64 l,.slice ta2 tl2 tc2]⟩:CG)]))):=hid_intro (by rw [cellsAll_app,List.length_append];exact hown)
    clear hown hgrow hne4 hS hal4 HO4 HG4 HM4 HA4 HS0 HS1 HOA HGA HMA HAA
    go_wp2_with fail
    go_roundw
    case rel=>exact ⟨k+1,gs ++ [⟨n,uv,.agg #[.string n,.int .i64 g,.bool wh,.int .i64 f,.int .i64 l,.slice ta2 tl2 tc2]⟩],by omega,by go_num,hid_intro (fun h=>by simp at h),HO9,HG9,HHK,HA9,HB9⟩
    case measure=>simp [intOf];omega)
  ·have hlt2:¬(k:Int)<(len:Int):=by omega
   obtain rfl:k=len:=by omega
   go_wp2_with fail
   refine (HTW.out _ HB.out).mono ?_
   rintro e w5 ⟨⟨r,rfl,ht,hf⟩,hb⟩
   have HB5:=hid_intro (HB.out.trans (hb.mono HB.out.size))
   have HG5:=hid_intro (HG.out.below hb)
   have HO5:=hid_intro (own_below HO.out hb)
   have HHA:Hid (∀p∈rs,hasM ms p.d.m=true):=hid_intro (fun p hp=>by
    obtain ⟨i,hi,rfl⟩:=List.getElem_of_mem hp
    have:=HH.out i (by have:=HL.out;omega)
    simpa [List.getD,hi] using this)
   have HTT:=hid_intro ht
   have HFF:=hid_intro hf
   clear hb ht hf HG HO HB HA
   cases r
   ·go_wp2_with fail
    go_ret2
    exact ⟨.inr ⟨HHA.out,.inr ⟨_,gs,rfl,HFF.out (by trivial),OwG.own_low HO5.out (Nat.le_succ _),by rw [←HL.out];exact HG5.out⟩⟩,HB5.out⟩
   ·go_wp2_with fail
    go_ret2
    exact ⟨.inr ⟨HHA.out,.inl ⟨_,rfl,HTT.out (by trivial)⟩⟩,HB5.out⟩
end BilR
namespace BilR
open LtR WinR LinR
open RowG (Rws cellsAll cellsAll_app own_below getD_mem)
open CatR (Blk Blk.new Me Ca mFd MsRight MRight IsMe IsCa caB ResM mO rO)
theorem charges_of (cv:Value) (c:Ca) (bo:Option Addr) (cap:Nat) (rs:List WP) (w:World) (hlen:rs.length≤1048576) (hS:c.Small) (hC:IsCa cv c w) (hca:caB c=true) (hL:CatR.Laid w) (hL2:DateR.Laid w)
 (hI:Rws 8 WP.cells WP.zero bo rs w) (hs:rs.Pairwise (fun x y=>lt y.d.m x.d.m=false)) (hr:∀p∈rs,p.Reads w) (hw:∀p∈rs,wB p.d=true) (hsm:∀p∈rs,p.d.Small) :
 Calls Tryz.prog 128 #[cv,.slice bo rs.length cap] w fun e w'=>ChR c.ms rs w.heap.size e w'∧Below w.heap.size w w':=by
 have hmR:=(CatR.caB_iff.1 hca).1
 have hC':=hC
 obtain ⟨ma,mc,ca,cc,rfl,_⟩:=hC'
 refine charges_in ma _ mc ca _ cc c.ms bo cap rs w hlen hI hs (fun p hp W hW=>?_) (fun p hp hh W hW=>?_)
 ·refine (CatR.impl_mo _ c p.d.m W (hsm p hp).2.1 hS (hC.below hW) (hL.below hW)).mono ?_
  rintro e w' ⟨ta,tc,rfl,hT,hO,hb⟩
  have hm:mO c p.d.m=mFd p.d.m c.ms:=by unfold mO;rw [hca];rfl
  rw [hm] at hT hO ⊢
  refine ⟨⟨_,rfl,⟨_,_,_,_,_,_,_,_,rfl,rfl,fun h=>?_,fun h=>?_⟩,fun h=>?_⟩,hb⟩
  ·obtain ⟨h1,h2⟩:=has_found hmR h
   exact ⟨h2,(CatR.name_le h1.1).1⟩
  ·rw [has_none hmR h];rfl
  ·obtain ⟨h1,h2⟩:=has_found hmR h
   refine ⟨⟨ta,tc,rfl,hT⟩,?_⟩
   have hl:1≤(mFd p.d.m c.ms).ts.length:=h1.2.2.2.2.1
   rcases hO with q|⟨g,rfl,_,hp⟩
   ·omega
   ·rcases hT.2 with q|⟨b,off,e,_,hc⟩
    ·omega
    ·simp only [Option.some.injEq,Addr.mk.injEq,and_true] at e
     obtain ⟨rfl,rfl⟩:=e
     exact ⟨_,_,_,_,_,_,_,_,_,rfl,hp.lt,(hc 0 (by omega)).1⟩
 ·obtain ⟨s1,s2,s3,s4,s5⟩:=hsm p hp
  have h:=impl_value p.d (mFd p.d.m c.ms).g p.ta p.tc p.ha p.hc W s1 s2 s3 s4 s5 (hL2.below hW) ((hr p hp).below hW).1 ((hr p hp).below hW).2
  have e:valueV p.d (mFd p.d.m c.ms).g=useV c.ms p.d:=by unfold valueV useV;rw [hw p hp];rfl
  rw [e] at h
  exact h
def RaR (ms:List Me) (S:List Wd) (base:Nat) (e:Ending) (W:World):Prop :=
 (ratC ms S≠0∧∃v,e=.returned (.tuple #[v,.int .i64 (ratC ms S)])) ∨
 (ratC ms S=0∧∃v,e=.returned (.tuple #[v,.int .i64 0])∧W.ownsRow base 116 2 v ((S.map (rN ms)).filter nz).length (cellsAll N.cells ((S.map (rN ms)).filter nz)))
theorem map_take_more (ms:List Me) (S:List Wd) (k:Nat) (h:k<S.length):(S.take (k+1)).map (rN ms)=(S.take k).map (rN ms) ++ [rN ms (S.getD k Wd.zero)]:=by
 rw [RowG.take_more (z:=Wd.zero) S k h,List.map_append];rfl
theorem infoNL:(Tryz.prog.info? 116).map (fun i=>(i.zero,i.size,i.bytes))=some (some (.agg #[.string ⟨#[]⟩,.int .i64 0]),2,24):=by kernel_rfl
set_option maxRecDepth 100000 in
set_option maxHeartbeats 8000000 in
theorem rated_in (ms:List Me) (S:List Wd) (bo:Option Addr) (cap:Nat) (gs:List CG) (w:World) (hlen:gs.length≤1048576) (hSl:S.length=gs.length) (hI:Rws 3 CG.cells CG.zero bo gs w)
 (hn:∀i,i<gs.length→(gs.getD i CG.zero).i=(rN ms (S.getD i Wd.zero)).i∧(rN ms (S.getD i Wd.zero)).i.size≤1048576)
 (hR:∀i,i<gs.length→∀W,Below w.heap.size w W→Calls Tryz.prog 173 #[(gs.getD i CG.zero).mv,.int .i64 (gs.getD i CG.zero).u] W fun e w'=>e=.returned (FixR.out (rN ms (S.getD i Wd.zero)).n (rC ms (S.getD i Wd.zero)))∧Below W.heap.size W w') :
 Calls Tryz.prog 130 #[.slice bo gs.length cap] w fun e w'=>RaR ms S w.heap.size e w'∧Below w.heap.size w w':=by
 obtain ⟨i0,hi,hz0,hz1,hz2⟩:=info_parts infoNL
 have HI:=hid_intro hI
 have HN:=hid_intro hn
 have HR:=hid_intro hR
 obtain ⟨len,hl⟩:∃len,len=gs.length:=⟨_,rfl⟩
 rw [←hl] at hlen hSl HN HR ⊢
 have HL:=hid_intro hl
 have HSL:=hid_intro hSl
 have HHIT:Hid (∀k,k<len→(∀i,i<k→rC ms (S.getD i Wd.zero)=0)→rC ms (S.getD k Wd.zero)≠0→ratC ms S=rC ms (S.getD k Wd.zero)):=hid_intro (fun k hk h1 h2=>ratC_hit (by omega) h1 h2)
 have HNO:Hid ((∀i,i<len→rC ms (S.getD i Wd.zero)=0)→ratC ms S=0):=hid_intro (fun h=>ratC_none (fun i hi=>h i (by omega)))
 have HEND:Hid (S.take len=S):=hid_intro (List.take_of_length_le (by omega))
 clear hI hn hR hl hSl
 go_enter Tryz.func130,Tryz.ntmps130
 go_wp2_with fail
 go_loopw [4,10] (fun v z wr=>∃(k:Nat),k≤len∧z=.int .i64 k∧Hid (wr.ownsRow w.heap.size 116 2 v ((S.take k).map (rN ms)).length (cellsAll N.cells ((S.take k).map (rN ms))))∧Hid (∀i,i<k→rC ms (S.getD i Wd.zero)=0)∧Hid (Below w.heap.size w wr)) (fun v z _=>len-(intOf z).toNat)
 case atStart=>exact ⟨0,by omega,rfl,hid_intro (World.ownsRow_nil _ _ _ _),hid_intro (fun i h=>absurd h (by omega)),hid_intro (Below.refl _ _)⟩
 case round =>
  obtain ⟨k,hk,rfl,HO,HZ,HB⟩:=hrel
  by_cases hlt:k<len
  ·have hlt2:(k:Int)<(len:Int):=by omega
   obtain ⟨b',off,e0,hbl,hc⟩:∃b off,bo=some ⟨b,off,none⟩∧b<wr.heap.size∧∀i,i<3→wr.cell? ⟨b,off+k*3+i,none⟩=(gs.getD k CG.zero).cells[i]?:=by
    rcases HI.out.below HB.out with h0|⟨b,off,e,hl,hc⟩
    ·have:=HL.out;omega
    ·exact ⟨b,off,e,hl,fun i hi=>hc k (by have:=HL.out;omega) i hi⟩
   subst e0
   obtain ⟨hn1,hn2⟩:=HN.out k hlt
   have HRK:=hid_intro (HR.out k hlt)
   have HHK:=hid_intro (HHIT.out k hlt HZ.out)
   have HMK:=hid_intro (map_take_more ms S k (by have:=HSL.out;omega))
   have HTL:Hid (((S.take k).map (rN ms)).length≤1048576):=hid_intro (by rw [List.length_map,List.length_take];omega)
   have HZM:Hid (rC ms (S.getD k Wd.zero)=0→∀i,i<k+1→rC ms (S.getD i Wd.zero)=0):=hid_intro (fun h i hi=>by
    by_cases e:i=k
    ·subst e;exact h
    ·exact HZ.out i (by omega))
   obtain ⟨F,hF⟩:∃F,F=(S.take k).map (rN ms):=⟨_,rfl⟩
   rw [←hF] at HO HMK HTL
   clear hF
   have HRC:Hid (∃z,z=ratC ms S):=hid_intro ⟨_,rfl⟩
   generalize rC ms (S.getD k Wd.zero)=cd at *
   generalize rN ms (S.getD k Wd.zero)=LN at *
   generalize gs.getD k CG.zero=X at *
   obtain ⟨li,ln⟩:=LN
   obtain ⟨xi,xu,xv⟩:=X
   dsimp only at hn1 hn2 HRK
   subst hn1
   have c0:=hc 0 (by omega)
   have c1:=hc 1 (by omega)
   have c2:=hc 2 (by omega)
   simp only [CG.cells,List.getElem?_cons_zero,List.getElem?_cons_succ,Nat.add_zero] at c0 c1 c2
   clear hc
   obtain ⟨W1,hW1⟩:∃z,z=wr.alloc (.cells #[.string xi,.int .i64 xu,.func (.func 173) #[xv] #[]] 255):=⟨_,rfl⟩
   have hal:Below wr.heap.size wr W1:=by rw [hW1];exact (Below.refl _ _).alloc (Nat.le_refl _) _
   have HX1:Hid (Blk wr.heap.size [.string xi,.int .i64 xu,.func (.func 173) #[xv] #[]] W1):=hid_intro (by rw [hW1];exact Blk.new wr _ _)
   have HB1:=hid_intro (HB.out.trans (hal.mono HB.out.size))
   have HO1:=hid_intro (own_below HO.out hal)
   have HW1:=hid_intro hW1
   clear hal hW1 HO HB
   obtain ⟨B1,hB1⟩:∃z,z=wr.heap.size:=⟨_,rfl⟩
   have HBE:=hid_intro hB1
   rw [←hB1] at HX1
   clear hB1
   go_wp2_with fail
   rw [←HW1.out,←HBE.out]
   clear HW1 c0 c1 c2
   refine (HRK.out W1 HB1.out).mono ?_
   rintro e w2 ⟨rfl,hb2⟩
   have HB2:=hid_intro (HB1.out.trans (hb2.mono HB1.out.size))
   have HX2:=hid_intro (HX1.out.below hb2)
   have HO2:=hid_intro (own_below HO1.out hb2)
   unfold FixR.out
   clear hb2 HB1 HX1 HO1 HRK
   obtain ⟨W2,hW2⟩:∃z,z=w2.alloc (.cells #[.int .i64 ln,.int .i64 0,.int .i64 cd] 121):=⟨_,rfl⟩
   have hal:Below w2.heap.size w2 W2:=by rw [hW2];exact (Below.refl _ _).alloc (Nat.le_refl _) _
   have HY3:Hid (Blk w2.heap.size [.int .i64 ln,.int .i64 0,.int .i64 cd] W2):=hid_intro (by rw [hW2];exact Blk.new w2 _ _)
   have HB3:=hid_intro (HB2.out.trans (hal.mono HB2.out.size))
   have HX3:=hid_intro (HX2.out.below hal)
   have HO3:=hid_intro (own_below HO2.out hal)
   have HSZ3:Hid (W2.heap.size=w2.heap.size+1):=hid_intro (by rw [hW2];simp)
   have HW2:=hid_intro hW2
   clear hal hW2 HB2 HX2 HO2
   by_cases hcd:cd=0
   ·subst hcd
    have HZ2:=hid_intro (HZM.out rfl)
    have x0:=HX3.out.2 0 (by simp)
    have xL:=HX3.out.1
    simp only [List.getElem?_cons_zero] at x0
    rw [HW2.out] at x0 xL
    go_wp2_with (at_builtin;rw [←HW2.out];refine wpList_append_own _ rfl _ _ 33 rfl w.heap.size 116 i0 (.agg #[.string ⟨#[]⟩,.int .i64 0]) 2 24 Tryz.underlying33 hi hz0 hz1 hz2 rfl (by decide) _ _ _ rfl (HO3.out.alloc _) ⟨w2.heap.size+1,0,none⟩ 1 1 [.string xi,.int .i64 ln] rfl rfl ?d1 ?d2 ?d3 ?d4 ?d5 ?_)
    case d1 =>
     have h:=two_cells W2 xi ln 116
     rw [HSZ3.out] at h
     exact h
    case d2=>exact two_one ⟨xi,ln⟩
    case d3=>unfold maxLen;have:=HTL.out;omega
    case d4=>have:=HTL.out;omega
    case d5=>have h1:=HB3.out.size;simp;omega
    intro v' w4 hown hgrow hne
    have hob:∀c,u4.ownBlock=some c→w.heap.size≤c:=fun c hc=>(HO3.out.lt c hc).1
    have HO4:Hid (w4.ownsRow w.heap.size 116 2 v' (F ++ [(⟨xi,ln⟩:N)]).length (cellsAll N.cells (F ++ [(⟨xi,ln⟩:N)]))):=hid_intro (by rw [cellsAll_app,List.length_append];exact hown)
    have HB4:Hid (Below w.heap.size w w4):=hid_intro ((HB3.out.alloc HB3.out.size _).grown hgrow (HB3.out.alloc HB3.out.size _).size (fun c e=>hob c e))
    clear hown hgrow hne hob
    go_wp2_with fail
    go_roundw
    case rel=>exact ⟨k+1,by omega,by go_num,hid_intro (by rw [HMK.out];exact HO4.out),HZ2,HB4⟩
    case measure=>simp [intOf];omega
   ·have h1:(cd==0)=false:=by simp [hcd]
    have h2:(cd != 0)=true:=by simp [hcd]
    have HE:=hid_intro (HHK.out hcd)
    have y2:=HY3.out.2 2 (by simp)
    have yL:=HY3.out.1
    simp only [List.getElem?_cons_zero,List.getElem?_cons_succ] at y2
    go_wp2_with fail
    rw [←HW2.out]
    go_quiet (fail)
    go_wp2_with fail
    go_ret2
    exact ⟨.inl ⟨by rw [HE.out];exact hcd,_,by rw [HE.out];rfl⟩,bdrewN HB3.out _⟩
  ·have hlt2:¬(k:Int)<(len:Int):=by omega
   obtain rfl:k=len:=by omega
   have HQ:=hid_intro (HNO.out HZ.out)
   rw [HEND.out] at HO
   have HSZ:Hid (∀e∈S.map (rN ms),e.i.size≤1048576):=hid_intro (by
    intro e he
    obtain ⟨x,hx,rfl⟩:=List.mem_map.1 he
    obtain ⟨i,hi,rfl⟩:=List.getElem_of_mem hx
    have:=(HN.out i (by have:=HSL.out;omega)).2
    simpa [List.getD,hi] using this)
   have HFL:Hid ((S.map (rN ms)).length≤1048576):=hid_intro (by rw [List.length_map];have:=HSL.out;omega)
   obtain ⟨F,hF⟩:∃F,F=S.map (rN ms):=⟨_,rfl⟩
   have HFE:=hid_intro hF
   rw [←hF] at HO HSZ HFL
   clear hF
   obtain ⟨ao,cap',rfl,hm⟩:=RowG.own_made (z:=N.zero) N.len HO.out
   have HP:=hid_intro (fun W (hW:Below wr.heap.size wr W)=>put_any ao cap' F W HFL.out HSZ.out (hm.rws.below hW))
   clear hm HO
   generalize hFl:F.length=fl at *
   go_wp2_with fail
   refine (HP.out _ (Below.refl _ _)).mono ?_
   rintro e w5 ⟨v,rfl,hv,hb⟩
   have HV:=hid_intro (LinR.own_low hv HB.out.size)
   have HB5:=hid_intro (HB.out.trans (hb.mono HB.out.size))
   clear hv hb HP
   go_wp2_with fail
   go_ret2
   exact ⟨.inr ⟨HQ.out,v,rfl,by rw [←HFE.out];exact HV.out⟩,HB5.out⟩
end BilR
end Go.Proofs.YtmalfhhkjdkadaaGreatDoor
