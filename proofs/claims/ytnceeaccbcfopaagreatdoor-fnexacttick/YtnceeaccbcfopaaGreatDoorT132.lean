/-
  What is sold, and what is gone: the program's closures. The condition: sizes of at most 1048576.
-/
import Derived.Test.YtnceeaccbcfopaaGreatDoorT131
namespace Go.Proofs.YtnceeaccbcfopaaGreatDoor
open Go.ChangeShapes Go.WideShapes Go.ChangeAt Go.RowKit
set_option linter.unusedVariables false
namespace EngR
open CatR
def sellB (ms:List Me) (t:ByteArray):Bool:=ms.any (fun m=>decide (m.n=t))
theorem sell1 (n:ByteArray) (g:Int) (wh:Bool) (f l:Int) (ta:Option Addr) (tl tc:Nat) (t:ByteArray) (B:Nat) (w:World) (hB:B<w.heap.size) (hc:w.cell? ⟨B,0,none⟩=some (.string t)) :
 Calls Tryz.prog 177 #[.agg #[.string n,.int .i64 g,.bool wh,.int .i64 f,.int .i64 l,.slice ta tl tc],.pointer (some ⟨B,0,none⟩)] w fun e w'=>e=.returned (.bool (decide (n=t)))∧Below w.heap.size w w':=by
 have HB:Hid (Below w.heap.size w (w.alloc (.cells #[.string n,.int .i64 g,.bool wh,.int .i64 f,.int .i64 l,.slice ta tl tc] 150))):=H_ ((Below.refl _ _).alloc (Nat.le_refl _) _)
 by_cases h:n=t
 ·subst h
  go_enter Tryz.func177,Tryz.ntmps177
  go_wp2_with fail
  go_ret
  exact ⟨by simp,HB.out⟩
 ·have hne2:(n.toList==t.toList)=false:=by simpa using fun q=>h (LtR.toList_inj q)
  rw [decide_eq_false h]
  go_enter Tryz.func177,Tryz.ntmps177
  go_wp2_with fail
  go_ret
  exact ⟨rfl,HB.out⟩
set_option maxHeartbeats 4000000 in
theorem idxM (ma:Option Addr) (mc:Nat) (ms:List Me) (t:ByteArray) (B:Nat) (w:World) (hM:Mes ma ms.length ms w) (hlen:ms.length≤1048576) (hB:B<w.heap.size) (hc:w.cell? ⟨B,0,none⟩=some (.string t)) :
 Calls Tryz.prog 209 #[.slice ma ms.length mc,.func (.func 177) #[] #[.pointer (some ⟨B,0,none⟩)]] w fun e w'=>(∃n:Int,e=.returned (.int .i64 n)∧((0≤n)=(sellB ms t=true)))∧Below w.heap.size w w':=by
 have HM:=H_ hM
 have HC:=H_ hc
 have HY:Hid (∀k,k<ms.length→(ms.getD k Me.zero).n=t→(∀n:Int,0≤n→((0≤n)=(sellB ms t=true)))):=H_ (fun k hk e n hn=>by
  have h1:sellB ms t=true:=List.any_eq_true.2 ⟨ms[k],List.getElem_mem hk,by simpa [List.getD,hk] using e⟩
  simp [hn,h1])
 have HNo:Hid ((∀i,i<ms.length→(ms.getD i Me.zero).n≠t)→((0≤(-1:Int))=(sellB ms t=true))):=H_ (fun h=>by
  have h1:sellB ms t=false:=by
   cases hq:sellB ms t with
   | false=>rfl
   | true =>
    obtain ⟨m,hm,hn⟩:=List.any_eq_true.1 hq
    obtain ⟨i,hi,rfl⟩:=List.getElem_of_mem hm
    exact absurd (by simpa [List.getD,hi] using hn) (h i hi)
  simp [h1])
 generalize (sellB ms t=true)=SB at *
 obtain ⟨len,hl⟩:∃len,len=ms.length:=⟨_,rfl⟩
 rw [←hl] at hlen HY HNo ⊢
 have HL:=H_ hl
 clear hM hc hl
 go_enter Tryz.func209,Tryz.ntmps209
 go_wp2_with fail
 go_loopw [5,8] (fun y z wr=>∃k:Nat,k≤len∧z=.int .i64 k∧Hid (∀i,i<k→(ms.getD i Me.zero).n≠t)∧Hid (Below w.heap.size w wr)) (fun _ z _=>len-(intOf z).toNat)
 case atStart=>exact ⟨0,by omega,rfl,H_ (fun i hi=>absurd hi (by omega)),H_ (Below.refl _ _)⟩
 case round =>
  obtain ⟨k,hk,rfl,HN,HB⟩:=hrel
  by_cases hlt:k<len
  ·have hlt2:(k:Int)<(len:Int):=by omega
   obtain ⟨b,off,rfl,hbl,ta,tc,c0,c1,c2,c3,c4,c5,hT⟩:=mes_at (HM.out.below HB.out) k (by have:=HL.out;omega)
   have HYk:=H_ (HY.out k (by omega))
   have HNk:Hid ((ms.getD k Me.zero).n≠t→∀i,i<k+1→(ms.getD i Me.zero).n≠t):=H_ (fun h i hi=>by
    by_cases e:i=k
    ·subst e;exact h
    ·exact HN.out i (by omega))
   have hBl:B<wr.heap.size:=by have:=HB.out.size;omega
   have hcw:wr.cell? ⟨B,0,none⟩=some (.string t):=(HB.out.cell (p:=⟨B,0,none⟩) hB).trans HC.out
   generalize ms.getD k Me.zero=X at *
   obtain ⟨xn,xg,xw,xf,xl,xt⟩:=X
   dsimp only at c0 c1 c2 c3 c4 c5 HYk HNk
   have HS:=H_ (sell1 xn xg xw xf xl ta xt.length tc t B wr hBl hcw)
   generalize xt.length=tl at *
   clear hT hcw
   by_cases he:xn=t
   ·rw [decide_eq_true he] at HS
    have HR:=H_ (HYk.out he (k:Int) (by omega))
    clear he
    go_wp2_with fail
    refine HS.out.mono ?_
    rintro e w1 ⟨rfl,hb⟩
    have HB1:=H_ (HB.out.trans (hb.mono HB.out.size))
    clear hb c0 c1 c2 c3 c4 c5
    go_wp2_with fail
    go_ret
    exact ⟨⟨_,rfl,HR.out⟩,HB1.out⟩
   ·rw [decide_eq_false he] at HS
    have HN2:=H_ (HNk.out he)
    clear he
    go_wp2_with fail
    refine HS.out.mono ?_
    rintro e w1 ⟨rfl,hb⟩
    have HB1:=H_ (HB.out.trans (hb.mono HB.out.size))
    clear hb c0 c1 c2 c3 c4 c5
    go_wp2_with fail
    go_roundw
    case rel=>exact ⟨k+1,by omega,by go_num,HN2,HB1⟩
    case measure=>simp [intOf];omega
  ·have hlt2:¬(k:Int)<(len:Int):=by omega
   have HR:=H_ (HNo.out (fun i hi=>HN.out i (by omega)))
   go_wp2_with fail
   go_ret
   exact ⟨⟨_,rfl,iff_of_eq HR.out⟩,HB.out⟩
set_option maxHeartbeats 4000000 in
theorem isells (ma ca:Option Addr) (mc cl cc:Nat) (ms:List Me) (t:ByteArray) (w:World) (hM:Mes ma ms.length ms w) (hlen:ms.length≤1048576) :
 Calls Tryz.prog 130 #[.agg #[.slice ma ms.length mc,.slice ca cl cc],.string t] w fun e w'=>e=.returned (.bool (sellB ms t))∧Below w.heap.size w w':=by
 obtain ⟨W,hW⟩:∃z,z=(w.alloc (.cells #[.slice ma ms.length mc,.slice ca cl cc] 36)).alloc (.cells #[.string t] 9):=⟨_,rfl⟩
 have HB:Hid (Below w.heap.size w W):=H_ (by rw [hW];exact ((Below.refl _ _).alloc (Nat.le_refl _) _).alloc (by simp) _)
 have hl:w.heap.size+1<W.heap.size:=by rw [hW];simp
 have hc:W.cell? ⟨w.heap.size+1,0,none⟩=some (.string t):=by rw [hW];simp [go_sem]
 have HI:Hid (∀W2,Below W.heap.size W W2→Calls Tryz.prog 209 #[.slice ma ms.length mc,.func (.func 177) #[] #[.pointer (some ⟨w.heap.size+1,0,none⟩)]] W2 fun e w'=>(∃n:Int,e=.returned (.int .i64 n)∧((0≤n)=(sellB ms t=true)))∧Below W2.heap.size W2 w'):=H_ (fun W2 h2=>idxM ma mc ms t _ W2 ((hM.below HB.out).below h2) hlen (by have:=h2.size;omega) ((h2.cell (p:=⟨w.heap.size+1,0,none⟩) hl).trans hc))
 have HR:Hid (∀n:Int,((0≤n)=(sellB ms t=true))→decide (0≤n)=sellB ms t):=H_ (fun n h=>by
  cases hq:sellB ms t with
  | true=>rw [hq] at h;simp only [eq_self,eq_iff_iff,iff_true] at h;exact decide_eq_true h
  | false=>rw [hq] at h;simp only [Bool.false_eq_true,eq_iff_iff,iff_false] at h;exact decide_eq_false h)
 generalize hq:(sellB ms t=true)=SB at *
 clear hq
 generalize sellB ms t=R at *
 have HW:=H_ hW
 clear hW hM
 generalize ms.length=ml at *
 go_enter Tryz.func130,Tryz.ntmps130
 go_wp2_with (go_at_call 176;go_in)
 rw [←HW.out]
 refine (HI.out _ (Below.refl _ _)).mono ?_
 rintro e w1 ⟨⟨n,rfl,hn⟩,hb⟩
 have HB1:=H_ (HB.out.trans (hb.mono HB.out.size))
 have HN:=H_ (HR.out n hn)
 clear hb hn
 go_wp2_with fail
 go_ret
 exact ⟨ret_bool HN.out,HB1.out⟩
theorem at_sell {ms:List Me} {t:ByteArray} {r:Int} (h:atB ms t r):decide (r<0)=!sellB ms t:=by
 rcases h with ⟨k,hk,rfl,e,_⟩|⟨rfl,hn⟩
 ·have h1:sellB ms t=true:=List.any_eq_true.2 ⟨ms[k],List.getElem_mem hk,by unfold mN at e;simpa [List.getD,hk] using e⟩
  rw [h1]
  simp
 ·have h1:sellB ms t=false:=by
   cases hq:sellB ms t with
   | false=>rfl
   | true =>
    obtain ⟨m,hm,hn2⟩:=List.any_eq_true.1 hq
    obtain ⟨i,hi,rfl⟩:=List.getElem_of_mem hm
    exact absurd (by unfold mN;simpa [List.getD,hi] using hn2) (hn i hi)
  rw [h1]
  simp
end EngR
namespace EngR
open SeenR (Ens)
open RowG (H_)
def goneB (es:List SeenR.N) (v:Int):Bool:=es.any (fun e=>decide (e.n<v))
theorem gone1 (i:ByteArray) (n s v:Int) (B:Nat) (w:World) (hB:B<w.heap.size) (hc:w.cell? ⟨B,0,none⟩=some (.int .i64 v)) :
 Calls Tryz.prog 126 #[.agg #[.string i,.int .i64 n,.int .i64 s],.pointer (some ⟨B,0,none⟩)] w fun e w'=>e=.returned (.bool (decide (n<v)))∧Below w.heap.size w w':=by
 have HB:Hid (Below w.heap.size w (w.alloc (.cells #[.string i,.int .i64 n,.int .i64 s] 110))):=H_ ((Below.refl _ _).alloc (Nat.le_refl _) _)
 go_enter Tryz.func126,Tryz.ntmps126
 go_wp2_with fail
 go_ret
 exact ⟨rfl,HB.out⟩
set_option maxHeartbeats 4000000 in
theorem idxE (ma:Option Addr) (mc:Nat) (ms:List SeenR.N) (t:Int) (B:Nat) (w:World) (hM:Ens ma ms w) (hlen:ms.length≤1048576) (hB:B<w.heap.size) (hc:w.cell? ⟨B,0,none⟩=some (.int .i64 t)) :
 Calls Tryz.prog 174 #[.slice ma ms.length mc,.func (.func 126) #[] #[.pointer (some ⟨B,0,none⟩)]] w fun e w'=>(∃n:Int,e=.returned (.int .i64 n)∧((0≤n)=(goneB ms t=true)))∧Below w.heap.size w w':=by
 have HM:=H_ hM
 have HC:=H_ hc
 have HY:Hid (∀k,k<ms.length→(ms.getD k SeenR.N.zero).n<t→(∀n:Int,0≤n→((0≤n)=(goneB ms t=true)))):=H_ (fun k hk e n hn=>by
  have h1:goneB ms t=true:=List.any_eq_true.2 ⟨ms[k],List.getElem_mem hk,by simpa [List.getD,hk] using e⟩
  simp [hn,h1])
 have HNo:Hid ((∀i,i<ms.length→t≤(ms.getD i SeenR.N.zero).n)→((0≤(-1:Int))=(goneB ms t=true))):=H_ (fun h=>by
  have h1:goneB ms t=false:=by
   cases hq:goneB ms t with
   | false=>rfl
   | true =>
    obtain ⟨m,hm,hn⟩:=List.any_eq_true.1 hq
    obtain ⟨i,hi,rfl⟩:=List.getElem_of_mem hm
    exact absurd (show (ms.getD i SeenR.N.zero).n<t by simpa [List.getD,hi] using hn) (Int.not_lt.2 (h i hi))
  simp [h1])
 generalize (goneB ms t=true)=SB at *
 obtain ⟨len,hl⟩:∃len,len=ms.length:=⟨_,rfl⟩
 rw [←hl] at hlen HY HNo ⊢
 have HL:=H_ hl
 clear hM hc hl
 go_enter Tryz.func174,Tryz.ntmps174
 go_wp2_with fail
 go_loopw [5,8] (fun y z wr=>∃k:Nat,k≤len∧z=.int .i64 k∧Hid (∀i,i<k→t≤(ms.getD i SeenR.N.zero).n)∧Hid (Below w.heap.size w wr)) (fun _ z _=>len-(intOf z).toNat)
 case atStart=>exact ⟨0,by omega,rfl,H_ (fun i hi=>absurd hi (by omega)),H_ (Below.refl _ _)⟩
 case round =>
  obtain ⟨k,hk,rfl,HN,HB⟩:=hrel
  by_cases hlt:k<len
  ·have hlt2:(k:Int)<(len:Int):=by omega
   obtain ⟨b,off,rfl,hbl,c0,c1,c2⟩:=(HM.out.below HB.out).at k (by have:=HL.out;omega)
   have HYk:=H_ (HY.out k (by omega))
   have HNk:Hid (t≤(ms.getD k SeenR.N.zero).n→∀i,i<k+1→t≤(ms.getD i SeenR.N.zero).n):=H_ (fun h i hi=>by
    by_cases e:i=k
    ·subst e;exact h
    ·exact HN.out i (by omega))
   have hBl:B<wr.heap.size:=by have:=HB.out.size;omega
   have hcw:wr.cell? ⟨B,0,none⟩=some (.int .i64 t):=(HB.out.cell (p:=⟨B,0,none⟩) hB).trans HC.out
   generalize ms.getD k SeenR.N.zero=X at *
   obtain ⟨xi,xn,xs⟩:=X
   dsimp only at c0 c1 c2 HYk HNk
   have HS:=H_ (gone1 xi xn xs t B wr hBl hcw)
   clear hcw
   by_cases he:xn<t
   ·rw [decide_eq_true he] at HS
    have HR:=H_ (HYk.out he (k:Int) (by omega))
    clear he
    go_wp2_with fail
    refine HS.out.mono ?_
    rintro e w1 ⟨rfl,hb⟩
    have HB1:=H_ (HB.out.trans (hb.mono HB.out.size))
    clear hb c0 c1 c2
    go_wp2_with fail
    go_ret
    exact ⟨⟨_,rfl,HR.out⟩,HB1.out⟩
   ·rw [decide_eq_false he] at HS
    have HN2:=H_ (HNk.out (by omega))
    clear he
    go_wp2_with fail
    refine HS.out.mono ?_
    rintro e w1 ⟨rfl,hb⟩
    have HB1:=H_ (HB.out.trans (hb.mono HB.out.size))
    clear hb c0 c1 c2
    go_wp2_with fail
    go_roundw
    case rel=>exact ⟨k+1,by omega,by go_num,HN2,HB1⟩
    case measure=>simp [intOf];omega
  ·have hlt2:¬(k:Int)<(len:Int):=by omega
   have HR:=H_ (HNo.out (fun i hi=>HN.out i (by omega)))
   go_wp2_with fail
   go_ret
   exact ⟨⟨_,rfl,iff_of_eq HR.out⟩,HB.out⟩
set_option maxHeartbeats 4000000 in
theorem icont (ma:Option Addr) (mc:Nat) (es:List SeenR.N) (v:Int) (B:Nat) (w:World) (hM:Ens ma es w) (hlen:es.length≤1048576) (hB:B<w.heap.size) (hc:w.cell? ⟨B,0,none⟩=some (.int .i64 v)) :
 Calls Tryz.prog 128 #[.slice ma es.length mc,.func (.func 126) #[] #[.pointer (some ⟨B,0,none⟩)]] w fun e w'=>e=.returned (.bool (goneB es v))∧Below w.heap.size w w':=by
 have HI:=H_ (idxE ma mc es v B w hM hlen hB hc)
 have HR:Hid (∀n:Int,((0≤n)=(goneB es v=true))→decide (0≤n)=goneB es v):=H_ (fun n h=>by
  cases hq:goneB es v with
  | true=>rw [hq] at h;simp only [eq_self,eq_iff_iff,iff_true] at h;exact decide_eq_true h
  | false=>rw [hq] at h;simp only [Bool.false_eq_true,eq_iff_iff,iff_false] at h;exact decide_eq_false h)
 generalize hq:(goneB es v=true)=SB at *
 clear hq
 generalize goneB es v=R at *
 clear hM
 generalize es.length=el at *
 go_enter Tryz.func128,Tryz.ntmps128
 go_wp2_with fail
 refine HI.out.mono ?_
 rintro e w1 ⟨⟨n,rfl,hn⟩,hb⟩
 have HB1:=H_ hb
 have HN:=H_ (HR.out n hn)
 clear hb hn
 go_wp2_with fail
 go_ret
 exact ⟨ret_bool HN.out,HB1.out⟩
end EngR
end Go.Proofs.YtnceeaccbcfopaaGreatDoor
