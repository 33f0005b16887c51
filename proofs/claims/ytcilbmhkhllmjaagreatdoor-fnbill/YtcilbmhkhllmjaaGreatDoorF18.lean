/-
  What a window comes to as a number, on both sides. The conditions: texts of at most 1048576 bytes, lists of at most 1048576; the program's table stands in its variable.
  What a right meter costs, in numbers. No condition.
  The face of numbers that may run over: what a reckoning comes to, whether it returns, runs over or panics. The condition: the program's own error stands in its variable.
  The program's product, whether it runs over or not. The condition: the program's own error stands in its variable.
  What the program and the model call a right meter: they are one. The conditions: the name has at most 1048576 bytes, the tiers are at most 1048576.
-/
import Derived.Defers
import Derived.Recover
import Derived.Laws.Pointers
import Derived.Deep.RegionHeld3
import Derived.Test.YtcilbmhkhllmjaaGreatDoorF17
namespace Go.Proofs.YtcilbmhkhllmjaaGreatDoor
open Go.ChangeShapes Go.WideShapes Go.ChangeAt Go.RowKit
set_option linter.unusedVariables false
namespace WinR
open RowG LtR
open CatR (Blk Blk.new)
open DateR (Laid)
def grt (p q:Int):Int:=if q<p then p else q
def pk (hs:List H):Int:=hs.foldl (fun p x=>grt p x.s) 0
theorem pk_take (hs:List H) (k:Nat) (h:k<hs.length):pk (hs.take (k+1))=grt (pk (hs.take k)) (hs.getD k H.zero).s:=by
 unfold pk
 rw [take_more (z:=H.zero) hs k h,List.foldl_append]
 rfl
def valV (x:Wd) (g:Int):Int:=if g=1 then x.su else if g=2 then x.mx else if g=3 then (x.ts.length:Int) else if g=4 then pk x.hs else 0
def valueV (x:Wd) (g:Int):Int:=bif wB x then valV x g else 0
theorem smax_any (p q:Int) (w:World):Calls Tryz.prog 115 #[.int .i64 p,.int .i64 q] w fun e w'=>e=.returned (.int .i64 (grt p q))∧w'=w:=by
 unfold grt
 by_cases h:q<p
 ·rw [if_pos h]
  go_enter Tryz.func115,Tryz.ntmps115
  go_wp2
  go_ret
  exact ⟨rfl,rfl⟩
 ·rw [if_neg h]
  go_enter Tryz.func115,Tryz.ntmps115
  go_wp2
  go_ret
  exact ⟨rfl,rfl⟩
theorem agg1 (a m:ByteArray) (mo ev su mx:Int) (ta:Option Addr) (tl tc:Nat) (ha:Option Addr) (hl hc:Nat) (w:World):Calls Tryz.prog 152 #[.agg #[.string a,.string m,.int .i64 mo,.int .i64 ev,.int .i64 su,.int .i64 mx,.slice ta tl tc,.slice ha hl hc]] w fun e w'=>e=.returned (.int .i64 su)∧Below w.heap.size w w':=by
 go_enter Tryz.func152,Tryz.ntmps152
 go_wp2
 go_ret
 exact ⟨rfl,(Below.refl _ _).alloc (Nat.le_refl _) _⟩
theorem agg2 (a m:ByteArray) (mo ev su mx:Int) (ta:Option Addr) (tl tc:Nat) (ha:Option Addr) (hl hc:Nat) (w:World):Calls Tryz.prog 153 #[.agg #[.string a,.string m,.int .i64 mo,.int .i64 ev,.int .i64 su,.int .i64 mx,.slice ta tl tc,.slice ha hl hc]] w fun e w'=>e=.returned (.int .i64 mx)∧Below w.heap.size w w':=by
 go_enter Tryz.func153,Tryz.ntmps153
 go_wp2
 go_ret
 exact ⟨rfl,(Below.refl _ _).alloc (Nat.le_refl _) _⟩
theorem agg3 (a m:ByteArray) (mo ev su mx:Int) (ta:Option Addr) (tl tc:Nat) (ha:Option Addr) (hl hc:Nat) (w:World):Calls Tryz.prog 154 #[.agg #[.string a,.string m,.int .i64 mo,.int .i64 ev,.int .i64 su,.int .i64 mx,.slice ta tl tc,.slice ha hl hc]] w fun e w'=>e=.returned (.int .i64 (tl:Int))∧Below w.heap.size w w':=by
 go_enter Tryz.func154,Tryz.ntmps154
 go_wp2
 go_ret
 exact ⟨rfl,(Below.refl _ _).alloc (Nat.le_refl _) _⟩
set_option maxHeartbeats 4000000 in
theorem impl_peak (a m:ByteArray) (mo ev su mx:Int) (tv:Value) (ha:Option Addr) (hs:List H) (hc:Nat) (w:World) (hlen:hs.length≤1048576) (hI:Hrs ha hs w) :
 Calls Tryz.prog 155 #[.agg #[.string a,.string m,.int .i64 mo,.int .i64 ev,.int .i64 su,.int .i64 mx,tv,.slice ha hs.length hc]] w fun e w'=>e=.returned (.int .i64 (pk hs))∧Below w.heap.size w w':=by
 have HI:=H_ hI
 obtain ⟨len,hl⟩:∃len,len=hs.length:=⟨_,rfl⟩
 rw [←hl] at hlen ⊢
 have HL:=H_ hl
 have HE:Hid (pk (hs.take len)=pk hs):=H_ (by rw [List.take_of_length_le (by omega)])
 generalize pk hs=R at *
 clear hI hl
 have HB0:Hid (Below w.heap.size w (w.alloc (.cells #[.string a,.string m,.int .i64 mo,.int .i64 ev,.int .i64 su,.int .i64 mx,tv,.slice ha len hc] 74))):=H_ ((Below.refl _ _).alloc (Nat.le_refl _) _)
 go_enter Tryz.func155,Tryz.ntmps155
 go_wp2_with fail
 go_loopw [3,9] (fun y z wr=>∃k:Nat,k≤len∧y=.int .i64 (pk (hs.take k))∧z=.int .i64 k∧Hid (Below w.heap.size w wr)) (fun y z _=>len-(intOf z).toNat)
 case atStart=>exact ⟨0,by omega,rfl,rfl,HB0⟩
 case round =>
  obtain ⟨k,hk,rfl,rfl,HB⟩:=hrel
  by_cases hlt1:k<len
  ·have hlt2:(k:Int)<(len:Int):=by omega
   obtain ⟨b,off,rfl,hbl,c0,c1⟩:=(HI.out.below HB.out).at k (by have:=HL.out;omega)
   have HP:=H_ (pk_take hs k (by have:=HL.out;omega))
   generalize hs.getD k H.zero=X at *
   obtain ⟨xh,xs⟩:=X
   dsimp only at c0 c1 HP
   generalize pk (hs.take k)=T at *
   by_cases hm:xs<T
   ·have HP2:Hid (pk (hs.take (k+1))=T):=H_ (by rw [HP.out];unfold grt;rw [if_pos hm])
    have hm2:max T xs=T:=by omega
    have hm3:¬T<xs:=by omega
    have hm4:¬T≤xs:=by omega
    go_wp2_with fail
    go_roundw
    case rel=>exact ⟨k+1,by omega,by first|(rw [HP2.out];done)|(rw [HP2.out];congr 1;omega),by go_num,H_ (HB.out.alloc HB.out.size _)⟩
    case measure=>simp [intOf];omega
   ·have HP2:Hid (pk (hs.take (k+1))=xs):=H_ (by rw [HP.out];unfold grt;rw [if_neg hm])
    have hm2:max T xs=xs:=by omega
    have hm4:T≤xs:=by omega
    go_wp2_with fail
    go_roundw
    case rel=>exact ⟨k+1,by omega,by first|(rw [HP2.out];done)|(rw [HP2.out];congr 1;omega),by go_num,H_ (HB.out.alloc HB.out.size _)⟩
    case measure=>simp [intOf];omega
  ·have hlt2:¬(k:Int)<(len:Int):=by omega
   obtain rfl:k=len:=by omega
   have HE2:=HE.out
   generalize pk (hs.take k)=T at *
   subst HE2
   go_wp2_with fail
   go_ret
   exact ⟨rfl,HB.out⟩
theorem impl_aggs (w:World):Calls Tryz.prog 126 #[] w fun e w'=>∃g,e=.returned (.slice (some ⟨g,0,none⟩) 4 4)∧Blk g [.int .i64 1,.func (.func 152) #[] #[],.int .i64 2,.func (.func 153) #[] #[],.int .i64 3,.func (.func 154) #[] #[],.int .i64 4,.func (.func 155) #[] #[]] w'∧Below w.heap.size w w':=by
 go_enter Tryz.func126,Tryz.ntmps126
 go_wp2_with fail
 go_ret
 exact ⟨_,rfl,Blk.new w [.int .i64 1,.func (.func 152) #[] #[],.int .i64 2,.func (.func 153) #[] #[],.int .i64 3,.func (.func 154) #[] #[],.int .i64 4,.func (.func 155) #[] #[]] _,(Below.refl _ _).alloc (Nat.le_refl _) _⟩
set_option maxRecDepth 100000 in
set_option maxHeartbeats 8000000 in
theorem value_in (a m:ByteArray) (mo ev su mx:Int) (ta:Option Addr) (tl tc:Nat) (ha:Option Addr) (hl hc:Nat) (g P:Int) (w:World)
 (h2:∀W,Calls Tryz.prog 152 #[.agg #[.string a,.string m,.int .i64 mo,.int .i64 ev,.int .i64 su,.int .i64 mx,.slice ta tl tc,.slice ha hl hc]] W fun e w'=>e=.returned (.int .i64 su)∧Below W.heap.size W w')
 (h3:∀W,Calls Tryz.prog 153 #[.agg #[.string a,.string m,.int .i64 mo,.int .i64 ev,.int .i64 su,.int .i64 mx,.slice ta tl tc,.slice ha hl hc]] W fun e w'=>e=.returned (.int .i64 mx)∧Below W.heap.size W w')
 (h4:∀W,Calls Tryz.prog 154 #[.agg #[.string a,.string m,.int .i64 mo,.int .i64 ev,.int .i64 su,.int .i64 mx,.slice ta tl tc,.slice ha hl hc]] W fun e w'=>e=.returned (.int .i64 (tl:Int))∧Below W.heap.size W w')
 (h5:∀W,Below w.heap.size w W→Calls Tryz.prog 155 #[.agg #[.string a,.string m,.int .i64 mo,.int .i64 ev,.int .i64 su,.int .i64 mx,.slice ta tl tc,.slice ha hl hc]] W fun e w'=>e=.returned (.int .i64 P)∧Below W.heap.size W w')
 (h1:∀W,Below w.heap.size w W→Calls Tryz.prog 92 #[.agg #[.string a,.string m,.int .i64 mo,.int .i64 ev,.int .i64 su,.int .i64 mx,.slice ta tl tc,.slice ha hl hc]] W fun e w'=>e=.returned (.bool true)∧Below W.heap.size W w') :
 Calls Tryz.prog 94 #[.agg #[.string a,.string m,.int .i64 mo,.int .i64 ev,.int .i64 su,.int .i64 mx,.slice ta tl tc,.slice ha hl hc],.int .i64 g] w fun e w'=>e=.returned (.int .i64 (if g=1 then su else if g=2 then mx else if g=3 then (tl:Int) else if g=4 then P else 0))∧Below w.heap.size w w':=by
 have H1:=H_ h1
 have H2:=H_ h2
 have H3:=H_ h3
 have H4:=H_ h4
 have H5:=H_ h5
 have H0:=H_ impl_aggs
 clear h1 h2 h3 h4 h5
 have HV:Hid (∀v,v=(if g=1 then su else if g=2 then mx else if g=3 then (tl:Int) else if g=4 then P else 0)→v=(if g=1 then su else if g=2 then mx else if g=3 then (tl:Int) else if g=4 then P else 0)):=H_ (fun _ h=>h)
 generalize hR:(if g=1 then su else if g=2 then mx else if g=3 then (tl:Int) else if g=4 then P else 0)=R
 have HR:=H_ hR
 clear hR HV
 have HB0:Hid (Below w.heap.size w (w.alloc (.cells #[.string a,.string m,.int .i64 mo,.int .i64 ev,.int .i64 su,.int .i64 mx,.slice ta tl tc,.slice ha hl hc] 74))):=H_ ((Below.refl _ _).alloc (Nat.le_refl _) _)
 have HX0:=H_ (Blk.new w [.string a,.string m,.int .i64 mo,.int .i64 ev,.int .i64 su,.int .i64 mx,.slice ta tl tc,.slice ha hl hc] 74)
 go_enter Tryz.func94,Tryz.ntmps94
 go_wp2_with fail
 refine (H1.out _ HB0.out).mono ?_
 rintro e w1 ⟨rfl,hb1⟩
 have HB1:=H_ (HB0.out.trans (hb1.mono HB0.out.size))
 have HX1:=H_ (HX0.out.below hb1)
 clear hb1 HB0 HX0
 go_wp2_with fail
 refine (H0.out _).mono ?_
 rintro e w2 ⟨G,rfl,hA2,hb2⟩
 have HB2:=H_ (HB1.out.trans (hb2.mono HB1.out.size))
 have HX2:=H_ (HX1.out.below hb2)
 have HA2:=H_ hA2
 clear hb2 hA2 HB1 HX1
 go_wp2_with fail
 go_loopw [12] (fun z wr=>∃k:Nat,k≤4∧z=.int .i64 k∧Hid (∀j:Nat,j<k→g≠(j:Int)+1)∧Hid (Below w.heap.size w wr)∧Hid (Blk w.heap.size [.string a,.string m,.int .i64 mo,.int .i64 ev,.int .i64 su,.int .i64 mx,.slice ta tl tc,.slice ha hl hc] wr)∧Hid (Blk G [.int .i64 1,.func (.func 152) #[] #[],.int .i64 2,.func (.func 153) #[] #[],.int .i64 3,.func (.func 154) #[] #[],.int .i64 4,.func (.func 155) #[] #[]] wr)) (fun z _=>4-(intOf z).toNat)
 case atStart=>exact ⟨0,by omega,rfl,H_ (fun j hj=>absurd hj (by omega)),HB2,HX2,HA2⟩
 case round =>
  obtain ⟨k,hk,rfl,HN,HB,HX,HA⟩:=hrel
  have hxl:=HX.out.1
  have hgl:=HA.out.1
  rcases (show k=0∨k=1∨k=2∨k=3∨k=4 by omega) with rfl|rfl|rfl|rfl|rfl
  ·have k0:wr.cell? ⟨G,0,none⟩=some (.int .i64 1):=HA.out.2 0 (by simp)
   have k1:wr.cell? ⟨G,1,none⟩=some (.func (.func 152) #[] #[]):=HA.out.2 1 (by simp)
   have HBa:=H_ (HB.out.alloc HB.out.size (.cells #[.int .i64 1,.func (.func 152) #[] #[]] 193))
   have HXa:=H_ (HX.out.alloc (.cells #[.int .i64 1,.func (.func 152) #[] #[]] 193))
   have HAa:=H_ (HA.out.alloc (.cells #[.int .i64 1,.func (.func 152) #[] #[]] 193))
   by_cases hg:g=1
   ·subst hg
    have HR2:Hid (R=su):=H_ (by have h:=HR.out;simpa using h.symm)
    have x0:wr.cell? ⟨w.heap.size,0,none⟩=some (.string a):=HX.out.2 0 (by simp)
    have x1:wr.cell? ⟨w.heap.size,1,none⟩=some (.string m):=HX.out.2 1 (by simp)
    have x2:wr.cell? ⟨w.heap.size,2,none⟩=some (.int .i64 mo):=HX.out.2 2 (by simp)
    have x3:wr.cell? ⟨w.heap.size,3,none⟩=some (.int .i64 ev):=HX.out.2 3 (by simp)
    have x4:wr.cell? ⟨w.heap.size,4,none⟩=some (.int .i64 su):=HX.out.2 4 (by simp)
    have x5:wr.cell? ⟨w.heap.size,5,none⟩=some (.int .i64 mx):=HX.out.2 5 (by simp)
    have x6:wr.cell? ⟨w.heap.size,6,none⟩=some (.slice ta tl tc):=HX.out.2 6 (by simp)
    have x7:wr.cell? ⟨w.heap.size,7,none⟩=some (.slice ha hl hc):=HX.out.2 7 (by simp)
    go_wp2_with fail
    refine (H2.out _).mono ?_
    rintro e w3 ⟨rfl,hb3⟩
    have HB3:=H_ (HBa.out.trans (hb3.mono HBa.out.size))
    clear hb3
    go_wp2_with fail
    go_ret
    exact ⟨ret_int HR2.out.symm,HB3.out⟩
   ·have hg2:((1:Int)==g)=false:=by simp;omega
    have hg3:¬(1:Int)=g:=by omega
    go_wp2_with fail
    go_roundw
    case rel=>exact ⟨1,by omega,by go_num,H_ (fun j hj=>by
     by_cases e:j=0
     ·subst e;simpa using hg
     ·exact HN.out j (by omega)),HBa,HXa,HAa⟩
    case measure=>simp [intOf]
  ·have k0:wr.cell? ⟨G,2,none⟩=some (.int .i64 2):=HA.out.2 2 (by simp)
   have k1:wr.cell? ⟨G,3,none⟩=some (.func (.func 153) #[] #[]):=HA.out.2 3 (by simp)
   have HBa:=H_ (HB.out.alloc HB.out.size (.cells #[.int .i64 2,.func (.func 153) #[] #[]] 193))
   have HXa:=H_ (HX.out.alloc (.cells #[.int .i64 2,.func (.func 153) #[] #[]] 193))
   have HAa:=H_ (HA.out.alloc (.cells #[.int .i64 2,.func (.func 153) #[] #[]] 193))
   by_cases hg:g=2
   ·subst hg
    have HR2:Hid (R=mx):=H_ (by have h:=HR.out;simpa using h.symm)
    have x0:wr.cell? ⟨w.heap.size,0,none⟩=some (.string a):=HX.out.2 0 (by simp)
    have x1:wr.cell? ⟨w.heap.size,1,none⟩=some (.string m):=HX.out.2 1 (by simp)
    have x2:wr.cell? ⟨w.heap.size,2,none⟩=some (.int .i64 mo):=HX.out.2 2 (by simp)
    have x3:wr.cell? ⟨w.heap.size,3,none⟩=some (.int .i64 ev):=HX.out.2 3 (by simp)
    have x4:wr.cell? ⟨w.heap.size,4,none⟩=some (.int .i64 su):=HX.out.2 4 (by simp)
    have x5:wr.cell? ⟨w.heap.size,5,none⟩=some (.int .i64 mx):=HX.out.2 5 (by simp)
    have x6:wr.cell? ⟨w.heap.size,6,none⟩=some (.slice ta tl tc):=HX.out.2 6 (by simp)
    have x7:wr.cell? ⟨w.heap.size,7,none⟩=some (.slice ha hl hc):=HX.out.2 7 (by simp)
    go_wp2_with fail
    refine (H3.out _).mono ?_
    rintro e w3 ⟨rfl,hb3⟩
    have HB3:=H_ (HBa.out.trans (hb3.mono HBa.out.size))
    clear hb3
    go_wp2_with fail
    go_ret
    exact ⟨ret_int HR2.out.symm,HB3.out⟩
   ·have hg2:((2:Int)==g)=false:=by simp;omega
    have hg3:¬(2:Int)=g:=by omega
    go_wp2_with fail
    go_roundw
    case rel=>exact ⟨2,by omega,by go_num,H_ (fun j hj=>by
     by_cases e:j=1
     ·subst e;simpa using hg
     ·exact HN.out j (by omega)),HBa,HXa,HAa⟩
    case measure=>simp [intOf]
  ·have k0:wr.cell? ⟨G,4,none⟩=some (.int .i64 3):=HA.out.2 4 (by simp)
   have k1:wr.cell? ⟨G,5,none⟩=some (.func (.func 154) #[] #[]):=HA.out.2 5 (by simp)
   have HBa:=H_ (HB.out.alloc HB.out.size (.cells #[.int .i64 3,.func (.func 154) #[] #[]] 193))
   have HXa:=H_ (HX.out.alloc (.cells #[.int .i64 3,.func (.func 154) #[] #[]] 193))
   have HAa:=H_ (HA.out.alloc (.cells #[.int .i64 3,.func (.func 154) #[] #[]] 193))
   by_cases hg:g=3
   ·subst hg
    have HR2:Hid (R=(tl:Int)):=H_ (by have h:=HR.out;simpa using h.symm)
    have x0:wr.cell? ⟨w.heap.size,0,none⟩=some (.string a):=HX.out.2 0 (by simp)
    have x1:wr.cell? ⟨w.heap.size,1,none⟩=some (.string m):=HX.out.2 1 (by simp)
    have x2:wr.cell? ⟨w.heap.size,2,none⟩=some (.int .i64 mo):=HX.out.2 2 (by simp)
    have x3:wr.cell? ⟨w.heap.size,3,none⟩=some (.int .i64 ev):=HX.out.2 3 (by simp)
    have x4:wr.cell? ⟨w.heap.size,4,none⟩=some (.int .i64 su):=HX.out.2 4 (by simp)
    have x5:wr.cell? ⟨w.heap.size,5,none⟩=some (.int .i64 mx):=HX.out.2 5 (by simp)
    have x6:wr.cell? ⟨w.heap.size,6,none⟩=some (.slice ta tl tc):=HX.out.2 6 (by simp)
    have x7:wr.cell? ⟨w.heap.size,7,none⟩=some (.slice ha hl hc):=HX.out.2 7 (by simp)
    go_wp2_with fail
    refine (H4.out _).mono ?_
    rintro e w3 ⟨rfl,hb3⟩
    have HB3:=H_ (HBa.out.trans (hb3.mono HBa.out.size))
    clear hb3
    go_wp2_with fail
    go_ret
    exact ⟨ret_int HR2.out.symm,HB3.out⟩
   ·have hg2:((3:Int)==g)=false:=by simp;omega
    have hg3:¬(3:Int)=g:=by omega
    go_wp2_with fail
    go_roundw
    case rel=>exact ⟨3,by omega,by go_num,H_ (fun j hj=>by
     by_cases e:j=2
     ·subst e;simpa using hg
     ·exact HN.out j (by omega)),HBa,HXa,HAa⟩
    case measure=>simp [intOf]
  ·have k0:wr.cell? ⟨G,6,none⟩=some (.int .i64 4):=HA.out.2 6 (by simp)
   have k1:wr.cell? ⟨G,7,none⟩=some (.func (.func 155) #[] #[]):=HA.out.2 7 (by simp)
   have HBa:=H_ (HB.out.alloc HB.out.size (.cells #[.int .i64 4,.func (.func 155) #[] #[]] 193))
   have HXa:=H_ (HX.out.alloc (.cells #[.int .i64 4,.func (.func 155) #[] #[]] 193))
   have HAa:=H_ (HA.out.alloc (.cells #[.int .i64 4,.func (.func 155) #[] #[]] 193))
   by_cases hg:g=4
   ·subst hg
    have HR2:Hid (R=P):=H_ (by have h:=HR.out;simpa using h.symm)
    have x0:wr.cell? ⟨w.heap.size,0,none⟩=some (.string a):=HX.out.2 0 (by simp)
    have x1:wr.cell? ⟨w.heap.size,1,none⟩=some (.string m):=HX.out.2 1 (by simp)
    have x2:wr.cell? ⟨w.heap.size,2,none⟩=some (.int .i64 mo):=HX.out.2 2 (by simp)
    have x3:wr.cell? ⟨w.heap.size,3,none⟩=some (.int .i64 ev):=HX.out.2 3 (by simp)
    have x4:wr.cell? ⟨w.heap.size,4,none⟩=some (.int .i64 su):=HX.out.2 4 (by simp)
    have x5:wr.cell? ⟨w.heap.size,5,none⟩=some (.int .i64 mx):=HX.out.2 5 (by simp)
    have x6:wr.cell? ⟨w.heap.size,6,none⟩=some (.slice ta tl tc):=HX.out.2 6 (by simp)
    have x7:wr.cell? ⟨w.heap.size,7,none⟩=some (.slice ha hl hc):=HX.out.2 7 (by simp)
    go_wp2_with fail
    refine (H5.out _ HBa.out).mono ?_
    rintro e w3 ⟨rfl,hb3⟩
    have HB3:=H_ (HBa.out.trans (hb3.mono HBa.out.size))
    clear hb3
    go_wp2_with fail
    go_ret
    exact ⟨ret_int HR2.out.symm,HB3.out⟩
   ·have hg2:((4:Int)==g)=false:=by simp;omega
    have hg3:¬(4:Int)=g:=by omega
    go_wp2_with fail
    go_roundw
    case rel=>exact ⟨4,by omega,by go_num,H_ (fun j hj=>by
     by_cases e:j=3
     ·subst e;simpa using hg
     ·exact HN.out j (by omega)),HBa,HXa,HAa⟩
    case measure=>simp [intOf]
  ·have HR2:Hid (R=0):=H_ (by
    have h:=HR.out
    have n0:=HN.out 0 (by omega)
    have n1:=HN.out 1 (by omega)
    have n2:=HN.out 2 (by omega)
    have n3:=HN.out 3 (by omega)
    rw [if_neg (by omega),if_neg (by omega),if_neg (by omega),if_neg (by omega)] at h
    exact h.symm)
   go_wp2_with fail
   go_ret
   exact ⟨ret_int HR2.out.symm,HB.out⟩
theorem value_no (a m:ByteArray) (mo ev su mx:Int) (ta:Option Addr) (tl tc:Nat) (ha:Option Addr) (hl hc:Nat) (g:Int) (w:World)
 (h1:∀W,Below w.heap.size w W→Calls Tryz.prog 92 #[.agg #[.string a,.string m,.int .i64 mo,.int .i64 ev,.int .i64 su,.int .i64 mx,.slice ta tl tc,.slice ha hl hc]] W fun e w'=>e=.returned (.bool false)∧Below W.heap.size W w') :
 Calls Tryz.prog 94 #[.agg #[.string a,.string m,.int .i64 mo,.int .i64 ev,.int .i64 su,.int .i64 mx,.slice ta tl tc,.slice ha hl hc],.int .i64 g] w fun e w'=>e=.returned (.int .i64 0)∧Below w.heap.size w w':=by
 have H1:=H_ h1
 clear h1
 have HB0:Hid (Below w.heap.size w (w.alloc (.cells #[.string a,.string m,.int .i64 mo,.int .i64 ev,.int .i64 su,.int .i64 mx,.slice ta tl tc,.slice ha hl hc] 74))):=H_ ((Below.refl _ _).alloc (Nat.le_refl _) _)
 go_enter Tryz.func94,Tryz.ntmps94
 go_wp2_with fail
 refine (H1.out _ HB0.out).mono ?_
 rintro e w1 ⟨rfl,hb1⟩
 have HB1:=H_ (HB0.out.trans (hb1.mono HB0.out.size))
 clear hb1
 go_wp2_with fail
 go_ret
 exact ⟨rfl,HB1.out⟩
theorem impl_value (x:Wd) (g:Int) (ta:Option Addr) (tc:Nat) (ha:Option Addr) (hc:Nat) (w:World) (h1:x.a.size≤1048576) (h2:x.m.size≤1048576) (h3:x.ts.length≤1048576) (h4:∀t∈x.ts,t.size≤1048576) (h5:x.hs.length≤1048576) (hL:Laid w) (hT:Tgs ta x.ts w) (hH:Hrs ha x.hs w) :
 Calls Tryz.prog 94 #[.agg (wcells x ta tc ha hc),.int .i64 g] w fun e w'=>e=.returned (.int .i64 (valueV x g))∧Below w.heap.size w w':=by
 have hr:=fun W (hW:Below w.heap.size w W)=>impl_window_right x ta tc ha hc W h1 h2 h3 h4 h5 (hL.below hW) (hT.below hW) (hH.below hW)
 unfold valueV valV
 cases hb:wB x
 ·rw [hb] at hr
  exact value_no x.a x.m x.mo x.ev x.su x.mx ta x.ts.length tc ha x.hs.length hc g w hr
 ·rw [hb] at hr
  exact value_in x.a x.m x.mo x.ev x.su x.mx ta x.ts.length tc ha x.hs.length hc g (pk x.hs) w (fun W=>agg1 _ _ _ _ _ _ _ _ _ _ _ _ W) (fun W=>agg2 _ _ _ _ _ _ _ _ _ _ _ _ W) (fun W=>agg3 _ _ _ _ _ _ _ _ _ _ _ _ W) (fun W hW=>impl_peak _ _ _ _ _ _ _ ha x.hs hc W h5 (hH.below hW)) hr
set_option maxRecDepth 100000 in
set_option maxHeartbeats 8000000 in
theorem svalue_in (a m:ByteArray) (mo ev su mx:Int) (ta:Option Addr) (tl tc:Nat) (ha:Option Addr) (hs:List H) (hc:Nat) (g:Int) (w:World) (hlen:hs.length≤1048576) (hH:Hrs ha hs w) :
 Calls Tryz.prog 84 #[.agg #[.string a,.string m,.int .i64 mo,.int .i64 ev,.int .i64 su,.int .i64 mx,.slice ta tl tc,.slice ha hs.length hc],.int .i64 g] w fun e w'=>e=.returned (.int .i64 (if g=1 then su else if g=2 then mx else if g=3 then (tl:Int) else if g=4 then pk hs else 0))∧Below w.heap.size w w':=by
 have HI:=H_ hH
 obtain ⟨hl,hhl⟩:∃hl,hl=hs.length:=⟨_,rfl⟩
 rw [←hhl] at hlen ⊢
 have HL:=H_ hhl
 have HE:Hid (pk (hs.take hl)=pk hs):=H_ (by rw [List.take_of_length_le (by omega)])
 clear hH hhl
 have HB0:Hid (Below w.heap.size w (w.alloc (.cells #[.string a,.string m,.int .i64 mo,.int .i64 ev,.int .i64 su,.int .i64 mx,.slice ta tl tc,.slice ha hl hc] 74))):=H_ ((Below.refl _ _).alloc (Nat.le_refl _) _)
 have HX0:=H_ (Blk.new w [.string a,.string m,.int .i64 mo,.int .i64 ev,.int .i64 su,.int .i64 mx,.slice ta tl tc,.slice ha hl hc] 74)
 by_cases g1:g=1
 ·subst g1
  rw [if_pos rfl]
  go_enter Tryz.func84,Tryz.ntmps84
  go_wp2_with fail
  go_ret
  exact ⟨rfl,HB0.out⟩
 by_cases g2:g=2
 ·subst g2
  rw [if_neg (by omega),if_pos rfl]
  go_enter Tryz.func84,Tryz.ntmps84
  go_wp2_with fail
  go_ret
  exact ⟨rfl,HB0.out⟩
 by_cases g3:g=3
 ·subst g3
  rw [if_neg (by omega),if_neg (by omega),if_pos rfl]
  go_enter Tryz.func84,Tryz.ntmps84
  go_wp2_with fail
  go_ret
  exact ⟨rfl,HB0.out⟩
 by_cases g4:g=4
 ·subst g4
  rw [if_neg (by omega),if_neg (by omega),if_neg (by omega),if_pos rfl]
  generalize pk hs=R at *
  go_enter Tryz.func84,Tryz.ntmps84
  go_wp2_with fail
  go_loopw [5,6] (fun y z wr=>∃k:Nat,k≤hl∧y=.int .i64 (pk (hs.take k))∧z=.int .i64 k∧Hid (Below w.heap.size w wr)∧Hid (Blk w.heap.size [.string a,.string m,.int .i64 mo,.int .i64 ev,.int .i64 su,.int .i64 mx,.slice ta tl tc,.slice ha hl hc] wr)) (fun y z _=>hl-(intOf z).toNat)
  case atStart=>exact ⟨0,by omega,rfl,rfl,HB0,HX0⟩
  case round =>
   obtain ⟨k,hk,rfl,rfl,HB,HX⟩:=hrel
   have hxl:=HX.out.1
   have x7:wr.cell? ⟨w.heap.size,7,none⟩=some (.slice ha hl hc):=HX.out.2 7 (by simp)
   by_cases hlt1:k<hl
   ·have hlt2:(k:Int)<(hl:Int):=by omega
    obtain ⟨b,off,rfl,hbl,c0,c1⟩:=(HI.out.below HB.out).at k (by have:=HL.out;omega)
    have HP:=H_ (pk_take hs k (by have:=HL.out;omega))
    generalize hs.getD k H.zero=X at *
    obtain ⟨xh,xs⟩:=X
    dsimp only at c0 c1 HP
    generalize pk (hs.take k)=T at *
    have HM:=H_ (fun w=>smax_any T xs w)
    generalize grt T xs=T2 at *
    go_wp2_with fail
    refine (HM.out _).mono ?_
    rintro e w2 ⟨rfl,rfl⟩
    go_wp2_with fail
    go_roundw
    case rel=>exact ⟨k+1,by omega,by rw [HP.out],by go_num,HB,HX⟩
    case measure=>simp [intOf];omega
   ·have hlt2:¬(k:Int)<(hl:Int):=by omega
    obtain rfl:k=hl:=by omega
    have HE2:=HE.out
    generalize pk (hs.take k)=T at *
    subst HE2
    go_wp2_with fail
    go_ret
    exact ⟨rfl,HB.out⟩
 ·rw [if_neg g1,if_neg g2,if_neg g3,if_neg g4]
  have q1:(g==1)=false:=by simpa using g1
  have q2:(g==2)=false:=by simpa using g2
  have q3:(g==3)=false:=by simpa using g3
  have q4:(g==4)=false:=by simpa using g4
  go_enter Tryz.func84,Tryz.ntmps84
  go_wp2_with fail
  go_ret
  exact ⟨rfl,HB0.out⟩
end WinR
end Go.Proofs.YtcilbmhkhllmjaaGreatDoor
namespace Go.Proofs.YtcilbmhkhllmjaaGreatDoor
open Go.RowKit
set_option linter.unusedVariables false
namespace CatR
open ClampR (clamp)
def mn (a b:Int):Int:=if a<b then a else b
def mx (a b:Int):Int:=if a<b then b else a
def amt (m:Me) (u:Int):Int:=mx (u-m.f) 0
def part (ts:List Ti) (n:Int) (i:Nat):Int:=clamp n (tA ts i) (tU ts i)-tA ts i
def ps (ts:List Ti) (n:Int):Nat→Int
 | 0=>0
 | k+1=>ps ts n k+part ts n k*tP ts k
def wc (ts:List Ti) (n:Int):Int:=match ts.find? (fun t=>decide (n≤t.u)) with
 | some t=>n*t.p
 | none=>0
def bs (m:Me) (u:Int):Int:=bif m.wh then wc m.ts (amt m u) else ps m.ts (amt m u) m.ts.length
def rt (m:Me) (u:Int):Int:=if 0<u then mx (bs m u) m.l else bs m u
theorem part_bd {ts:List Ti} (h:TRight ts) {n:Int} (hn:0≤n) (i:Nat) (hi:i<ts.length):0≤part ts n i∧part ts n i≤1000000000000∧part ts n i=mn n (tU ts i)-mn n (tA ts i):=by
 have h1:=h.upto i hi
 have h2:=(h.2.2.1 i hi).1
 have h3:=(h.2.2.1.rise i (by omega)).1
 unfold part clamp mn
 split<;>(try split)<;>(try split)<;>(try split)<;>omega
theorem pr_bd {ts:List Ti} (h:TRight ts) (i:Nat) (hi:i<ts.length):0≤tP ts i∧tP ts i≤1000000:=(h.2.2.1 i hi).2
theorem mul_bd {a p:Int} (ha:0≤a) (hp:0≤p∧p≤1000000):0≤a*p∧a*p≤1000000*a:=by
 refine ⟨Int.mul_nonneg ha hp.1,?_⟩
 have:=Int.mul_le_mul_of_nonneg_left hp.2 ha
 omega
theorem ps_bd {ts:List Ti} (h:TRight ts) {n:Int} (hn:0≤n):∀k,k≤ts.length→0≤ps ts n k∧ps ts n k≤1000000*mn n (tA ts k)
 | 0,_=>by simp only [ps,tA];unfold mn;split<;>omega
 | k+1,hk=>by
  have h1:=ps_bd h hn k (by omega)
  have h2:=part_bd h hn k (by omega)
  have h3:=mul_bd h2.1 (pr_bd h k (by omega))
  have e:tA ts (k+1)=tU ts k:=rfl
  simp only [ps]
  rw [e]
  omega
theorem ps_mono {ts:List Ti} (h:TRight ts) {n:Int} (hn:0≤n):∀k j,k≤ts.length→j≤k→ps ts n j≤ps ts n k
 | 0,j,_,hj=>by
  obtain rfl:j=0:=by omega
  exact Int.le_refl _
 | k+1,j,hk,hj=>by
  by_cases e:j=k+1
  ·subst e;exact Int.le_refl _
  ·have h1:=ps_mono h hn k j (by omega) (by omega)
   have h2:=part_bd h hn k (by omega)
   have h3:=mul_bd h2.1 (pr_bd h k (by omega))
   simp only [ps]
   omega
theorem ps_all {ts:List Ti} (h:TRight ts) {n:Int} (hn:0≤n∧n≤1000000000000) (k:Nat) (hk:k≤ts.length):0≤ps ts n k∧ps ts n k≤1000000000000000000:=by
 have:=ps_bd h hn.1 k hk
 have e:mn n (tA ts k)≤1000000000000:=by unfold mn;split<;>omega
 omega
def At (ts:List Ti) (n:Int) (k:Nat):Prop:=k<ts.length∧(∀i,i<k→tU ts i<n)∧n≤tU ts k
theorem wc_at {ts:List Ti} {n:Int}:∀{k:Nat},At ts n k→wc ts n=n*tP ts k:=by
 induction ts with
 | nil=>intro k h;exact absurd h.1 (by simp)
 | cons t ts ih =>
  intro k h
  obtain ⟨h1,h2,h3⟩:=h
  cases k with
  | zero =>
   have e:n≤t.u:=h3
   unfold wc
   rw [List.find?_cons_of_pos (by simpa using e)]
   rfl
  | succ k =>
   have e:t.u<n:=h2 0 (by omega)
   have:=ih (k:=k) ⟨by simpa using h1,fun i hi=>h2 (i+1) (by omega),h3⟩
   unfold wc at this ⊢
   rw [List.find?_cons_of_neg (by simp;omega),this]
   rfl
theorem wc_bd {ts:List Ti} (h:TRight ts) {n:Int} (hn:0≤n∧n≤1000000000000) {k:Nat} (hk:k<ts.length):0≤n*tP ts k∧n*tP ts k≤1000000000000000000:=by
 have:=mul_bd hn.1 (pr_bd h k hk)
 omega
theorem not_all {ts:List Ti} (h:TRight ts) {n:Int} (hn:n≤1000000000000) {k:Nat} (hk:k≤ts.length) (ha:∀i,i<k→tU ts i<n):k<ts.length:=by
 by_cases e:k<ts.length
 ·exact e
 ·obtain rfl:k=ts.length:=by omega
  obtain ⟨j,hj⟩:∃j,ts.length=j+1:=⟨ts.length-1,by have:=h.1;omega⟩
  have h1:=ha j (by omega)
  have h2:=h.2.2.2
  rw [hj] at h2
  have e:tA ts (j+1)=tU ts j:=rfl
  omega
theorem at_ex {ts:List Ti} (h:TRight ts) {n:Int} (hn:n≤1000000000000):∃k,At ts n k:=by
 have key:∀j,j≤ts.length→(∃k,At ts n k)∨∀i,i<j→tU ts i<n:=by
  intro j
  induction j with
  | zero=>intro _;exact .inr (fun i hi=>absurd hi (by omega))
  | succ j ih =>
   intro hj
   rcases ih (by omega) with h1|h1
   ·exact .inl h1
   ·by_cases e:tU ts j<n
    ·refine .inr (fun i hi=>?_)
     by_cases q:i=j
     ·subst q;exact e
     ·exact h1 i (by omega)
    ·exact .inl ⟨j,by omega,h1,by omega⟩
 rcases key ts.length (Nat.le_refl _) with h1|h1
 ·exact h1
 ·exact absurd (not_all h hn (Nat.le_refl _) h1) (by omega)
theorem amt_bd {m:Me} (hf:0≤m.f∧m.f≤1000000000) {u:Int} (hu:0≤u∧u≤1000000000000):0≤amt m u∧amt m u≤1000000000000:=by
 unfold amt mx
 split<;>omega
theorem bs_bd {m:Me} (h:MRight m) {u:Int} (hu:0≤u∧u≤1000000000000):0≤bs m u∧bs m u≤1000000000000000000:=by
 obtain ⟨_,_,hf,_,ht⟩:=h
 have ha:=amt_bd hf hu
 unfold bs
 cases m.wh
 ·exact ps_all ht ha _ (Nat.le_refl _)
 ·obtain ⟨k,hk⟩:=at_ex ht ha.2
  simp only [cond_true]
  rw [wc_at hk]
  exact wc_bd ht ha hk.1
theorem rt_bd {m:Me} (h:MRight m) {u:Int} (hu:0≤u∧u≤1000000000000):0≤rt m u∧rt m u≤1000000000000000000∧bs m u≤rt m u:=by
 have h1:=bs_bd h hu
 have h2:=h.2.2.2.1
 unfold rt mx
 split<;>(try split)<;>omega
def rO (m:Me) (u:Int):Int × Int:=if rt m u≤1000000000000000 then (rt m u,0) else (0,12)
end CatR
end Go.Proofs.YtcilbmhkhllmjaaGreatDoor
namespace Go.Proofs.YtcilbmhkhllmjaaGreatDoor
open Go.ChangeShapes Go.WideShapes Go.ChangeAt Go.RowKit
set_option linter.unusedVariables false
namespace FixR
theorem H_ {p:Prop} (h:p):Hid p:=h
def Laid (w:World):Prop:=2<w.heap.size∧∃(u:TypeId) (x:Value),w.cell? ⟨2,0,none⟩=some (.iface u x)
theorem Laid.below {w w':World} (h:Laid w) (hb:Below w.heap.size w w'):Laid w':=by
 obtain ⟨h0,u,x,hc⟩:=h
 exact ⟨by have:=hb.size;omega,u,x,by rw [hb.cell (p:=⟨2,0,none⟩) h0];exact hc⟩
def out (n code:Int):Value:=.agg #[.int .i64 n,.int .i64 0,.int .i64 code]
def In (n:Int):Prop:=-1000000000000000≤n∧n≤1000000000000000
theorem held_in (n low high:Int) (h:low≤n∧n≤high) (w:World) :
 Calls Tryz.prog 157 #[.int .i64 n,.int .i64 low,.int .i64 high] w fun e w'=>e=.returned (.int .i64 n)∧w'=w:=by
 obtain ⟨h1,h2⟩:=h
 go_enter Tryz.func157,Tryz.ntmps157
 go_wp2
 go_ret
 exact ⟨rfl,rfl⟩
def Thrown (e:Ending):Prop:=∃(u:TypeId) (x:Value),e=.panicked [{v:=.iface u x,recovered:=false}]
theorem held_out (n low high:Int) (h:n<low∨high<n) (w:World) (hL:Laid w) :
 Calls Tryz.prog 157 #[.int .i64 n,.int .i64 low,.int .i64 high] w fun e w'=>Thrown e∧w'=w:=by
 obtain ⟨h0,u,x,hc⟩:=hL
 have hp:2<w.heap.size:=h0
 rcases h with h|h
 ·have h1:¬low≤n:=by omega
  go_enter Tryz.func157,Tryz.ntmps157
  go_wp2
  exact ⟨rfl,⟨u,x,rfl⟩,rfl⟩
 ·have h2:¬n≤high:=by omega
  by_cases h1:low≤n
  all_goals
   go_enter Tryz.func157,Tryz.ntmps157
   go_wp2
   exact ⟨rfl,⟨u,x,rfl⟩,rfl⟩
theorem catch_panicking (p:Nat) (x y z:Int) (u:TypeId) (pv:Value) (w:World) (h0:w.cell? ⟨p,0,none⟩=some (.int .i64 x)) (h1:w.cell? ⟨p,1,none⟩=some (.int .i64 y)) (h2:w.cell? ⟨p,2,none⟩=some (.int .i64 z)) (z0:w.frozen? ⟨p,0,none⟩=false) (z1:w.frozen? ⟨p,1,none⟩=false) (z2:w.frozen? ⟨p,2,none⟩=false) :
 CallsD Tryz.prog 156 #[.pointer (some ⟨p,0,none⟩)] (.panicking [{v:=.iface u pv,recovered:=false}]) w fun e u' w' =>
  e=.returned (.tuple #[])∧u'=.panicking [{v:=.iface u pv,recovered:=true}]∧w'=((w.setCell ⟨p,0,none⟩ (.int .i64 0)).setCell ⟨p,1,none⟩ (.int .i64 0)).setCell ⟨p,2,none⟩ (.int .i64 12):=by
 refine callsD_of_wpS Tryz.func156 rfl fun c₀ cs hu=>?_
 apply wpS_seq
 apply wpS_region
 simp [wpOpsS,go_sem,recoverD,hu,Tryz.ntmps156,Exit.thenS]
 refine wpS_cond (t:=true) (by simp [Act.eval,Array.replicate]) ?_
 simp only [if_true]
 apply wpS_region
 simp [wpOpsS,go_sem,h0,h1,h2,z0,z1,z2,bodyPostS,results,Tryz.results156]
theorem catch_idle (p:Addr) (w:World) :
 CallsD Tryz.prog 156 #[.pointer (some p)] .returning w fun e u' w'=>e=.returned (.tuple #[])∧u'=.returning∧w'=w:=by
 refine callsD_of_wpS Tryz.func156 rfl fun c₀ cs hu=>?_
 apply wpS_seq
 apply wpS_region
 simp [wpOpsS,go_sem,recoverD,hu,Tryz.ntmps156,Exit.thenS]
 refine wpS_cond (t:=false) (by simp [Act.eval,Array.replicate]) ?_
 simp only [Bool.false_eq_true,if_false]
 refine wpS_of_wp (wp_skip ?_)
 cases c₀
 simp_all [bodyPostS,results,Tryz.results156]
theorem reckoned_ok (g:FuncId) (cap:Array Value) (v:Int) (hv:In v) (w:World)
 (hf:∀w1,Below w.heap.size w w1→Calls Tryz.prog g cap w1 fun e w2=>e=.returned (.int .i64 v)∧Below w1.heap.size w1 w2) (he:∀args w,(callFunc g args).run Tryz.prog w=.ok (.enter g args) w) :
 Calls Tryz.prog 127 #[.func (.func g) #[] cap] w fun e w'=>e=.returned (out v 0)∧Below w.heap.size w w':=by
 have hmf:∀(fn:Fn) (first cap:Array Value) (w:World),(Instr.makeFunc fn first cap).run Tryz.prog w=.ok (.func fn first cap) w:=fun _ _ _ _=>rfl
 obtain ⟨W,hW⟩:∃W,W=w.alloc (Obj.cells #[.int .i64 0,.int .i64 0,.int .i64 0] 125):=⟨_,rfl⟩
 have hb1:Below w.heap.size w W:=by rw [hW];exact (Below.refl _ _).alloc (Nat.le_refl _) _
 have hs1:W.heap.size=w.heap.size+1:=by rw [hW];simp
 have c0:W.cell? ⟨w.heap.size,0,none⟩=some (.int .i64 0):=by rw [hW];simp [go_sem]
 have c1:W.cell? ⟨w.heap.size,1,none⟩=some (.int .i64 0):=by rw [hW];simp [go_sem]
 have c2:W.cell? ⟨w.heap.size,2,none⟩=some (.int .i64 0):=by rw [hW];simp [go_sem]
 have z0:W.frozen? ⟨w.heap.size,0,none⟩=false:=by rw [hW];simp [go_sem]
 have z1:W.frozen? ⟨w.heap.size,1,none⟩=false:=by rw [hW];simp [go_sem]
 have z2:W.frozen? ⟨w.heap.size,2,none⟩=false:=by rw [hW];simp [go_sem]
 have HW:=H_ hW
 have HB1:=H_ hb1
 have HF:=H_ (hf W hb1)
 clear hf hW hb1
 go_enter_defers Tryz.func127,Tryz.ntmps127
 go_wp2
 rw [←HW.out]
 refine HF.out.mono ?_
 rintro e w2 ⟨rfl,hb⟩
 have d0:=hb.cell (p:=⟨w.heap.size,0,none⟩) (by simp;omega)
 have d1:=hb.cell (p:=⟨w.heap.size,1,none⟩) (by simp;omega)
 have d2:=hb.cell (p:=⟨w.heap.size,2,none⟩) (by simp;omega)
 have y0:=hb.frozen (p:=⟨w.heap.size,0,none⟩) (by simp;omega)
 have y1:=hb.frozen (p:=⟨w.heap.size,1,none⟩) (by simp;omega)
 have y2:=hb.frozen (p:=⟨w.heap.size,2,none⟩) (by simp;omega)
 rw [c0] at d0;rw [c1] at d1;rw [c2] at d2;rw [z0] at y0;rw [z1] at y1;rw [z2] at y2
 have HB:=H_ (HB1.out.trans (hb.mono (by omega)))
 clear hb c0 c1 c2 z0 z1 z2 hs1 HW
 go_wp2_with (go_at_call 157;refine (held_in _ _ _ hv _).mono ?_;rintro e w' ⟨rfl,rfl⟩)
 refine leaves_cons (f:=156) (args:=#[.pointer (some ⟨w.heap.size,0,none⟩)]) (by simp) (by simp [go_sem]) ?_
 refine (catch_idle ⟨w.heap.size,0,none⟩ _).mono ?_
 rintro e u' w'' ⟨rfl,rfl,rfl⟩
 simp [Leaves,settle,results,Tryz.results127,go_sem,d0,d1,d2]
 exact ⟨rfl,((HB.out.setCell (Nat.le_refl _) _).setCell (Nat.le_refl _) _).setCell (Nat.le_refl _) _⟩
theorem reckoned_over (g:FuncId) (cap:Array Value) (w:World) (hL:Laid w)
 (hf:∀w1,Below w.heap.size w w1→Calls Tryz.prog g cap w1 fun e w2=>((∃v:Int,e=.returned (.int .i64 v)∧¬In v)∨Thrown e)∧Below w1.heap.size w1 w2) (he:∀args w,(callFunc g args).run Tryz.prog w=.ok (.enter g args) w) :
 Calls Tryz.prog 127 #[.func (.func g) #[] cap] w fun e w'=>e=.returned (out 0 12)∧Below w.heap.size w w':=by
 have hmf:∀(fn:Fn) (first cap:Array Value) (w:World),(Instr.makeFunc fn first cap).run Tryz.prog w=.ok (.func fn first cap) w:=fun _ _ _ _=>rfl
 obtain ⟨W,hW⟩:∃W,W=w.alloc (Obj.cells #[.int .i64 0,.int .i64 0,.int .i64 0] 125):=⟨_,rfl⟩
 have hb1:Below w.heap.size w W:=by rw [hW];exact (Below.refl _ _).alloc (Nat.le_refl _) _
 have hs1:W.heap.size=w.heap.size+1:=by rw [hW];simp
 have c0:W.cell? ⟨w.heap.size,0,none⟩=some (.int .i64 0):=by rw [hW];simp [go_sem]
 have c1:W.cell? ⟨w.heap.size,1,none⟩=some (.int .i64 0):=by rw [hW];simp [go_sem]
 have c2:W.cell? ⟨w.heap.size,2,none⟩=some (.int .i64 0):=by rw [hW];simp [go_sem]
 have z0:W.frozen? ⟨w.heap.size,0,none⟩=false:=by rw [hW];simp [go_sem]
 have z1:W.frozen? ⟨w.heap.size,1,none⟩=false:=by rw [hW];simp [go_sem]
 have z2:W.frozen? ⟨w.heap.size,2,none⟩=false:=by rw [hW];simp [go_sem]
 have HW:=H_ hW
 have HB1:=H_ hb1
 have HF:=H_ (hf W hb1)
 clear hf hW hb1
 go_enter_defers Tryz.func127,Tryz.ntmps127
 go_wp2
 rw [←HW.out]
 refine HF.out.mono ?_
 rintro e w2 ⟨hv,hb⟩
 have d0:=hb.cell (p:=⟨w.heap.size,0,none⟩) (by simp;omega)
 have d1:=hb.cell (p:=⟨w.heap.size,1,none⟩) (by simp;omega)
 have d2:=hb.cell (p:=⟨w.heap.size,2,none⟩) (by simp;omega)
 have y0:=hb.frozen (p:=⟨w.heap.size,0,none⟩) (by simp;omega)
 have y1:=hb.frozen (p:=⟨w.heap.size,1,none⟩) (by simp;omega)
 have y2:=hb.frozen (p:=⟨w.heap.size,2,none⟩) (by simp;omega)
 rw [c0] at d0;rw [c1] at d1;rw [c2] at d2;rw [z0] at y0;rw [z1] at y1;rw [z2] at y2
 have HB:=H_ (HB1.out.trans (hb.mono (by omega)))
 have HL:=H_ (hL.below HB.out)
 clear hL hb c0 c1 c2 z0 z1 z2 hs1 HW
 rcases hv with ⟨v,rfl,hv⟩|⟨u,x,rfl⟩
 ·have hv':v < -1000000000000000∨1000000000000000<v:=by unfold In at hv;omega
  go_wp2_with (go_at_call 157;refine (held_out _ _ _ hv' _ HL.out).mono ?_;rintro e w' ⟨⟨u,x,rfl⟩,rfl⟩)
  try go_wp2
  refine leaves_cons (f:=156) (args:=#[.pointer (some ⟨w.heap.size,0,none⟩)]) (by simp) (by simp [go_sem]) ?_
  refine (catch_panicking w.heap.size 0 0 0 _ _ _ d0 d1 d2 y0 y1 y2).mono ?_
  rintro e u' w'' ⟨rfl,rfl,rfl⟩
  simp [Leaves,settle,results,Tryz.results127,go_sem,d0,d1,d2]
  exact ⟨rfl,((HB.out.setCell (Nat.le_refl _) _).setCell (Nat.le_refl _) _).setCell (Nat.le_refl _) _⟩
 ·try go_wp2
  refine leaves_cons (f:=156) (args:=#[.pointer (some ⟨w.heap.size,0,none⟩)]) (by simp) (by simp [go_sem]) ?_
  refine (catch_panicking w.heap.size 0 0 0 _ _ _ d0 d1 d2 y0 y1 y2).mono ?_
  rintro e u' w'' ⟨rfl,rfl,rfl⟩
  simp [Leaves,settle,results,Tryz.results127,go_sem,d0,d1,d2]
  exact ⟨rfl,((HB.out.setCell (Nat.le_refl _) _).setCell (Nat.le_refl _) _).setCell (Nat.le_refl _) _⟩
end FixR
namespace FixR
theorem w64t (x:Int) (h:-9223372036854775808≤x∧x≤9223372036854775807):wrap64 x=x:=by unfold wrap64;omega
def abs (a:Int):Int:=if a<0 then -a else a
theorem abs_bd (a:Int) (h:In a) (h0:a≠0):1≤abs a∧abs a≤1000000000000000:=by unfold abs;unfold In at h;split<;>omega
theorem most_bd (s:Int) (h:1≤s):0≤(1000000000000000:Int).tdiv s∧(1000000000000000:Int).tdiv s≤1000000000000000:=by
 rw [Int.tdiv_eq_ediv_of_nonneg (by omega)]
 constructor
 ·exact Int.ediv_nonneg (by omega) (by omega)
 ·apply Int.ediv_le_of_le_mul (by omega)
  have:=Int.mul_le_mul_of_nonneg_left h (show (0:Int)≤1000000000000000 by omega)
  omega
theorem le_most (b s:Int) (h:1≤s):b≤(1000000000000000:Int).tdiv s↔b*s≤1000000000000000:=by
 rw [Int.tdiv_eq_ediv_of_nonneg (by omega)]
 exact Int.le_ediv_iff_mul_le (by omega)
theorem in_prod (a b:Int) (h0:a≠0) (ha:In a):In (a*b)↔(-(1000000000000000:Int).tdiv (abs a)≤b∧b≤(1000000000000000:Int).tdiv (abs a)):=by
 have h1:=(abs_bd a ha h0).1
 have e1:=le_most b (abs a) h1
 have e2:=le_most (-b) (abs a) h1
 have e3:-(1000000000000000:Int).tdiv (abs a)≤b↔-b≤(1000000000000000:Int).tdiv (abs a):=by omega
 rw [e3,e1,e2]
 unfold In abs
 by_cases h:a<0
 ·rw [if_pos h]
  have f1:b * -a=-(a*b):=by rw [Int.mul_neg,Int.mul_comm]
  have f2:-b * -a=a*b:=by rw [Int.neg_mul_neg,Int.mul_comm]
  rw [f1,f2];omega
 ·rw [if_neg h]
  have f1:b*a=a*b:=Int.mul_comm _ _
  have f2:-b*a=-(a*b):=by rw [Int.neg_mul,Int.mul_comm]
  rw [f1,f2];omega
theorem prod_facts (a b:Int) (h0:a≠0) (ha:In a):∃s m:Int,s=abs a∧(1000000000000000:Int).tdiv s=m∧¬s=0∧wrap64 m=m∧wrap64 (-m)=-m∧(In (a*b)↔(-m≤b∧b≤m)):=by
 have hs:=(abs_bd a ha h0).1
 have hm:=most_bd _ hs
 refine ⟨_,_,rfl,rfl,?_,w64t _ ⟨?_,?_⟩,w64t _ ⟨?_,?_⟩,in_prod a b h0 ha⟩<;>omega
theorem sizeOf_any (a:Int) (h:In a) (w:World) :
 Calls Tryz.prog 205 #[.int .i64 a] w fun e w'=>e=.returned (.int .i64 (abs a))∧w'=w:=by
 have e:wrap64 (-a)=-a:=w64t _ (by unfold In at h;omega)
 unfold abs
 clear h
 by_cases h:a<0
 ·rw [if_pos h]
  have h2:-a>a:=by omega
  go_enter Tryz.func205,Tryz.ntmps205
  go_wp2
  go_ret
  refine ⟨ret_int ?_,rfl⟩
  first|rfl|(split<;>omega)|omega
 ·rw [if_neg h]
  have h2:¬-a>a:=by omega
  go_enter Tryz.func205,Tryz.ntmps205
  go_wp2
  go_ret
  refine ⟨ret_int ?_,rfl⟩
  first|rfl|(split<;>omega)|omega
set_option maxHeartbeats 4000000 in
theorem product_in (a b:Int) (ha:In a) (hb:In b) (hv:In (a*b)) (w:World) :
 Calls Tryz.prog 192 #[.int .i64 a,.int .i64 b] w fun e w'=>e=.returned (.int .i64 (a*b))∧w'=w:=by
 by_cases h0:a=0
 ·subst h0
  rw [Int.zero_mul]
  go_enter Tryz.func192,Tryz.ntmps192
  go_wp2
  go_ret
  exact ⟨rfl,rfl⟩
 ·have hz:(a==0)=false:=by simpa using h0
  have hq:=fun w=>sizeOf_any a ha w
  obtain ⟨s,m,hs,ht,hs0,e1,e2,hi⟩:=prod_facts a b h0 ha
  rw [←hs] at hq
  have hd:=fun w=>held_in b (-m) m (hi.1 hv) w
  have e3:wrap64 (a*b)=a*b:=w64t _ (by unfold In at hv;omega)
  clear hv ha hb hs hi
  go_enter Tryz.func192,Tryz.ntmps192
  go_wp2_with (first|(go_at_call 205;refine (hq _).mono ?_;rintro e w1 ⟨rfl,rfl⟩)|(go_at_call 157;refine (hd _).mono ?_;rintro e w2 ⟨rfl,rfl⟩))
  go_ret
  exact ⟨ret_int e3,rfl⟩
set_option maxHeartbeats 4000000 in
theorem product_over (a b:Int) (ha:In a) (hb:In b) (hv:¬In (a*b)) (w:World) (hL:Laid w) :
 Calls Tryz.prog 192 #[.int .i64 a,.int .i64 b] w fun e w'=>Thrown e∧w'=w:=by
 by_cases h0:a=0
 ·subst h0
  rw [Int.zero_mul] at hv
  exact absurd (show In 0 by unfold In;omega) hv
 ·have hz:(a==0)=false:=by simpa using h0
  have hq:=fun w=>sizeOf_any a ha w
  obtain ⟨s,m,hs,ht,hs0,e1,e2,hi⟩:=prod_facts a b h0 ha
  rw [←hs] at hq
  have hn:b < -m∨m<b:=by have:=mt hi.2 hv;omega
  have hd:=held_out b (-m) m hn w hL
  clear hv ha hb hs hL hi hn
  go_enter Tryz.func192,Tryz.ntmps192
  go_wp2_with (first|(go_at_call 205;refine (hq _).mono ?_;rintro e w1 ⟨rfl,rfl⟩)|(go_at_call 157;refine hd.mono ?_;rintro e w2 ⟨⟨u,x,rfl⟩,rfl⟩))
  exact ⟨rfl,⟨u,x,rfl⟩,rfl⟩
end FixR
namespace CatR
theorem five (b1 b2 b3 b4 b5:Bool):(b1=false)∨(b1=true∧b2=false)∨(b1=true∧b2=true∧b3=false)∨(b1=true∧b2=true∧b3=true∧b4=false)∨(b1=true∧b2=true∧b3=true∧b4=true):=by
 cases b1<;>cases b2<;>cases b3<;>cases b4<;>simp
set_option maxRecDepth 100000 in
set_option maxHeartbeats 4000000 in
theorem impl_meter (v:Value) (m:Me) (w:World) (hn:m.n.size≤1048576) (hl:m.ts.length≤1048576) (hM:IsMe v m w) :
 Calls Tryz.prog 122 #[v] w fun e w'=>e=.returned (.bool (mB m))∧Below w.heap.size w w':=by
 obtain ⟨ta,tc,rfl,hT⟩:=hM
 rw [mB_eq]
 obtain ⟨n,g,wh,f,l,ts⟩:=m
 simp only at *
 have H1:=H_ (fun w=>NameR.impl_any n w hn)
 have H2:=H_ (fun w=>within64 g 1 4 w)
 have H3:=H_ (fun w=>within64 f 0 1000000000 w)
 have H4:=H_ (fun w=>within64 l 0 1000000000000 w)
 have H5:Hid (∀W,Below w.heap.size w W→Calls Tryz.prog 144 #[.slice ta ts.length tc] W fun e w'=>e=.returned (.bool (tB ts))∧Below W.heap.size W w'):=H_ (fun W hW=>impl_tiers ta ts.length tc ts W hl (hT.below hW))
 have HB:Hid (Below w.heap.size w (w.alloc (.cells #[.string n,.int .i64 g,.bool wh,.int .i64 f,.int .i64 l,.slice ta ts.length tc] 117))):=H_ ((Below.refl _ _).alloc (Nat.le_refl _) _)
 generalize NameR.nameB n=b1 at *
 generalize decide (1≤g∧g≤4)=b2 at *
 generalize decide (0≤f∧f≤1000000000)=b3 at *
 generalize decide (0≤l∧l≤1000000000000)=b4 at *
 generalize tB ts=b5 at *
 clear hT hn hl
 generalize ts.length=tl at *
 rcases five b1 b2 b3 b4 b5 with rfl|⟨rfl,rfl⟩|⟨rfl,rfl,rfl⟩|⟨rfl,rfl,rfl,rfl⟩|⟨rfl,rfl,rfl,rfl⟩
 all_goals
  go_enter Tryz.func122,Tryz.ntmps122
  go_wp2_with (first|(go_at_call 42;refine (H1.out _).mono ?_;rintro e w' ⟨rfl,rfl⟩)|(go_at_call_of 66 (Value.int .i64 g);refine (H2.out _).mono ?_;rintro e w' ⟨rfl,rfl⟩)|(go_at_call_of 66 (Value.int .i64 f);refine (H3.out _).mono ?_;rintro e w' ⟨rfl,rfl⟩)|(go_at_call_of 66 (Value.int .i64 l);refine (H4.out _).mono ?_;rintro e w' ⟨rfl,rfl⟩)|(go_at_call 144;refine (H5.out _ HB.out).mono ?_;rintro e w2 ⟨rfl,hb2⟩))
  go_ret
  exact ⟨ret_bool (by simp),by first|exact bel_alloc hb2|exact HB.out⟩
set_option maxRecDepth 100000 in
set_option maxHeartbeats 4000000 in
theorem spec_meter (v:Value) (m:Me) (w:World) (hn:m.n.size≤1048576) (hl:m.ts.length≤1048576) (hM:IsMe v m w) :
 Calls Tryz.prog 77 #[v] w fun e w'=>e=.returned (.bool (mB m))∧Below w.heap.size w w':=by
 obtain ⟨ta,tc,rfl,hT⟩:=hM
 rw [mB_eq]
 obtain ⟨n,g,wh,f,l,ts⟩:=m
 simp only at *
 have H1:=H_ (fun w=>NameR.spec_any n w hn)
 have H2:=H_ (fun w=>isS g 1 4 w)
 have H3:=H_ (fun w=>isS f 0 1000000000 w)
 have H4:=H_ (fun w=>isS l 0 1000000000000 w)
 have H5:Hid (∀W,Below w.heap.size w W→Calls Tryz.prog 112 #[.slice ta ts.length tc] W fun e w'=>e=.returned (.bool (tB ts))∧Below W.heap.size W w'):=H_ (fun W hW=>spec_tiers ta ts.length tc ts W hl (hT.below hW))
 have HB:Hid (Below w.heap.size w (w.alloc (.cells #[.string n,.int .i64 g,.bool wh,.int .i64 f,.int .i64 l,.slice ta ts.length tc] 117))):=H_ ((Below.refl _ _).alloc (Nat.le_refl _) _)
 generalize NameR.nameB n=b1 at *
 generalize decide (1≤g∧g≤4)=b2 at *
 generalize decide (0≤f∧f≤1000000000)=b3 at *
 generalize decide (0≤l∧l≤1000000000000)=b4 at *
 generalize tB ts=b5 at *
 clear hT hn hl
 generalize ts.length=tl at *
 rcases five b1 b2 b3 b4 b5 with rfl|⟨rfl,rfl⟩|⟨rfl,rfl,rfl⟩|⟨rfl,rfl,rfl,rfl⟩|⟨rfl,rfl,rfl,rfl⟩
 all_goals
  go_enter Tryz.func77,Tryz.ntmps77
  go_wp2_with (first|(go_at_call 35;refine (H1.out _).mono ?_;rintro e w' ⟨rfl,rfl⟩)|(go_at_call_of 69 (Value.int .i64 g);refine (H2.out _).mono ?_;rintro e w' ⟨rfl,rfl⟩)|(go_at_call_of 69 (Value.int .i64 f);refine (H3.out _).mono ?_;rintro e w' ⟨rfl,rfl⟩)|(go_at_call_of 69 (Value.int .i64 l);refine (H4.out _).mono ?_;rintro e w' ⟨rfl,rfl⟩)|(go_at_call 112;refine (H5.out _ HB.out).mono ?_;rintro e w2 ⟨rfl,hb2⟩))
  go_ret
  exact ⟨ret_bool (by simp),by first|exact bel_alloc hb2|exact HB.out⟩
end CatR
end Go.Proofs.YtcilbmhkhllmjaaGreatDoor
