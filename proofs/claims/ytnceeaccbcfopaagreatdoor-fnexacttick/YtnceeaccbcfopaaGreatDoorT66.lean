/-
  The program's rising lists: whether hours rise. The condition: at most 1048576 of them.
-/
import Derived.Test.YtnceeaccbcfopaaGreatDoorT65
namespace Go.Proofs.YtnceeaccbcfopaaGreatDoor
open Go.ChangeShapes Go.WideShapes Go.ChangeAt Go.RowKit
set_option linter.unusedVariables false
namespace WinR
open RowG LtR
open CatR (Blk Blk.new)
def HSt (w:World) (ao:Option Addr) (len cap:Nat) (b o1 o2:Nat) (x y:H) (W:World):Prop:=Below w.heap.size w W∧w.heap.size<W.heap.size∧b<W.heap.size∧W.cell? ⟨w.heap.size,0,none⟩=some (.slice ao len cap)∧W.cell? ⟨w.heap.size,1,none⟩=some (.func (.func 214) #[] #[])∧W.cell? ⟨w.heap.size,2,none⟩=some (.func (.func 215) #[] #[])∧W.cell? ⟨b,o1,none⟩=some (.int .i64 x.h)∧W.cell? ⟨b,o1+1,none⟩=some (.int .i64 x.s)∧W.cell? ⟨b,o2,none⟩=some (.int .i64 y.h)∧W.cell? ⟨b,o2+1,none⟩=some (.int .i64 y.s)
theorem HSt.below {w:World} {ao:Option Addr} {len cap b o1 o2:Nat} {x y:H} {W W':World} (h:HSt w ao len cap b o1 o2 x y W) (hb:Below W.heap.size W W'):HSt w ao len cap b o1 o2 x y W':=by
 obtain ⟨h0,h1,h2,c0,c1,c2,d0,d1,d2,d3⟩:=h
 have c:=fun o=>hb.cell (p:=⟨w.heap.size,o,none⟩) h1
 have d:=fun o=>hb.cell (p:=⟨b,o,none⟩) h2
 have:=hb.size
 exact ⟨h0.trans (hb.mono h0.size),by omega,by omega,(c 0).trans c0,(c 1).trans c1,(c 2).trans c2,(d _).trans d0,(d _).trans d1,(d _).trans d2,(d _).trans d3⟩
set_option maxRecDepth 100000 in
set_option maxHeartbeats 4000000 in
theorem hours_rises (ao:Option Addr) (cap:Nat) (hs:List H) (w:World) (hlen:hs.length≤1048576) (hI:Hrs ao hs w) :
 Calls Tryz.prog 222 #[.agg #[.slice ao hs.length cap,.func (.func 214) #[] #[],.func (.func 215) #[] #[]]] w fun e w'=>e=.returned (.bool (riseB hlt H.zero hs))∧Below w.heap.size w w':=by
 have HI:=H_ hI
 have HNO:=H_ (fun k=>rise_no (r:=hlt) (z:=H.zero) (xs:=hs) (k:=k))
 have HYES:Hid (RiseTo hlt H.zero hs hs.length→riseB hlt H.zero hs=true):=H_ rise_yes
 generalize riseB hlt H.zero hs=R at *
 obtain ⟨len,hl⟩:∃len,len=hs.length:=⟨_,rfl⟩
 rw [←hl] at hlen HYES ⊢
 have HL:=H_ hl
 clear hI hl
 have HB0:Hid (Below w.heap.size w (w.alloc (.cells #[.slice ao len cap,.func (.func 214) #[] #[],.func (.func 215) #[] #[]] 194))):=H_ ((Below.refl _ _).alloc (Nat.le_refl _) _)
 have HX0:Hid (Blk w.heap.size [.slice ao len cap,.func (.func 214) #[] #[],.func (.func 215) #[] #[]] (w.alloc (.cells #[.slice ao len cap,.func (.func 214) #[] #[],.func (.func 215) #[] #[]] 194))):=H_ (Blk.new w _ _)
 go_enter Tryz.func222,Tryz.ntmps222
 go_wp2_with fail
 go_loopw [3] (fun z wr=>∃k:Nat,1≤k∧(k=1∨k≤len)∧z=.int .i64 (k:Int)∧Hid (RiseTo hlt H.zero hs k)∧Hid (Below w.heap.size w wr)∧Hid (Blk w.heap.size [.slice ao len cap,.func (.func 214) #[] #[],.func (.func 215) #[] #[]] wr)) (fun z _=>len-(intOf z).toNat)
 case atStart=>exact ⟨1,by omega,by omega,rfl,H_ (rise_one _ (by omega)),HB0,HX0⟩
 case round =>
  obtain ⟨k,hk1,hk2,rfl,HR,HB,HX⟩:=hrel
  obtain ⟨xl,xc⟩:=HX.out
  have x0:wr.cell? ⟨w.heap.size,0,none⟩=some (.slice ao len cap):=xc 0 (by simp)
  have x1:wr.cell? ⟨w.heap.size,1,none⟩=some (.func (.func 214) #[] #[]):=xc 1 (by simp)
  have x2:wr.cell? ⟨w.heap.size,2,none⟩=some (.func (.func 215) #[] #[]):=xc 2 (by simp)
  clear xc
  by_cases hlt1:k<len
  ·have hlt2:(k:Int)<(len:Int):=by omega
   have hk0:(0:Int)≤(k:Int):=by omega
   obtain ⟨j,hj⟩:∃j,j=k-1:=⟨_,rfl⟩
   have hj0:(0:Int)≤(j:Int):=by omega
   have hj1:(j:Int)<(len:Int):=by omega
   have hwr:IntKind.i64.wrap ((k:Int)-1)=(j:Int):=by rw [IntKind.wrap_i64];omega
   obtain ⟨b,off,rfl,hbl,c1,c2⟩:=(HI.out.below HB.out).at k (by have:=HL.out;omega)
   obtain ⟨b',off',he,_,d1,d2⟩:=(HI.out.below HB.out).at j (by have:=HL.out;omega)
   obtain ⟨rfl,rfl⟩:b=b'∧off=off':=by simpa using he
   have HN:=H_ (HNO.out k (by have:=HL.out;omega) (by omega))
   have HM:=H_ (fun h=>HR.out.more (k:=k) h)
   rw [←hj] at HN HM
   generalize hs.getD k H.zero=X at *
   generalize hs.getD j H.zero=Y at *
   have HS0:Hid (HSt w (some ⟨b,off,none⟩) len cap b (off+k*2) (off+j*2) X Y wr.drew):=H_ (HSt.below ⟨HB.out,xl,hbl,x0,x1,x2,c1,c2,d1,d2⟩ (Below.refl _ _).drew)
   obtain ⟨xh,xs⟩:=X
   obtain ⟨yh,ys⟩:=Y
   dsimp only at c1 c2 d1 d2
   clear hj
   by_cases hle:xh≤yh
   ·have HF:Hid (R=false):=H_ (HN.out (by unfold hlt;exact decide_eq_false (by show ¬yh<xh;omega)))
    go_wp2_with fail
    go_region_held3 (fun W=>Below w.heap.size w W∧w.heap.size<W.heap.size∧b<W.heap.size∧W.cell? ⟨w.heap.size,0,none⟩=some (.slice (some ⟨b,off,none⟩) len cap)∧W.cell? ⟨w.heap.size,1,none⟩=some (.func (.func 214) #[] #[])∧W.cell? ⟨w.heap.size,2,none⟩=some (.func (.func 215) #[] #[])∧W.cell? ⟨b,off+k*2,none⟩=some (.int .i64 xh)∧W.cell? ⟨b,off+k*2+1,none⟩=some (.int .i64 xs)∧W.cell? ⟨b,off+j*2,none⟩=some (.int .i64 yh)∧W.cell? ⟨b,off+j*2+1,none⟩=some (.int .i64 ys)) (first|assumption|(exact HS0.out)|(exact HSt.below (x:=⟨xh,xs⟩) (y:=⟨yh,ys⟩) (by assumption) hb))
     (first|(go_at_call 214;refine (hkey _ _ _).mono ?_;rintro e w' ⟨rfl,hb⟩))
    rename_i hSz
    have HSz:=H_ hSz.1
    clear hSz
    go_wp2_with fail
    go_ret
    exact ⟨ret_bool HF.out.symm,HSz.out⟩
   ·have hle2:yh<xh:=by omega
    have HM2:=H_ (HM.out (fun _=>by unfold hlt;exact decide_eq_true (by show yh<xh;omega)))
    go_wp2_with fail
    go_region_held3 (fun W=>Below w.heap.size w W∧w.heap.size<W.heap.size∧b<W.heap.size∧W.cell? ⟨w.heap.size,0,none⟩=some (.slice (some ⟨b,off,none⟩) len cap)∧W.cell? ⟨w.heap.size,1,none⟩=some (.func (.func 214) #[] #[])∧W.cell? ⟨w.heap.size,2,none⟩=some (.func (.func 215) #[] #[])∧W.cell? ⟨b,off+k*2,none⟩=some (.int .i64 xh)∧W.cell? ⟨b,off+k*2+1,none⟩=some (.int .i64 xs)∧W.cell? ⟨b,off+j*2,none⟩=some (.int .i64 yh)∧W.cell? ⟨b,off+j*2+1,none⟩=some (.int .i64 ys)) (first|assumption|(exact HS0.out)|(exact HSt.below (x:=⟨xh,xs⟩) (y:=⟨yh,ys⟩) (by assumption) hb))
     (first|(go_at_call 214;refine (hkey _ _ _).mono ?_;rintro e w' ⟨rfl,hb⟩))
    rename_i hSz
    have HSz:=H_ hSz.1
    have HSy:Hid (Blk w.heap.size [.slice (some ⟨b,off,none⟩) len cap,.func (.func 214) #[] #[],.func (.func 215) #[] #[]] w'):=H_ ⟨hSz.2.1,fun i hi=>by
     match i,hi with
     | 0,_=>exact hSz.2.2.2.1
     | 1,_=>exact hSz.2.2.2.2.1
     | 2,_=>exact hSz.2.2.2.2.2.1⟩
    clear hSz
    go_wp2_with fail
    go_roundw
    case rel=>exact ⟨k+1,by omega,by omega,by go_num,HM2,HSz,HSy⟩
    case measure=>simp [intOf];omega
  ·have hlt2:¬(k:Int)<(len:Int):=by omega
   have HF:Hid (R=true):=H_ (HYES.out (fun i h1 h2=>HR.out i (by omega) h2))
   go_wp2_with fail
   go_ret
   exact ⟨ret_bool HF.out.symm,HB.out⟩
end WinR
end Go.Proofs.YtnceeaccbcfopaaGreatDoor
