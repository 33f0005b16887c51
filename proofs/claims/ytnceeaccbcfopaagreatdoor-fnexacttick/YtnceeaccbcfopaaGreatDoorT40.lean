/-
  The law's own helpers over a list of meters: their size, copies, two held against each other. The condition: at most 1048576 meters, each of at most 1048576 tiers.
-/
import Derived.Test.YtnceeaccbcfopaaGreatDoorT39
namespace Go.Proofs.YtnceeaccbcfopaaGreatDoor
open Go.ChangeShapes Go.WideShapes Go.ChangeAt Go.RowKit
set_option linter.unusedVariables false
namespace CatR
open EvtR (Pt cell_put cell_far)
def Me.Small (m:Me):Prop:=m.n.size≤1048576∧m.ts.length≤1048576
def Me.In (m:Me):Prop:=m.n.size≤maxLen∧m.ts.length≤maxLen
def SzOut (left:Int) (P:Prop) (e:Ending):Prop:=∃L:Int,e=.returned (.int .i64 L)∧(L=-1∨(0≤L∧L≤left∧P))
theorem small_more {ms:List Me} {k:Nat} (h:∀i,i<k→(ms.getD i Me.zero).Small) (hk:(ms.getD k Me.zero).Small):∀i,i<k+1→(ms.getD i Me.zero).Small:=fun i hi=>by
 by_cases e:i=k
 ·subst e;exact hk
 ·exact h i (by omega)
set_option maxRecDepth 100000 in
set_option maxHeartbeats 4000000 in
theorem szMes_any (ao:Option Addr) (len cap:Nat) (ms:List Me) (left:Int) (w:World) (hm:len≤maxLen) (h0:0≤left) (h1:left≤1048576) (hI:Mes ao len ms w) (hin:∀i,i<len→(ms.getD i Me.zero).In) :
 Calls Tryz.prog 45 #[.slice ao len cap,.int .i64 left] w fun e w'=>SzOut left (len≤1048576∧∀i,i<len→(ms.getD i Me.zero).Small) e∧Below w.heap.size w w':=by
 have HI:=H_ hI
 have HN:=H_ hin
 clear hI hin
 unfold maxLen at hm
 by_cases hl:left-(len:Int)<0
 ·go_enter Tryz.func45,Tryz.ntmps45
  go_wp2_with fail
  go_ret
  exact ⟨⟨-1,rfl,.inl rfl⟩,Below.refl _ _⟩
 ·go_enter Tryz.func45,Tryz.ntmps45
  go_wp2_with fail
  go_loopw [5,1] (fun x y wr=>∃(j:Nat) (L:Int),j≤len∧x=.int .i64 j∧y=.int .i64 L∧0≤L∧L≤left∧Hid (∀i,i<j→(ms.getD i Me.zero).Small)∧Hid (Below w.heap.size w wr)) (fun x y _=>len-(intOf x).toNat)
  case atStart=>exact ⟨0,left-(len:Int),Nat.zero_le _,rfl,rfl,by omega,by omega,H_ (fun i hi=>absurd hi (by omega)),H_ (Below.refl _ _)⟩
  case round =>
   obtain ⟨j,L,hj,rfl,rfl,l0,l1,HL,HB⟩:=hrel
   by_cases hlt:j<len
   ·obtain ⟨b,off,rfl,hbl,ta,tc,c0,c1,c2,c3,c4,c5,hT⟩:=mes_at (HI.out.below HB.out) j hlt
    obtain ⟨q1,q2⟩:=HN.out j hlt
    have HC:=H_ (fun w=>szMe_any _ (ms.getD j Me.zero) L w q1 q2 l0 (by omega) ⟨ta,tc,rfl⟩)
    have HM:=H_ (fun h=>small_more HL.out (k:=j) h)
    have HS:Hid (szM (ms.getD j Me.zero)≤L→(ms.getD j Me.zero).Small):=H_ (fun h=>by unfold szM at h;unfold Me.Small;omega)
    have hz:0≤szM (ms.getD j Me.zero):=by unfold szM;omega
    generalize szM (ms.getD j Me.zero)=Z at *
    generalize (ms.getD j Me.zero)=X at *
    obtain ⟨n,g,wh,f,l,ts⟩:=X
    simp only at HC c0 c1 c2 c3 c4 c5
    have hlt2:(j:Int)<(len:Int):=by omega
    clear hT q1 q2
    generalize ts.length=tl at *
    by_cases hs:Z≤L
    ·rw [if_pos hs] at HC
     have r0:0≤L-Z:=by omega
     have r1:L-Z≤left:=by omega
     have HN1:=H_ (HM.out (HS.out hs))
     generalize L-Z=L2 at *
     clear hs hz
     go_wp2_with fail
     refine (HC.out _).mono ?_
     rintro e w1 ⟨rfl,hb⟩
     have HB1:=H_ (HB.out.trans (hb.mono HB.out.size))
     clear hb c0 c1 c2 c3 c4 c5
     have r2:¬L2<0:=by omega
     go_wp2_with fail
     go_roundw
     case rel=>exact ⟨j+1,L2,by omega,by go_num,rfl,r0,r1,HN1,HB1⟩
     case measure=>simp [intOf];omega
    ·rw [if_neg hs] at HC
     go_wp2_with fail
     refine (HC.out _).mono ?_
     rintro e w1 ⟨rfl,hb⟩
     have HB1:=H_ (HB.out.trans (hb.mono HB.out.size))
     clear hb c0 c1 c2 c3 c4 c5
     go_wp2_with fail
     go_ret
     exact ⟨⟨-1,rfl,.inl rfl⟩,HB1.out⟩
   ·obtain rfl:j=len:=by omega
    go_wp2_with fail
    go_ret
    exact ⟨⟨L,rfl,.inr ⟨l0,l1,by omega,HL.out⟩⟩,HB.out⟩
def MeC (w:World) (g o b:Nat) (m:Me):Prop:=(w.cell? ⟨g,o,none⟩=some (.string m.n)∧w.cell? ⟨g,o+1,none⟩=some (.int .i64 m.g)∧w.cell? ⟨g,o+2,none⟩=some (.bool m.wh)∧w.cell? ⟨g,o+3,none⟩=some (.int .i64 m.f)∧w.cell? ⟨g,o+4,none⟩=some (.int .i64 m.l)∧w.cell? ⟨g,o+5,none⟩=some (.slice (some ⟨b,0,none⟩) m.ts.length m.ts.length))∧Tis (some ⟨b,0,none⟩) m.ts.length m.ts w∧Pt b (m.ts.length*2) w
theorem MeC.below {w w':World} {g o b:Nat} {m:Me} (h:MeC w g o b m) (hl:g<w.heap.size) (hb:Below w.heap.size w w'):MeC w' g o b m:=by
 obtain ⟨⟨h0,h1,h2,h3,h4,h5⟩,h6,h7⟩:=h
 have f:=fun k=>hb.cell (p:=⟨g,k,none⟩) hl
 exact ⟨⟨(f _).trans h0,(f _).trans h1,(f _).trans h2,(f _).trans h3,(f _).trans h4,(f _).trans h5⟩,h6.below hb,h7.below hb⟩
theorem MeC.is {w:World} {g o b:Nat} {m:Me} (h:MeC w g o b m):MeAt w g o m:=by
 obtain ⟨⟨h0,h1,h2,h3,h4,h5⟩,h6,h7⟩:=h
 exact ⟨_,_,h0,h1,h2,h3,h4,h5,h6⟩
structure NewMes (base g:Nat) (bs:Nat→Nat) (n k:Nat) (ms:List Me) (w:World):Prop where
 lo:base≤g
 pt:Pt g (n*6) w
 inc:∀i,i<k→g<bs i∧∀j,j<i→bs j<bs i
 cel:∀i,i<k→MeC w g (i*6) (bs i) (ms.getD i Me.zero)
theorem NewMes.below {base g:Nat} {bs:Nat→Nat} {n k:Nat} {ms:List Me} {w w':World} (h:NewMes base g bs n k ms w) (hb:Below w.heap.size w w'):NewMes base g bs n k ms w' :=
 ⟨h.lo,h.pt.below hb,h.inc,fun i hi=>(h.cel i hi).below h.pt.lt hb⟩
theorem NewMes.is {base g:Nat} {bs:Nat→Nat} {n:Nat} {ms:List Me} {w:World} (h:NewMes base g bs n n ms w) (hz:ms.length=n):Mes (some ⟨g,0,none⟩) n ms w :=
 ⟨hz,.inr ⟨g,0,rfl,h.pt.lt,fun j hj=>by rw [Nat.zero_add];exact (h.cel j hj).is⟩⟩
def setM (wr:World) (g o:Nat) (m:Me) (b:Nat):World:=(((((wr.setCell ⟨g,o,none⟩ (.string m.n)).setCell ⟨g,o+1,none⟩ (.int .i64 m.g)).setCell ⟨g,o+2,none⟩ (.bool m.wh)).setCell ⟨g,o+3,none⟩ (.int .i64 m.f)).setCell ⟨g,o+4,none⟩ (.int .i64 m.l)).setCell ⟨g,o+5,none⟩ (.slice (some ⟨b,0,none⟩) m.ts.length m.ts.length)
theorem setM_pt {wr:World} {g o b m0:Nat} {m:Me} (h:Pt g m0 wr):Pt g m0 (setM wr g o m b):=(((((h.set _ _).set _ _).set _ _).set _ _).set _ _).set _ _
theorem setM_far {wr:World} {g o b:Nat} {m:Me} (x:Nat) (hx:x<o∨o+6≤x):(setM wr g o m b).cell? ⟨g,x,none⟩=wr.cell? ⟨g,x,none⟩:=by
 unfold setM
 rw [cell_far _ _ (by omega),cell_far _ _ (by omega),cell_far _ _ (by omega),cell_far _ _ (by omega),cell_far _ _ (by omega),cell_far _ _ (by omega)]
theorem setM_tis {wr:World} {g o b c len:Nat} {m:Me} {ts:List Ti} (h:Tis (some ⟨c,0,none⟩) len ts wr) (hc:g≠c):Tis (some ⟨c,0,none⟩) len ts (setM wr g o m b):=(((((h.far hc _ _).far hc _ _).far hc _ _).far hc _ _).far hc _ _).far hc _ _
theorem setM_ptf {wr:World} {g o b c m0:Nat} {m:Me} (h:Pt c m0 wr) (hc:g≠c):Pt c m0 (setM wr g o m b):=(((((h.far hc _ _).far hc _ _).far hc _ _).far hc _ _).far hc _ _).far hc _ _
theorem setM_at {wr:World} {g o b m0:Nat} {m:Me} (h:Pt g m0 wr) (ho:o+6≤m0) (hT:Tis (some ⟨b,0,none⟩) m.ts.length m.ts wr) (hP:Pt b (m.ts.length*2) wr) (hb:g≠b):MeC (setM wr g o m b) g o b m:=by
 refine ⟨⟨?_,?_,?_,?_,?_,?_⟩,setM_tis hT hb,setM_ptf hP hb⟩
 ·unfold setM
  rw [cell_far _ _ (by omega),cell_far _ _ (by omega),cell_far _ _ (by omega),cell_far _ _ (by omega),cell_far _ _ (by omega),cell_put h _ (by omega)]
 ·unfold setM
  rw [cell_far _ _ (by omega),cell_far _ _ (by omega),cell_far _ _ (by omega),cell_far _ _ (by omega),cell_put (h.set _ _) _ (by omega)]
 ·unfold setM
  rw [cell_far _ _ (by omega),cell_far _ _ (by omega),cell_far _ _ (by omega),cell_put ((h.set _ _).set _ _) _ (by omega)]
 ·unfold setM
  rw [cell_far _ _ (by omega),cell_far _ _ (by omega),cell_put (((h.set _ _).set _ _).set _ _) _ (by omega)]
 ·unfold setM
  rw [cell_far _ _ (by omega),cell_put ((((h.set _ _).set _ _).set _ _).set _ _) _ (by omega)]
 ·unfold setM
  rw [cell_put (((((h.set _ _).set _ _).set _ _).set _ _).set _ _) _ (by omega)]
theorem MeC.setM {wr:World} {g o b x c:Nat} {m m':Me} (h:MeC wr g x c m') (hx:x+6≤o) (hc:g≠c):MeC (setM wr g o m b) g x c m':=by
 obtain ⟨⟨h0,h1,h2,h3,h4,h5⟩,h6,h7⟩:=h
 have f:=fun y (hy:y<o)=>setM_far (wr:=wr) (g:=g) (o:=o) (b:=b) (m:=m) y (.inl hy)
 exact ⟨⟨(f _ (by omega)).trans h0,(f _ (by omega)).trans h1,(f _ (by omega)).trans h2,(f _ (by omega)).trans h3,(f _ (by omega)).trans h4,(f _ (by omega)).trans h5⟩,setM_tis h6 hc,setM_ptf h7 hc⟩
theorem NewMes.step {base g:Nat} {bs:Nat→Nat} {n k:Nat} {ms:List Me} {w w1:World} (h:NewMes base g bs n k ms w) (hbl:Below w.heap.size w w1) (hk:k<n) {b:Nat} (hb:w.heap.size≤b) (hlt:∀i,i<k→bs i<w.heap.size) (hT:Tis (some ⟨b,0,none⟩) (ms.getD k Me.zero).ts.length (ms.getD k Me.zero).ts w1) (hP:Pt b ((ms.getD k Me.zero).ts.length*2) w1) :
 NewMes base g (fun i=>if i=k then b else bs i) n (k+1) ms (setM w1 g (k*6) (ms.getD k Me.zero) b):=by
 have h1:=h.below hbl
 have hg:=h.pt.lt
 refine ⟨h.lo,setM_pt h1.pt,fun i hi=>?_,fun i hi=>?_⟩
 ·by_cases e:i=k
  ·subst e
   rw [if_pos rfl]
   refine ⟨by omega,fun j hj=>?_⟩
   rw [if_neg (by omega)]
   have:=hlt j hj
   omega
  ·rw [if_neg e]
   refine ⟨(h.inc i (by omega)).1,fun j hj=>?_⟩
   rw [if_neg (by omega)]
   exact (h.inc i (by omega)).2 j hj
 ·by_cases e:i=k
  ·subst e
   rw [if_pos rfl]
   exact setM_at h1.pt (by omega) hT hP (by omega)
  ·rw [if_neg e]
   exact (h1.cel i (by omega)).setM (by omega) (by have:=(h.inc i (by omega)).1;omega)
theorem NewMes.blocks {base g:Nat} {bs:Nat→Nat} {n k:Nat} {ms:List Me} {w:World} (h:NewMes base g bs n k ms w):∀i,i<k→bs i<w.heap.size:=fun i hi=>(h.cel i hi).2.2.lt
end CatR
end Go.Proofs.YtnceeaccbcfopaaGreatDoor
