/-
  The law's own helpers over a meter: its size, its copy, two held against each other. The condition: the tiers are at most 1048576.
-/
import Derived.Test.YtnceeaccbcfopaaGreatDoorT38
namespace Go.Proofs.YtnceeaccbcfopaaGreatDoor
open Go.ChangeShapes Go.WideShapes Go.ChangeAt Go.RowKit
set_option linter.unusedVariables false
namespace CatR
open EvtR (Pt cell_put cell_far)
theorem szTis_any (ao:Option Addr) (len cap:Nat) (left:Int) (hm:len≤maxLen) (h0:0≤left) (h1:left≤1048576) (w:World) :
 Calls Tryz.prog 149 #[.slice ao len cap,.int .i64 left] w fun e w'=>e=.returned (.int .i64 (if (len:Int)≤left then left-len else -1))∧Below w.heap.size w w':=by
 unfold maxLen at hm
 by_cases h:(len:Int)≤left
 ·rw [if_pos h]
  have g:¬left-(len:Int)<0:=by omega
  go_enter Tryz.func149,Tryz.ntmps149
  go_wp2_with fail
  go_ret
  exact ⟨rfl,Below.refl _ _⟩
 ·rw [if_neg h]
  have g:left-(len:Int)<0:=by omega
  go_enter Tryz.func149,Tryz.ntmps149
  go_wp2_with fail
  go_ret
  exact ⟨rfl,Below.refl _ _⟩
def szM (m:Me):Int:=m.n.size+m.ts.length
set_option maxHeartbeats 4000000 in
theorem szMe_any (v:Value) (m:Me) (left:Int) (w:World) (hn:m.n.size≤maxLen) (hm:m.ts.length≤maxLen) (h0:0≤left) (h1:left≤1048576) (hM:∃ta tc,v=.agg #[.string m.n,.int .i64 m.g,.bool m.wh,.int .i64 m.f,.int .i64 m.l,.slice ta m.ts.length tc]) :
 Calls Tryz.prog 98 #[v,.int .i64 left] w fun e w'=>e=.returned (.int .i64 (if szM m≤left then left-szM m else -1))∧Below w.heap.size w w':=by
 obtain ⟨ta,tc,rfl⟩:=hM
 obtain ⟨n,g,wh,f,l,ts⟩:=m
 simp only at *
 have e:szM ⟨n,g,wh,f,l,ts⟩=n.size+ts.length:=rfl
 rw [e]
 clear e
 have HB:Hid (Below w.heap.size w (w.alloc (.cells #[.string n,.int .i64 g,.bool wh,.int .i64 f,.int .i64 l,.slice ta ts.length tc] 141))):=H_ ((Below.refl _ _).alloc (Nat.le_refl _) _)
 have HC:=H_ (fun L h0 h1 W=>szTis_any ta ts.length tc L hm h0 h1 W)
 generalize ts.length=tl at *
 unfold maxLen at *
 by_cases h:(n.size:Int)≤left
 ·have g1:¬left-(n.size:Int)<0:=by omega
  have HC2:=H_ (HC.out (left-(n.size:Int)) (by omega) (by omega))
  obtain ⟨L,hL⟩:∃L,L=left-(n.size:Int):=⟨_,rfl⟩
  by_cases h2:(tl:Int)≤left-(n.size:Int)
  ·rw [if_pos h2] at HC2
   rw [if_pos (by omega)]
   have g2:¬left-(n.size:Int)-(tl:Int)<0:=by omega
   have HV:Hid (left-(n.size:Int)-(tl:Int)=left-((n.size:Int)+(tl:Int))):=H_ (by omega)
   clear HC hL
   go_enter Tryz.func98,Tryz.ntmps98
   go_wp2_with (go_at_call 149;refine (HC2.out _).mono ?_;rintro e w1 ⟨rfl,hb⟩)
   go_ret
   exact ⟨ret_int HV.out,bel_alloc hb⟩
  ·rw [if_neg h2] at HC2
   rw [if_neg (by omega)]
   clear HC hL
   go_enter Tryz.func98,Tryz.ntmps98
   go_wp2_with (go_at_call 149;refine (HC2.out _).mono ?_;rintro e w1 ⟨rfl,hb⟩)
   go_ret
   exact ⟨rfl,bel_alloc hb⟩
 ·have g1:left-(n.size:Int)<0:=by omega
  rw [if_neg (by omega)]
  go_enter Tryz.func98,Tryz.ntmps98
  go_wp2_with fail
  go_ret
  exact ⟨rfl,HB.out⟩
theorem far_block (w:World) (b o:Nat) (v:Value) (k:Nat) (hk:b≠k):(w.setCell ⟨b,o,none⟩ v).heap[k]? = w.heap[k]?:=by
 simp only [World.setCell]
 rw [Array.getElem?_modify,if_neg hk]
theorem _root_.Go.Proofs.YtnceeaccbcfopaaGreatDoor.EvtR.Pt.far {g m:Nat} {w:World} (h:Pt g m w) {b:Nat} (hb:b≠g) (o:Nat) (v:Value):Pt g m (w.setCell ⟨b,o,none⟩ v):=by
 have e:=far_block w b o v g hb
 exact ⟨by simpa using h.lt,fun x hx=>by obtain ⟨u,hu⟩:=h.has x hx;exact ⟨u,(World.cell?_of_block (a:=⟨g,x,none⟩) e).trans hu⟩,fun x hx=>(World.frozen?_of_block (a:=⟨g,x,none⟩) e).trans (h.free x hx)⟩
theorem Tis.far {b0 off len:Nat} {ts:List Ti} {w:World} (h:Tis (some ⟨b0,off,none⟩) len ts w) {b:Nat} (hb:b≠b0) (o:Nat) (v:Value):Tis (some ⟨b0,off,none⟩) len ts (w.setCell ⟨b,o,none⟩ v):=by
 refine ⟨h.1,?_⟩
 rcases h.2 with h0|⟨b1,off1,e,hlt,hc⟩
 ·exact .inl h0
 ·obtain ⟨rfl,rfl⟩:b0=b1∧off=off1:=by simpa using e
  have e:=far_block w b o v b0 hb
  exact .inr ⟨b0,off,rfl,by simpa using hlt,fun j hj=>⟨(World.cell?_of_block (a:=⟨b0,_,none⟩) e).trans (hc j hj).1,(World.cell?_of_block (a:=⟨b0,_,none⟩) e).trans (hc j hj).2⟩⟩
def NewMe (base:Nat) (v:Value) (m:Me) (w:World):Prop:=∃b,base≤b∧v=.agg #[.string m.n,.int .i64 m.g,.bool m.wh,.int .i64 m.f,.int .i64 m.l,.slice (some ⟨b,0,none⟩) m.ts.length m.ts.length]∧Tis (some ⟨b,0,none⟩) m.ts.length m.ts w∧Pt b (m.ts.length*2) w
theorem NewMe.is {base:Nat} {v:Value} {m:Me} {w:World} (h:NewMe base v m w):IsMe v m w:=by
 obtain ⟨b,_,h1,h2,_⟩:=h
 exact ⟨_,_,h1,h2⟩
set_option maxRecDepth 100000 in
set_option maxHeartbeats 4000000 in
theorem toMe_any (v:Value) (m:Me) (w:World) (hl:m.ts.length≤1048576) (hM:IsMe v m w) :
 Calls Tryz.prog 115 #[v] w fun e w'=>(∃v',e=.returned v'∧NewMe w.heap.size v' m w')∧Below w.heap.size w w':=by
 obtain ⟨ta,tc,rfl,hT⟩:=hM
 obtain ⟨n,g,wh,f,l,ts⟩:=m
 simp only at *
 have HC:Hid (∀W,Below w.heap.size w W→Calls Tryz.prog 159 #[.slice ta ts.length tc] W fun e w'=>e=.returned (.slice (some ⟨W.heap.size,0,none⟩) ts.length ts.length)∧Tis (some ⟨W.heap.size,0,none⟩) ts.length ts w'∧Pt W.heap.size (ts.length*2) w'∧Below W.heap.size W w'):=H_ (fun W hW=>toTis_any ta ts.length tc ts W hl (hT.below hW))
 have HF:Hid (∀b v w',w.heap.size≤b→v=.agg #[.string n,.int .i64 g,.bool wh,.int .i64 f,.int .i64 l,.slice (some ⟨b,0,none⟩) ts.length ts.length]→Tis (some ⟨b,0,none⟩) ts.length ts w'→Pt b (ts.length*2) w'→NewMe w.heap.size v ⟨n,g,wh,f,l,ts⟩ w'):=H_ (fun b v w' h1 h2 h3 h4=>⟨b,h1,h2,h3,h4⟩)
 clear hT hl
 generalize ts.length=tl at *
 obtain ⟨W,hW⟩:∃W,W=(((w.alloc (.cells #[.string n,.int .i64 g,.bool wh,.int .i64 f,.int .i64 l,.slice ta tl tc] 141)).alloc (.cells #[.string ⟨#[]⟩,.int .i64 0,.bool false,.int .i64 0,.int .i64 0,.slice none 0 0] 150)).alloc (.cells #[.string n,.int .i64 g,.bool wh,.int .i64 f,.int .i64 l,.slice none 0 0] 150)):=⟨_,rfl⟩
 have HW:=H_ hW
 have HBB:Hid (Below w.heap.size w W):=H_ (by rw [hW];exact (((Below.refl _ _).alloc (Nat.le_refl _) _).alloc (by simp) _).alloc (by simp;omega) _)
 have hWs:W.heap.size=w.heap.size+3:=by rw [hW];simp
 have a0:W.cell? ⟨w.heap.size+2,0,none⟩=some (.string n):=by rw [hW];simp [go_sem]
 have a0':W.frozen? ⟨w.heap.size+2,0,none⟩=false:=by rw [hW];simp [go_sem]
 have a1:W.cell? ⟨w.heap.size+2,1,none⟩=some (.int .i64 g):=by rw [hW];simp [go_sem]
 have a1':W.frozen? ⟨w.heap.size+2,1,none⟩=false:=by rw [hW];simp [go_sem]
 have a2:W.cell? ⟨w.heap.size+2,2,none⟩=some (.bool wh):=by rw [hW];simp [go_sem]
 have a2':W.frozen? ⟨w.heap.size+2,2,none⟩=false:=by rw [hW];simp [go_sem]
 have a3:W.cell? ⟨w.heap.size+2,3,none⟩=some (.int .i64 f):=by rw [hW];simp [go_sem]
 have a3':W.frozen? ⟨w.heap.size+2,3,none⟩=false:=by rw [hW];simp [go_sem]
 have a4:W.cell? ⟨w.heap.size+2,4,none⟩=some (.int .i64 l):=by rw [hW];simp [go_sem]
 have a4':W.frozen? ⟨w.heap.size+2,4,none⟩=false:=by rw [hW];simp [go_sem]
 have a5:W.cell? ⟨w.heap.size+2,5,none⟩=some (.slice none 0 0):=by rw [hW];simp [go_sem]
 have a5':W.frozen? ⟨w.heap.size+2,5,none⟩=false:=by rw [hW];simp [go_sem]
 have b0:W.cell? ⟨w.heap.size+1,0,none⟩=some (.string ⟨#[]⟩):=by rw [hW];simp [go_sem]
 have b0':W.frozen? ⟨w.heap.size+1,0,none⟩=false:=by rw [hW];simp [go_sem]
 have b1:W.cell? ⟨w.heap.size+1,1,none⟩=some (.int .i64 0):=by rw [hW];simp [go_sem]
 have b1':W.frozen? ⟨w.heap.size+1,1,none⟩=false:=by rw [hW];simp [go_sem]
 have b2:W.cell? ⟨w.heap.size+1,2,none⟩=some (.bool false):=by rw [hW];simp [go_sem]
 have b2':W.frozen? ⟨w.heap.size+1,2,none⟩=false:=by rw [hW];simp [go_sem]
 have b3:W.cell? ⟨w.heap.size+1,3,none⟩=some (.int .i64 0):=by rw [hW];simp [go_sem]
 have b3':W.frozen? ⟨w.heap.size+1,3,none⟩=false:=by rw [hW];simp [go_sem]
 have b4:W.cell? ⟨w.heap.size+1,4,none⟩=some (.int .i64 0):=by rw [hW];simp [go_sem]
 have b4':W.frozen? ⟨w.heap.size+1,4,none⟩=false:=by rw [hW];simp [go_sem]
 have b5:W.cell? ⟨w.heap.size+1,5,none⟩=some (.slice none 0 0):=by rw [hW];simp [go_sem]
 have b5':W.frozen? ⟨w.heap.size+1,5,none⟩=false:=by rw [hW];simp [go_sem]
 clear hW
 go_enter Tryz.func115,Tryz.ntmps115
 go_wp2_with fail
 rw [←HW.out]
 refine (HC.out _ HBB.out).mono ?_
 rintro e w1 ⟨rfl,hT1,hp1,hb1⟩
 rw [hWs] at hT1 hp1
 obtain ⟨hcc,hff⟩:=bcell hb1
 rw [hWs] at hcc hff
 have hlt:w.heap.size+3≤w1.heap.size:=by have:=hb1.size;omega
 have HB1:=H_ (HBB.out.trans (hb1.mono HBB.out.size))
 have HT1:=H_ hT1
 have HP1:=H_ hp1
 have c0:=(hcc (w.heap.size+2) 0 (by omega)).trans a0
 have c0':=(hff (w.heap.size+2) 0 (by omega)).trans a0'
 have c1:=(hcc (w.heap.size+2) 1 (by omega)).trans a1
 have c1':=(hff (w.heap.size+2) 1 (by omega)).trans a1'
 have c2:=(hcc (w.heap.size+2) 2 (by omega)).trans a2
 have c2':=(hff (w.heap.size+2) 2 (by omega)).trans a2'
 have c3:=(hcc (w.heap.size+2) 3 (by omega)).trans a3
 have c3':=(hff (w.heap.size+2) 3 (by omega)).trans a3'
 have c4:=(hcc (w.heap.size+2) 4 (by omega)).trans a4
 have c4':=(hff (w.heap.size+2) 4 (by omega)).trans a4'
 have c5:=(hcc (w.heap.size+2) 5 (by omega)).trans a5
 have c5':=(hff (w.heap.size+2) 5 (by omega)).trans a5'
 have d0:=(hcc (w.heap.size+1) 0 (by omega)).trans b0
 have d0':=(hff (w.heap.size+1) 0 (by omega)).trans b0'
 have d1:=(hcc (w.heap.size+1) 1 (by omega)).trans b1
 have d1':=(hff (w.heap.size+1) 1 (by omega)).trans b1'
 have d2:=(hcc (w.heap.size+1) 2 (by omega)).trans b2
 have d2':=(hff (w.heap.size+1) 2 (by omega)).trans b2'
 have d3:=(hcc (w.heap.size+1) 3 (by omega)).trans b3
 have d3':=(hff (w.heap.size+1) 3 (by omega)).trans b3'
 have d4:=(hcc (w.heap.size+1) 4 (by omega)).trans b4
 have d4':=(hff (w.heap.size+1) 4 (by omega)).trans b4'
 have d5:=(hcc (w.heap.size+1) 5 (by omega)).trans b5
 have d5':=(hff (w.heap.size+1) 5 (by omega)).trans b5'
 have hWs':=hWs
 clear hT1 hp1 hb1 hcc hff a0 a1 a2 a3 a4 a5 a0' a1' a2' a3' a4' a5' b0 b1 b2 b3 b4 b5 b0' b1' b2' b3' b4' b5' hWs'
 go_wp2_with fail
 refine bodyPost_ret (v:=.agg #[.string n,.int .i64 g,.bool wh,.int .i64 f,.int .i64 l,.slice (some ⟨w.heap.size+3,0,none⟩) tl tl]) (by simp [results,Tryz.results115,go_sem,d0,d1,d2,d3,d4,d5]) rfl ⟨⟨_,rfl,?_⟩,?_⟩
 ·refine HF.out (w.heap.size+3) _ _ (by omega) rfl ?_ ?_
  ·exact (((((((HT1.out.far (by omega) _ _).far (by omega) _ _).far (by omega) _ _).far (by omega) _ _).far (by omega) _ _).far (by omega) _ _).far (by omega) _ _)
  ·exact (((((((HP1.out.far (by omega) _ _).far (by omega) _ _).far (by omega) _ _).far (by omega) _ _).far (by omega) _ _).far (by omega) _ _).far (by omega) _ _)
 ·exact ((((((HB1.out.setCell (by simp;omega) _).setCell (by simp) _).setCell (by simp) _).setCell (by simp) _).setCell (by simp) _).setCell (by simp) _).setCell (by simp) _
theorem eqTi_any (u p:Int) (w:World):Calls Tryz.prog 216 #[.agg #[.int .i64 u,.int .i64 p],.agg #[.int .i64 u,.int .i64 p]] w fun e w'=>e=.returned (.bool true)∧Below w.heap.size w w':=by
 go_enter Tryz.func216,Tryz.ntmps216
 go_wp2
 go_ret
 refine ⟨rfl,?_⟩
 repeat' first|exact Below.refl _ _|apply Below.setCell|apply Below.alloc
 all_goals first|omega|(simp;done)|(simp;omega)
set_option maxHeartbeats 4000000 in
theorem eqTis_any (ao bo:Option Addr) (len cap cap':Nat) (ts:List Ti) (w:World) (hlen:len≤1048576) (hI:Tis ao len ts w) (hJ:Tis bo len ts w) :
 Calls Tryz.prog 188 #[.slice ao len cap,.slice bo len cap'] w fun e w'=>e=.returned (.bool true)∧Below w.heap.size w w':=by
 have HI:=H_ hI
 have HJ:=H_ hJ
 clear hI hJ
 go_enter Tryz.func188,Tryz.ntmps188
 go_wp2_with fail
 go_loopw [5] (fun z wr=>∃k:Nat,k≤len∧z=.int .i64 k∧Hid (Below w.heap.size w wr)) (fun z _=>len-(intOf z).toNat)
 case atStart=>exact ⟨0,by omega,rfl,H_ (Below.refl _ _)⟩
 case round =>
  obtain ⟨k,hk,rfl,HW⟩:=hrel
  by_cases hlt:k<len
  ·have hlt2:(k:Int)<(len:Int):=by omega
   obtain ⟨b,off,rfl,_,c0,c1⟩:=tis_at (HI.out.below HW.out) k hlt
   obtain ⟨b',off',rfl,_,e0,e1⟩:=tis_at (HJ.out.below HW.out) k hlt
   generalize ts.getD k Ti.zero=X at *
   obtain ⟨u,p⟩:=X
   have HC:=H_ (fun w=>eqTi_any u p w)
   go_wp2_with fail
   go_region_with (go_at_call 216;refine (HC.out _).mono ?_;rintro e w1 ⟨rfl,hb⟩)
   all_goals (
    have HB1:=H_ (HW.out.drew.trans (hb.mono HW.out.drew.size))
    clear hb c0 c1 e0 e1
    go_wp2_with fail
    go_roundw
    case rel=>exact ⟨k+1,by omega,by go_num,HB1⟩
    case measure=>simp [intOf];omega)
  ·have hlt2:¬(k:Int)<(len:Int):=by omega
   go_wp2_with fail
   go_ret
   exact ⟨rfl,HW.out⟩
set_option maxHeartbeats 4000000 in
theorem eqMe_any (v v':Value) (m:Me) (w:World) (hl:m.ts.length≤1048576) (hI:IsMe v m w) (hJ:IsMe v' m w) :
 Calls Tryz.prog 140 #[v,v'] w fun e w'=>e=.returned (.bool true)∧Below w.heap.size w w':=by
 obtain ⟨ta,tc,rfl,hT⟩:=hI
 obtain ⟨ta',tc',rfl,hT'⟩:=hJ
 obtain ⟨n,g,wh,f,l,ts⟩:=m
 simp only at *
 have HC:Hid (∀W,Below w.heap.size w W→Calls Tryz.prog 188 #[.slice ta ts.length tc,.slice ta' ts.length tc'] W fun e w'=>e=.returned (.bool true)∧Below W.heap.size W w'):=H_ (fun W hW=>eqTis_any ta ta' ts.length tc tc' ts W hl (hT.below hW) (hT'.below hW))
 clear hT hT' hl
 generalize ts.length=tl at *
 go_enter Tryz.func140,Tryz.ntmps140
 go_wp2_with fail
 refine (HC.out _ (((Below.refl _ _).alloc (Nat.le_refl _) _).alloc (by simp) _)).mono ?_
 rintro e w1 ⟨rfl,hb⟩
 have HB:=H_ (bel_alloc (bel_alloc hb))
 clear hb
 go_wp2_with fail
 go_ret
 exact ⟨rfl,HB.out⟩
end CatR
end Go.Proofs.YtnceeaccbcfopaaGreatDoor
