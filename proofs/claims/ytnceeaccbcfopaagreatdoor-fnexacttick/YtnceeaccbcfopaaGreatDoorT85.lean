/-
  The program's map of meters by their names: made, and taken from. The condition: at most 6 meters, their names of at most 1048576 bytes; the program's own error stands in its variable.
-/
import Derived.OwnWalk
import Derived.Carry
import Derived.Test.YtnceeaccbcfopaaGreatDoorT84
namespace Go.Proofs.YtnceeaccbcfopaaGreatDoor
open Go.ChangeShapes Go.WideShapes Go.ChangeAt Go.RowKit
set_option linter.unusedVariables false
namespace CatR
def MesV (ao:Option Addr) (len:Nat) (ms:List Me) (V:Nat→Value) (w:World):Prop:=len=0∨∃b off,ao=some ⟨b,off,none⟩∧b<w.heap.size∧∀j,j<len→∃ta tc,V j=.agg #[.string (mN ms j),.int .i64 (ms.getD j Me.zero).g,.bool (ms.getD j Me.zero).wh,.int .i64 (ms.getD j Me.zero).f,.int .i64 (ms.getD j Me.zero).l,.slice ta (ms.getD j Me.zero).ts.length tc]∧w.cell? ⟨b,off+j*6,none⟩=some (.string (mN ms j))∧w.cell? ⟨b,off+j*6+1,none⟩=some (.int .i64 (ms.getD j Me.zero).g)∧w.cell? ⟨b,off+j*6+2,none⟩=some (.bool (ms.getD j Me.zero).wh)∧w.cell? ⟨b,off+j*6+3,none⟩=some (.int .i64 (ms.getD j Me.zero).f)∧w.cell? ⟨b,off+j*6+4,none⟩=some (.int .i64 (ms.getD j Me.zero).l)∧w.cell? ⟨b,off+j*6+5,none⟩=some (.slice ta (ms.getD j Me.zero).ts.length tc)∧Tis ta (ms.getD j Me.zero).ts.length (ms.getD j Me.zero).ts w
theorem MesV.below {ao:Option Addr} {len:Nat} {ms:List Me} {V:Nat→Value} {w w':World} (h:MesV ao len ms V w) (hb:Below w.heap.size w w'):MesV ao len ms V w':=by
 rcases h with h|⟨b,off,rfl,hl,h⟩
 ·exact .inl h
 ·refine .inr ⟨b,off,rfl,by have:=hb.size;omega,fun j hj=>?_⟩
  obtain ⟨ta,tc,hv,h0,h1,h2,h3,h4,h5,h6⟩:=h j hj
  have f:=fun k=>hb.cell (p:=⟨b,k,none⟩) hl
  exact ⟨ta,tc,hv,(f _).trans h0,(f _).trans h1,(f _).trans h2,(f _).trans h3,(f _).trans h4,(f _).trans h5,h6.below hb⟩
theorem MesV.is {ao:Option Addr} {len:Nat} {ms:List Me} {V:Nat→Value} {w:World} (h:MesV ao len ms V w) (j:Nat) (hj:j<len):IsMe (V j) (ms.getD j Me.zero) w:=by
 rcases h with h|⟨b,off,rfl,hl,h⟩
 ·omega
 ·obtain ⟨ta,tc,hv,_,_,_,_,_,_,h6⟩:=h j hj
  exact ⟨ta,tc,hv,h6⟩
theorem mes_v {ao:Option Addr} {len:Nat} {ms:List Me} {w:World} (h:Mes ao len ms w):∃V,MesV ao len ms V w:=by
 rcases h.2 with h|⟨b,off,rfl,hl,h⟩
 ·exact ⟨fun _=>undef,.inl h⟩
 ·refine ⟨fun j=>if hj:j<len then .agg #[.string (mN ms j),.int .i64 (ms.getD j Me.zero).g,.bool (ms.getD j Me.zero).wh,.int .i64 (ms.getD j Me.zero).f,.int .i64 (ms.getD j Me.zero).l,.slice (Classical.choose (h j hj)) (ms.getD j Me.zero).ts.length (Classical.choose (Classical.choose_spec (h j hj)))] else undef,.inr ⟨b,off,rfl,hl,fun j hj=>?_⟩⟩
  obtain ⟨h0,h1,h2,h3,h4,h5,h6⟩:=Classical.choose_spec (Classical.choose_spec (h j hj))
  exact ⟨_,_,by simp only [hj,dif_pos],h0,h1,h2,h3,h4,h5,h6⟩
theorem keyedS:Maps.Keyed Tryz.prog 9:=Maps.string_keyed Tryz.underlying9
set_option maxRecDepth 100000 in
set_option maxHeartbeats 4000000 in
theorem byName_any (ao:Option Addr) (len cap:Nat) (ms:List Me) (V:Nat→Value) (w:World) (hlen:len≤6) (hn:∀i,i<len→(mN ms i).size≤1048576) (hI:MesV ao len ms V w) :
 Calls Tryz.prog 162 #[.slice ao len cap] w fun e w'=>e=.returned (.map (some w.heap.size))∧w'.ownsMap Tryz.prog 9 RV w.heap.size len (mapD ms V len)∧Below w.heap.size w w':=by
 have HI:=H_ hI
 have HN:=H_ hn
 clear hI hn
 have HO0:Hid ((w.alloc (.map #[] 0)).ownsMap Tryz.prog 9 RV w.heap.size 0 (mapD ms V 0)):=H_ (World.ownsMap_made w Tryz.prog 9 RV)
 have HB0:Hid (Below w.heap.size w (w.alloc (.map #[] 0))):=H_ ((Below.refl _ _).alloc (Nat.le_refl _) _)
 have hmm:=@run_makeMap Tryz.prog
 go_enter Tryz.func162,Tryz.ntmps162
 go_wp2_with fail
 go_loopw [9] (fun z wr=>∃k:Nat,k≤len∧z=.int .i64 k∧Hid (Below w.heap.size w wr)∧Hid (wr.ownsMap Tryz.prog 9 RV w.heap.size k (mapD ms V k))) (fun z _=>len-(intOf z).toNat)
 case atStart=>exact ⟨0,by omega,rfl,HB0,HO0⟩
 case round =>
  obtain ⟨k,hk,rfl,HB,HO⟩:=hrel
  by_cases hlt:k<len
  ·have hlt2:(k:Int)<(len:Int):=by omega
   rcases HI.out.below HB.out with h|⟨b,off,rfl,hbl,h⟩
   ·omega
   obtain ⟨ta,tc,hv,c0,c1,c2,c3,c4,c5,_⟩:=h k hlt
   clear h
   have HK:=H_ (Go.WideMaps.keyOf_string_mk (P:=Tryz.prog) (k:=9) Tryz.underlying9 (s:=mN ms k) (Nat.le_trans (HN.out k hlt) (by unfold maxLen;omega)))
   have HV:Hid (RV (.agg #[.string (mN ms k),.int .i64 (ms.getD k Me.zero).g,.bool (ms.getD k Me.zero).wh,.int .i64 (ms.getD k Me.zero).f,.int .i64 (ms.getD k Me.zero).l,.slice ta (ms.getD k Me.zero).ts.length tc])=some (.held (V k),[])):=H_ (by rw [hv];rfl)
   have HD:Hid (mapD ms V (k+1)=(mapD ms V k).put (kS (mN ms k)) (.held (V k))):=rfl
   have HKE:Hid (kS (mN ms k)=.string (mN ms k).data.toList):=rfl
   have HAl:=H_ (fun o=>HB.out.alloc HB.out.size o)
   have HOl:=H_ (fun o=>HO.out.alloc o)
   generalize (mapD ms V k)=D0 at *
   generalize kS (mN ms k)=K0 at *
   generalize mN ms k=n at *
   generalize V k=X at *
   generalize (ms.getD k Me.zero).ts.length=tl at *
   generalize (ms.getD k Me.zero).g=g at *
   generalize (ms.getD k Me.zero).wh=wh at *
   generalize (ms.getD k Me.zero).f=f at *
   generalize (ms.getD k Me.zero).l=l at *
   clear hv
   go_wp2_with (at_mapUpdate;refine wpList_mapUpdate_own _ rfl _ _ _ 222 rfl 9 150 keyedS Tryz.underlying222 RV w.heap.size k D0 rfl (HOl.out _) (by unfold maxLen;omega) _ _ _ rfl rfl HK.out (.held X) [] HV.out ?_;intro w1 hown1 hgrow1)
   have HO1:Hid (w1.ownsMap Tryz.prog 9 RV w.heap.size (k+1) (mapD ms V (k+1))):=H_ (by rw [HD.out,HKE.out];exact hown1)
   have HB1:Hid (Below w.heap.size w w1):=H_ ((HAl.out _).grown hgrow1 (HAl.out _).size (fun k e=>by cases e;exact Nat.le_refl _))
   clear hown1 hgrow1
   go_wp2_with fail
   go_roundw
   case rel=>exact ⟨k+1,by omega,by go_num,HB1,H_ HO1.out⟩
   case measure=>simp [intOf];omega
  ·obtain rfl:k=len:=by omega
   go_wp2_with fail
   go_ret
   exact ⟨rfl,HO.out,HB.out⟩
theorem gtr {w w1 w2:World} {g:Option Nat} (h1:w.grownBy w1 g) (h2:w1.grownBy w2 g):w.grownBy w2 g :=
 ⟨h2.os.trans h1.os,h2.tape.trans h1.tape,h2.output.trans h1.output,Nat.le_trans h1.size h2.size,fun k hk hne=>(h2.block k (by have:=h1.size;omega) hne).trans (h1.block k hk hne)⟩
theorem gnew {w wx:World} {g:Option Nat} (h:w.grownBy wx g) (o:Nat) (v:Value):w.grownBy (wx.setCell ⟨w.heap.size,o,none⟩ v) g:=by
 refine ⟨h.os,h.tape,h.output,by have:=h.size;simpa using this,fun k hk hne=>?_⟩
 have e:(wx.setCell ⟨w.heap.size,o,none⟩ v).heap[k]? = wx.heap[k]?:=by
  simp only [World.setCell]
  rw [Array.getElem?_modify,if_neg (by omega)]
 exact e.trans (h.block k hk hne)
def Laid (w:World):Prop:=0<w.heap.size∧∃a:Addr,w.cell? ⟨0,0,none⟩=some (.iface 283 (.pointer (some a)))
theorem Laid.below {w w':World} (h:Laid w) (hb:Below w.heap.size w w'):Laid w':=by
 obtain ⟨h1,a,h2⟩:=h
 exact ⟨by have:=hb.size;omega,a,(hb.cell (p:=⟨_,0,none⟩) h1).trans h2⟩
theorem zeroM (w:World):(zeroValue 150).run Tryz.prog w=.ok (.agg #[.string ⟨#[]⟩,.int .i64 0,.bool false,.int .i64 0,.int .i64 0,.slice none 0 0]) w:=by kernel_rfl
set_option maxRecDepth 100000 in
set_option maxHeartbeats 4000000 in
theorem take_has (b N:Nat) (D:DataW Value) (n:ByteArray) (x0:ByteArray) (x1:Int) (x2:Bool) (x3 x4:Int) (x5:Option Addr) (x6 x7:Nat) (w:World) (hn:n.size≤1048576) (hO:w.ownsMap Tryz.prog 9 RV b N D) (hh:Maps.has D (kS n)=true) (hx:∀z,D.atKey (kS n) z=.held (.agg #[.string x0,.int .i64 x1,.bool x2,.int .i64 x3,.int .i64 x4,.slice x5 x6 x7])) :
 Calls Tryz.prog 163 #[.map (some b),.string n] w fun e w'=>e=.returned (.tuple #[.agg #[.string x0,.int .i64 x1,.bool x2,.int .i64 x3,.int .i64 x4,.slice x5 x6 x7],.nilIface])∧w'.ownsMap Tryz.prog 9 RV b N (D.del (kS n))∧w.grownBy w' (some b):=by
 have HK:=H_ (Go.WideMaps.keyOf_string_mk (P:=Tryz.prog) (k:=9) Tryz.underlying9 (s:=n) (Nat.le_trans hn (by unfold maxLen;omega)))
 have HH:=H_ hh
 have HX:=H_ hx
 have HO:=H_ hO
 have hlt:=hO.lt
 clear hh hx hO
 have e:(.string n.data.toList:Lit)=kS n:=rfl
 rw [e] at HK
 generalize kS n=K0 at *
 clear e
 obtain ⟨W,hW⟩:∃W,W=w.alloc (.cells #[.string ⟨#[]⟩,.int .i64 0,.bool false,.int .i64 0,.int .i64 0,.slice none 0 0] 150):=⟨_,rfl⟩
 obtain ⟨v,ps,hrun,hv⟩:=(HO.out.alloc (.cells #[.string ⟨#[]⟩,.int .i64 0,.bool false,.int .i64 0,.int .i64 0,.slice none 0 0] 150)).look_ok keyedS Tryz.underlying222 (zeroM _) (zd:=.held (.agg #[.string ⟨#[]⟩,.int .i64 0,.bool false,.int .i64 0,.int .i64 0,.slice none 0 0])) (zp:=[]) rfl HK.out
 obtain rfl:v=.agg #[.string x0,.int .i64 x1,.bool x2,.int .i64 x3,.int .i64 x4,.slice x5 x6 x7]:=by
  rw [HX.out] at hv
  simp [RV] at hv
  exact hv.1
 rw [HH.out] at hrun
 clear hv hW W
 have HOl:=H_ (fun (o1 o2:Obj)=>(HO.out.alloc o1).alloc o2)
 have HGl:=H_ (fun (o1 o2:Obj)=>gtr (World.grownBy_alloc w o1 (some b)) (World.grownBy_alloc (w.alloc o1) o2 (some b)))
 go_enter Tryz.func163,Tryz.ntmps163
 go_wp2_with (at_delete;refine wpList_delete_own _ rfl _ _ 222 9 rfl 150 keyedS Tryz.underlying222 RV b N D rfl (HOl.out _ _) _ _ rfl HK.out ?_;intro w1 hown1 hturn1;have hgr:=hturn1.grown;have hsz:w.heap.size+2≤w1.heap.size:=(by have:=hgr.size;simp at this;omega);have E1:=fun o=>World.cell?_of_block (a:=⟨w.heap.size+1,o,none⟩) (hgr.block (w.heap.size+1) (by simp) (by simp;omega));have E2:=fun o=>World.cell?_of_block (a:=⟨w.heap.size,o,none⟩) (hgr.block w.heap.size (by simp;omega) (by simp;omega));have E3:=fun o=>World.frozen?_of_block (a:=⟨w.heap.size,o,none⟩) (hgr.block w.heap.size (by simp;omega) (by simp;omega));have m0:w1.cell? ⟨w.heap.size+1,0,none⟩=some (.string x0):=(E1 0).trans (by simp [go_sem]);have m1:w1.cell? ⟨w.heap.size+1,1,none⟩=some (.int .i64 x1):=(E1 1).trans (by simp [go_sem]);have m2:w1.cell? ⟨w.heap.size+1,2,none⟩=some (.bool x2):=(E1 2).trans (by simp [go_sem]);have m3:w1.cell? ⟨w.heap.size+1,3,none⟩=some (.int .i64 x3):=(E1 3).trans (by simp [go_sem]);have m4:w1.cell? ⟨w.heap.size+1,4,none⟩=some (.int .i64 x4):=(E1 4).trans (by simp [go_sem]);have m5:w1.cell? ⟨w.heap.size+1,5,none⟩=some (.slice x5 x6 x7):=(E1 5).trans (by simp [go_sem]);have r0:w1.cell? ⟨w.heap.size,0,none⟩=some (.string ⟨#[]⟩):=(E2 0).trans (by simp [go_sem]);have f0:w1.frozen? ⟨w.heap.size,0,none⟩=false:=(E3 0).trans (by simp [go_sem]);have r1:w1.cell? ⟨w.heap.size,1,none⟩=some (.int .i64 0):=(E2 1).trans (by simp [go_sem]);have f1:w1.frozen? ⟨w.heap.size,1,none⟩=false:=(E3 1).trans (by simp [go_sem]);have r2:w1.cell? ⟨w.heap.size,2,none⟩=some (.bool false):=(E2 2).trans (by simp [go_sem]);have f2:w1.frozen? ⟨w.heap.size,2,none⟩=false:=(E3 2).trans (by simp [go_sem]);have r3:w1.cell? ⟨w.heap.size,3,none⟩=some (.int .i64 0):=(E2 3).trans (by simp [go_sem]);have f3:w1.frozen? ⟨w.heap.size,3,none⟩=false:=(E3 3).trans (by simp [go_sem]);have r4:w1.cell? ⟨w.heap.size,4,none⟩=some (.int .i64 0):=(E2 4).trans (by simp [go_sem]);have f4:w1.frozen? ⟨w.heap.size,4,none⟩=false:=(E3 4).trans (by simp [go_sem]);have r5:w1.cell? ⟨w.heap.size,5,none⟩=some (.slice none 0 0):=(E2 5).trans (by simp [go_sem]);have f5:w1.frozen? ⟨w.heap.size,5,none⟩=false:=(E3 5).trans (by simp [go_sem]);have HG1:=H_ (gtr (HGl.out _ _) hgr);have HO1:=H_ hown1;clear E1 E2 E3 hgr hturn1 hown1)
 refine bodyPost_ret (v:=.tuple #[.agg #[.string x0,.int .i64 x1,.bool x2,.int .i64 x3,.int .i64 x4,.slice x5 x6 x7],.nilIface]) (by simp [results,Tryz.results163,go_sem,r0,r1,r2,r3,r4,r5]) rfl ⟨rfl,?_,?_⟩
 ·exact (((((HO1.out.setCell (a:=⟨w.heap.size,0,none⟩) (show b≠w.heap.size by omega) _).setCell (a:=⟨w.heap.size,1,none⟩) (show b≠w.heap.size by omega) _).setCell (a:=⟨w.heap.size,2,none⟩) (show b≠w.heap.size by omega) _).setCell (a:=⟨w.heap.size,3,none⟩) (show b≠w.heap.size by omega) _).setCell (a:=⟨w.heap.size,4,none⟩) (show b≠w.heap.size by omega) _).setCell (a:=⟨w.heap.size,5,none⟩) (show b≠w.heap.size by omega) _
 ·exact gnew (gnew (gnew (gnew (gnew (gnew HG1.out _ _) _ _) _ _) _ _) _ _) _ _
set_option maxRecDepth 100000 in
set_option maxHeartbeats 4000000 in
theorem take_no (b N:Nat) (D:DataW Value) (n:ByteArray) (w:World) (hn:n.size≤1048576) (hO:w.ownsMap Tryz.prog 9 RV b N D) (hh:Maps.has D (kS n)=false) (a0:Addr) (hl:0<w.heap.size) (ha:w.cell? ⟨0,0,none⟩=some (.iface 283 (.pointer (some a0)))) :
 Calls Tryz.prog 163 #[.map (some b),.string n] w fun e w'=>e=.returned (.tuple #[.agg #[.string ⟨#[]⟩,.int .i64 0,.bool false,.int .i64 0,.int .i64 0,.slice none 0 0],.iface 283 (.pointer (some a0))])∧Below w.heap.size w w':=by
 have HK:=H_ (Go.WideMaps.keyOf_string_mk (P:=Tryz.prog) (k:=9) Tryz.underlying9 (s:=n) (Nat.le_trans hn (by unfold maxLen;omega)))
 have HH:=H_ hh
 have HO:=H_ hO
 have hlt:=hO.lt
 clear hh hO
 have e:(.string n.data.toList:Lit)=kS n:=rfl
 rw [e] at HK
 generalize kS n=K0 at *
 clear e
 obtain ⟨v,ps,hrun,hv⟩:=(HO.out.alloc (.cells #[.string ⟨#[]⟩,.int .i64 0,.bool false,.int .i64 0,.int .i64 0,.slice none 0 0] 150)).look_ok keyedS Tryz.underlying222 (zeroM _) (zd:=.held (.agg #[.string ⟨#[]⟩,.int .i64 0,.bool false,.int .i64 0,.int .i64 0,.slice none 0 0])) (zp:=[]) rfl HK.out
 obtain rfl:v=.agg #[.string ⟨#[]⟩,.int .i64 0,.bool false,.int .i64 0,.int .i64 0,.slice none 0 0]:=by
  rw [Maps.atKey_of_not_has HH.out] at hv
  simp [RV] at hv
  exact hv.1
 rw [HH.out] at hrun
 clear hv
 go_enter Tryz.func163,Tryz.ntmps163
 go_wp2_with fail
 go_region
 all_goals try go_wp2
 refine bodyPost_ret (v:=.tuple #[.agg #[.string ⟨#[]⟩,.int .i64 0,.bool false,.int .i64 0,.int .i64 0,.slice none 0 0],.iface 283 (.pointer (some a0))]) (by simp [results,Tryz.results163,go_sem]) rfl ⟨rfl,?_⟩
 repeat' first|exact Below.refl _ _|apply Below.setCell|apply Below.alloc|apply Below.drew
 all_goals first|omega|(simp;done)|(simp;omega)
end CatR
end Go.Proofs.YtnceeaccbcfopaaGreatDoor
