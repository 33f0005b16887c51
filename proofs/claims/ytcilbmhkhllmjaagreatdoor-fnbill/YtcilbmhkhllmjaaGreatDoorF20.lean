/-
  The program's map of meters by their names: made, and taken from. The condition: at most 6 meters, their names of at most 1048576 bytes; the program's own error stands in its variable.
  errors.Is at the program's own sentinel: of the sentinel it tells true, of nil false. No condition.
  What the program calls right meters. The conditions: at most 1048576 of them, each small; the program's own error stands in its variable.
  What the program calls right credits. The condition: at most 1048576 of them, each account of at most 1048576 bytes.
  What the program calls a right catalog. The conditions: all in it is small; the program's own error stands in its variable.
-/
import Derived.OwnWalk
import Derived.Carry
import Derived.LaidEql
import Derived.Stop.Asserts
import Derived.RowKitTokens
import Derived.Test.YtcilbmhkhllmjaaGreatDoorF19
namespace Go.Proofs.YtcilbmhkhllmjaaGreatDoor
open Go.ChangeShapes Go.WideShapes Go.ChangeAt Go.RowKit
set_option linter.unusedVariables false
namespace CatR
def MesV (ao:Option Addr) (len:Nat) (ms:List Me) (V:Nat→Value) (w:World):Prop:=len=0∨∃b off,ao=some ⟨b,off,none⟩∧b<w.heap.size∧∀j,j<len→∃ta tc,V j=.agg #[.string (mN ms j),.int .i64 (ms.getD j Me.zero).g,.bool (ms.getD j Me.zero).wh,.int .i64 (ms.getD j Me.zero).f,.int .i64 (ms.getD j Me.zero).l,.slice ta (ms.getD j Me.zero).ts.length tc]∧w.cell? ⟨b,off+j*6,none⟩=some (.string (mN ms j))∧w.cell? ⟨b,off+j*6+1,none⟩=some (.int .i64 (ms.getD j Me.zero).g)∧w.cell? ⟨b,off+j*6+2,none⟩=some (.bool (ms.getD j Me.zero).wh)∧w.cell? ⟨b,off+j*6+3,none⟩=some (.int .i64 (ms.getD j Me.zero).f)∧w.cell? ⟨b,off+j*6+4,none⟩=some (.int .i64 (ms.getD j Me.zero).l)∧w.cell? ⟨b,off+j*6+5,none⟩=some (.slice ta (ms.getD j Me.zero).ts.length tc)∧Tis ta (ms.getD j Me.zero).ts.length (ms.getD j Me.zero).ts w
theorem MesV.below {ao:Option Addr} {len:Nat} {ms:List Me} {V:Nat→Value} {w w':World} (h:MesV ao len ms V w) (hb:Below w.heap.size w w'):MesV ao len ms V w':=by
 rcases h with h|⟨b,off,rfl,hl,h⟩
 ·exact .inl h
 ·refine .inr ⟨b,off,rfl,by have:=hb.size;omega,fun j hj=>?_⟩
  obtain ⟨ta,tc,hv,h0,h1,h2,h3,h4,h5,h6⟩:=h j hj
  have f:=fun k=>hb.cell (p:=⟨b,k,none⟩) hl
  exact ⟨ta,tc,hv,(f _).trans h0,(f _).trans h1,(f _).trans h2,(f _).trans h3,(f _).trans h4,(f _).trans h5,h6.below hb⟩
theorem MesV.is {ao:Option Addr} {len:Nat} {ms:List Me} {V:Nat→Value} {w:World} (h:MesV ao len ms V w) (j:Nat) (hj:j<len):IsMe (V j) (ms.getD j Me.zero) w:=by
 rcases h with h|⟨b,off,rfl,hl,h⟩
 ·omega
 ·obtain ⟨ta,tc,hv,_,_,_,_,_,_,h6⟩:=h j hj
  exact ⟨ta,tc,hv,h6⟩
theorem mes_v {ao:Option Addr} {len:Nat} {ms:List Me} {w:World} (h:Mes ao len ms w):∃V,MesV ao len ms V w:=by
 rcases h.2 with h|⟨b,off,rfl,hl,h⟩
 ·exact ⟨fun _=>undef,.inl h⟩
 ·refine ⟨fun j=>if hj:j<len then .agg #[.string (mN ms j),.int .i64 (ms.getD j Me.zero).g,.bool (ms.getD j Me.zero).wh,.int .i64 (ms.getD j Me.zero).f,.int .i64 (ms.getD j Me.zero).l,.slice (Classical.choose (h j hj)) (ms.getD j Me.zero).ts.length (Classical.choose (Classical.choose_spec (h j hj)))] else undef,.inr ⟨b,off,rfl,hl,fun j hj=>?_⟩⟩
  obtain ⟨h0,h1,h2,h3,h4,h5,h6⟩:=Classical.choose_spec (Classical.choose_spec (h j hj))
  exact ⟨_,_,by simp only [hj,dif_pos],h0,h1,h2,h3,h4,h5,h6⟩
theorem keyedS:Maps.Keyed Tryz.prog 9:=Maps.string_keyed Tryz.underlying9
set_option maxRecDepth 100000 in
set_option maxHeartbeats 4000000 in
theorem byName_any (ao:Option Addr) (len cap:Nat) (ms:List Me) (V:Nat→Value) (w:World) (hlen:len≤6) (hn:∀i,i<len→(mN ms i).size≤1048576) (hI:MesV ao len ms V w) :
 Calls Tryz.prog 119 #[.slice ao len cap] w fun e w'=>e=.returned (.map (some w.heap.size))∧w'.ownsMap Tryz.prog 9 RV w.heap.size len (mapD ms V len)∧Below w.heap.size w w':=by
 have HI:=H_ hI
 have HN:=H_ hn
 clear hI hn
 have HO0:Hid ((w.alloc (.map #[] 0)).ownsMap Tryz.prog 9 RV w.heap.size 0 (mapD ms V 0)):=H_ (World.ownsMap_made w Tryz.prog 9 RV)
 have HB0:Hid (Below w.heap.size w (w.alloc (.map #[] 0))):=H_ ((Below.refl _ _).alloc (Nat.le_refl _) _)
 have hmm:=@run_makeMap Tryz.prog
 go_enter Tryz.func119,Tryz.ntmps119
 go_wp2_with fail
 go_loopw [9] (fun z wr=>∃k:Nat,k≤len∧z=.int .i64 k∧Hid (Below w.heap.size w wr)∧Hid (wr.ownsMap Tryz.prog 9 RV w.heap.size k (mapD ms V k))) (fun z _=>len-(intOf z).toNat)
 case atStart=>exact ⟨0,by omega,rfl,HB0,HO0⟩
 case round =>
  obtain ⟨k,hk,rfl,HB,HO⟩:=hrel
  by_cases hlt:k<len
  ·have hlt2:(k:Int)<(len:Int):=by omega
   rcases HI.out.below HB.out with h|⟨b,off,rfl,hbl,h⟩
   ·omega
   obtain ⟨ta,tc,hv,c0,c1,c2,c3,c4,c5,_⟩:=h k hlt
   clear h
   have HK:=H_ (Go.WideMaps.keyOf_string_mk (P:=Tryz.prog) (k:=9) Tryz.underlying9 (s:=mN ms k) (Nat.le_trans (HN.out k hlt) (by unfold maxLen;omega)))
   have HV:Hid (RV (.agg #[.string (mN ms k),.int .i64 (ms.getD k Me.zero).g,.bool (ms.getD k Me.zero).wh,.int .i64 (ms.getD k Me.zero).f,.int .i64 (ms.getD k Me.zero).l,.slice ta (ms.getD k Me.zero).ts.length tc])=some (.held (V k),[])):=H_ (by rw [hv];rfl)
   have HD:Hid (mapD ms V (k+1)=(mapD ms V k).put (kS (mN ms k)) (.held (V k))):=rfl
   have HKE:Hid (kS (mN ms k)=.string (mN ms k).data.toList):=rfl
   have HAl:=H_ (fun o=>HB.out.alloc HB.out.size o)
   have HOl:=H_ (fun o=>HO.out.alloc o)
   generalize (mapD ms V k)=D0 at *
   generalize kS (mN ms k)=K0 at *
   generalize mN ms k=n at *
   generalize V k=X at *
   generalize (ms.getD k Me.zero).ts.length=tl at *
   generalize (ms.getD k Me.zero).g=g at *
   generalize (ms.getD k Me.zero).wh=wh at *
   generalize (ms.getD k Me.zero).f=f at *
   generalize (ms.getD k Me.zero).l=l at *
   clear hv
   go_wp2_with (at_mapUpdate;refine wpList_mapUpdate_own _ rfl _ _ _ 166 rfl 9 117 keyedS Tryz.underlying166 RV w.heap.size k D0 rfl (HOl.out _) (by unfold maxLen;omega) _ _ _ rfl rfl HK.out (.held X) [] HV.out ?_;intro w1 hown1 hgrow1)
   have HO1:Hid (w1.ownsMap Tryz.prog 9 RV w.heap.size (k+1) (mapD ms V (k+1))):=H_ (by rw [HD.out,HKE.out];exact hown1)
   have HB1:Hid (Below w.heap.size w w1):=H_ ((HAl.out _).grown hgrow1 (HAl.out _).size (fun k e=>by cases e;exact Nat.le_refl _))
   clear hown1 hgrow1
   go_wp2_with fail
   go_roundw
   case rel=>exact ⟨k+1,by omega,by go_num,HB1,H_ HO1.out⟩
   case measure=>simp [intOf];omega
  ·obtain rfl:k=len:=by omega
   go_wp2_with fail
   go_ret
   exact ⟨rfl,HO.out,HB.out⟩
theorem gtr {w w1 w2:World} {g:Option Nat} (h1:w.grownBy w1 g) (h2:w1.grownBy w2 g):w.grownBy w2 g :=
 ⟨h2.os.trans h1.os,h2.tape.trans h1.tape,h2.output.trans h1.output,Nat.le_trans h1.size h2.size,fun k hk hne=>(h2.block k (by have:=h1.size;omega) hne).trans (h1.block k hk hne)⟩
theorem gnew {w wx:World} {g:Option Nat} (h:w.grownBy wx g) (o:Nat) (v:Value):w.grownBy (wx.setCell ⟨w.heap.size,o,none⟩ v) g:=by
 refine ⟨h.os,h.tape,h.output,by have:=h.size;simpa using this,fun k hk hne=>?_⟩
 have e:(wx.setCell ⟨w.heap.size,o,none⟩ v).heap[k]? = wx.heap[k]?:=by
  simp only [World.setCell]
  rw [Array.getElem?_modify,if_neg (by omega)]
 exact e.trans (h.block k hk hne)
def Laid (w:World):Prop:=0<w.heap.size∧∃a:Addr,w.cell? ⟨0,0,none⟩=some (.iface 265 (.pointer (some a)))
theorem Laid.below {w w':World} (h:Laid w) (hb:Below w.heap.size w w'):Laid w':=by
 obtain ⟨h1,a,h2⟩:=h
 exact ⟨by have:=hb.size;omega,a,(hb.cell (p:=⟨_,0,none⟩) h1).trans h2⟩
theorem zeroM (w:World):(zeroValue 117).run Tryz.prog w=.ok (.agg #[.string ⟨#[]⟩,.int .i64 0,.bool false,.int .i64 0,.int .i64 0,.slice none 0 0]) w:=by kernel_rfl
set_option maxRecDepth 100000 in
set_option maxHeartbeats 4000000 in
theorem take_has (b N:Nat) (D:DataW Value) (n:ByteArray) (x0:ByteArray) (x1:Int) (x2:Bool) (x3 x4:Int) (x5:Option Addr) (x6 x7:Nat) (w:World) (hn:n.size≤1048576) (hO:w.ownsMap Tryz.prog 9 RV b N D) (hh:Maps.has D (kS n)=true) (hx:∀z,D.atKey (kS n) z=.held (.agg #[.string x0,.int .i64 x1,.bool x2,.int .i64 x3,.int .i64 x4,.slice x5 x6 x7])) :
 Calls Tryz.prog 120 #[.map (some b),.string n] w fun e w'=>e=.returned (.tuple #[.agg #[.string x0,.int .i64 x1,.bool x2,.int .i64 x3,.int .i64 x4,.slice x5 x6 x7],.nilIface])∧w'.ownsMap Tryz.prog 9 RV b N (D.del (kS n))∧w.grownBy w' (some b):=by
 have HK:=H_ (Go.WideMaps.keyOf_string_mk (P:=Tryz.prog) (k:=9) Tryz.underlying9 (s:=n) (Nat.le_trans hn (by unfold maxLen;omega)))
 have HH:=H_ hh
 have HX:=H_ hx
 have HO:=H_ hO
 have hlt:=hO.lt
 clear hh hx hO
 have e:(.string n.data.toList:Lit)=kS n:=rfl
 rw [e] at HK
 generalize kS n=K0 at *
 clear e
 obtain ⟨W,hW⟩:∃W,W=w.alloc (.cells #[.string ⟨#[]⟩,.int .i64 0,.bool false,.int .i64 0,.int .i64 0,.slice none 0 0] 117):=⟨_,rfl⟩
 obtain ⟨v,ps,hrun,hv⟩:=(HO.out.alloc (.cells #[.string ⟨#[]⟩,.int .i64 0,.bool false,.int .i64 0,.int .i64 0,.slice none 0 0] 117)).look_ok keyedS Tryz.underlying166 (zeroM _) (zd:=.held (.agg #[.string ⟨#[]⟩,.int .i64 0,.bool false,.int .i64 0,.int .i64 0,.slice none 0 0])) (zp:=[]) rfl HK.out
 obtain rfl:v=.agg #[.string x0,.int .i64 x1,.bool x2,.int .i64 x3,.int .i64 x4,.slice x5 x6 x7]:=by
  rw [HX.out] at hv
  simp [RV] at hv
  exact hv.1
 rw [HH.out] at hrun
 clear hv hW W
 have HOl:=H_ (fun (o1 o2:Obj)=>(HO.out.alloc o1).alloc o2)
 have HGl:=H_ (fun (o1 o2:Obj)=>gtr (World.grownBy_alloc w o1 (some b)) (World.grownBy_alloc (w.alloc o1) o2 (some b)))
 go_enter Tryz.func120,Tryz.ntmps120
 go_wp2_with (at_delete;refine wpList_delete_own _ rfl _ _ 166 9 rfl 117 keyedS Tryz.underlying166 RV b N D rfl (HOl.out _ _) _ _ rfl HK.out ?_;intro w1 hown1 hturn1;have hgr:=hturn1.grown;have hsz:w.heap.size+2≤w1.heap.size:=(by have:=hgr.size;simp at this;omega);have E1:=fun o=>World.cell?_of_block (a:=⟨w.heap.size+1,o,none⟩) (hgr.block (w.heap.size+1) (by simp) (by simp;omega));have E2:=fun o=>World.cell?_of_block (a:=⟨w.heap.size,o,none⟩) (hgr.block w.heap.size (by simp;omega) (by simp;omega));have E3:=fun o=>World.frozen?_of_block (a:=⟨w.heap.size,o,none⟩) (hgr.block w.heap.size (by simp;omega) (by simp;omega));have m0:w1.cell? ⟨w.heap.size+1,0,none⟩=some (.string x0):=(E1 0).trans (by simp [go_sem]);have m1:w1.cell? ⟨w.heap.size+1,1,none⟩=some (.int .i64 x1):=(E1 1).trans (by simp [go_sem]);have m2:w1.cell? ⟨w.heap.size+1,2,none⟩=some (.bool x2):=(E1 2).trans (by simp [go_sem]);have m3:w1.cell? ⟨w.heap.size+1,3,none⟩=some (.int .i64 x3):=(E1 3).trans (by simp [go_sem]);have m4:w1.cell? ⟨w.heap.size+1,4,none⟩=some (.int .i64 x4):=(E1 4).trans (by simp [go_sem]);have m5:w1.cell? ⟨w.heap.size+1,5,none⟩=some (.slice x5 x6 x7):=(E1 5).trans (by simp [go_sem]);have r0:w1.cell? ⟨w.heap.size,0,none⟩=some (.string ⟨#[]⟩):=(E2 0).trans (by simp [go_sem]);have f0:w1.frozen? ⟨w.heap.size,0,none⟩=false:=(E3 0).trans (by simp [go_sem]);have r1:w1.cell? ⟨w.heap.size,1,none⟩=some (.int .i64 0):=(E2 1).trans (by simp [go_sem]);have f1:w1.frozen? ⟨w.heap.size,1,none⟩=false:=(E3 1).trans (by simp [go_sem]);have r2:w1.cell? ⟨w.heap.size,2,none⟩=some (.bool false):=(E2 2).trans (by simp [go_sem]);have f2:w1.frozen? ⟨w.heap.size,2,none⟩=false:=(E3 2).trans (by simp [go_sem]);have r3:w1.cell? ⟨w.heap.size,3,none⟩=some (.int .i64 0):=(E2 3).trans (by simp [go_sem]);have f3:w1.frozen? ⟨w.heap.size,3,none⟩=false:=(E3 3).trans (by simp [go_sem]);have r4:w1.cell? ⟨w.heap.size,4,none⟩=some (.int .i64 0):=(E2 4).trans (by simp [go_sem]);have f4:w1.frozen? ⟨w.heap.size,4,none⟩=false:=(E3 4).trans (by simp [go_sem]);have r5:w1.cell? ⟨w.heap.size,5,none⟩=some (.slice none 0 0):=(E2 5).trans (by simp [go_sem]);have f5:w1.frozen? ⟨w.heap.size,5,none⟩=false:=(E3 5).trans (by simp [go_sem]);have HG1:=H_ (gtr (HGl.out _ _) hgr);have HO1:=H_ hown1;clear E1 E2 E3 hgr hturn1 hown1)
 refine bodyPost_ret (v:=.tuple #[.agg #[.string x0,.int .i64 x1,.bool x2,.int .i64 x3,.int .i64 x4,.slice x5 x6 x7],.nilIface]) (by simp [results,Tryz.results120,go_sem,r0,r1,r2,r3,r4,r5]) rfl ⟨rfl,?_,?_⟩
 ·exact (((((HO1.out.setCell (a:=⟨w.heap.size,0,none⟩) (show b≠w.heap.size by omega) _).setCell (a:=⟨w.heap.size,1,none⟩) (show b≠w.heap.size by omega) _).setCell (a:=⟨w.heap.size,2,none⟩) (show b≠w.heap.size by omega) _).setCell (a:=⟨w.heap.size,3,none⟩) (show b≠w.heap.size by omega) _).setCell (a:=⟨w.heap.size,4,none⟩) (show b≠w.heap.size by omega) _).setCell (a:=⟨w.heap.size,5,none⟩) (show b≠w.heap.size by omega) _
 ·exact gnew (gnew (gnew (gnew (gnew (gnew HG1.out _ _) _ _) _ _) _ _) _ _) _ _
set_option maxRecDepth 100000 in
set_option maxHeartbeats 4000000 in
theorem take_no (b N:Nat) (D:DataW Value) (n:ByteArray) (w:World) (hn:n.size≤1048576) (hO:w.ownsMap Tryz.prog 9 RV b N D) (hh:Maps.has D (kS n)=false) (a0:Addr) (hl:0<w.heap.size) (ha:w.cell? ⟨0,0,none⟩=some (.iface 265 (.pointer (some a0)))) :
 Calls Tryz.prog 120 #[.map (some b),.string n] w fun e w'=>e=.returned (.tuple #[.agg #[.string ⟨#[]⟩,.int .i64 0,.bool false,.int .i64 0,.int .i64 0,.slice none 0 0],.iface 265 (.pointer (some a0))])∧Below w.heap.size w w':=by
 have HK:=H_ (Go.WideMaps.keyOf_string_mk (P:=Tryz.prog) (k:=9) Tryz.underlying9 (s:=n) (Nat.le_trans hn (by unfold maxLen;omega)))
 have HH:=H_ hh
 have HO:=H_ hO
 have hlt:=hO.lt
 clear hh hO
 have e:(.string n.data.toList:Lit)=kS n:=rfl
 rw [e] at HK
 generalize kS n=K0 at *
 clear e
 obtain ⟨v,ps,hrun,hv⟩:=(HO.out.alloc (.cells #[.string ⟨#[]⟩,.int .i64 0,.bool false,.int .i64 0,.int .i64 0,.slice none 0 0] 117)).look_ok keyedS Tryz.underlying166 (zeroM _) (zd:=.held (.agg #[.string ⟨#[]⟩,.int .i64 0,.bool false,.int .i64 0,.int .i64 0,.slice none 0 0])) (zp:=[]) rfl HK.out
 obtain rfl:v=.agg #[.string ⟨#[]⟩,.int .i64 0,.bool false,.int .i64 0,.int .i64 0,.slice none 0 0]:=by
  rw [Maps.atKey_of_not_has HH.out] at hv
  simp [RV] at hv
  exact hv.1
 rw [HH.out] at hrun
 clear hv
 go_enter Tryz.func120,Tryz.ntmps120
 go_wp2_with fail
 go_region
 all_goals try go_wp2
 refine bodyPost_ret (v:=.tuple #[.agg #[.string ⟨#[]⟩,.int .i64 0,.bool false,.int .i64 0,.int .i64 0,.slice none 0 0],.iface 265 (.pointer (some a0))]) (by simp [results,Tryz.results120,go_sem]) rfl ⟨rfl,?_⟩
 repeat' first|exact Below.refl _ _|apply Below.setCell|apply Below.alloc|apply Below.drew
 all_goals first|omega|(simp;done)|(simp;omega)
end CatR
end Go.Proofs.YtcilbmhkhllmjaaGreatDoor
namespace Go.Proofs.YtcilbmhkhllmjaaGreatDoor
open Go.RowKit Go.Extern.Stop Go.Stop Go.Extern
set_option linter.unusedVariables false
namespace IsR
theorem typeOfS (v:Value) (w:World):(Extern.ReflectliteType.typeOf #[.iface 265 v]).run Tryz.prog w=.ok (.iface 237 (.agg #[.pointer (some ⟨4,265,none⟩)])) w:=by kernel_rfl
def compF:TypeId→Sem Value:=fun t=>do Rtype.noPackHeld "Comparable" t;pure (.bool (←typeInfo t).comparable)
theorem compS (w:World):((Extern.ReflectliteType.method compF) #[.agg #[.pointer (some ⟨4,265,none⟩)]]).run Tryz.prog w=.ok (.bool true) w:=by kernel_rfl
theorem methodComp (v:Value) (w:World):(Go.method 401 237 v "Comparable").run Tryz.prog w=.ok (235,v) w:=by kernel_rfl
theorem isComp:(Tryz.prog.info? 265).map (·.comparable)=some true:=by kernel_rfl
theorem isSize:(Tryz.prog.info? 289).map (·.size)=some 1:=by kernel_rfl
theorem is_same (a:Addr) (w:World) :
 Calls Tryz.prog 121 #[.iface 265 (.pointer (some a)),.iface 265 (.pointer (some a))] w fun e w'=>e=.returned (.bool true)∧w'=w:=by
 obtain ⟨i,hi,hcmp⟩:=Option.map_eq_some_iff.1 isComp
 obtain ⟨j,hj,hjs⟩:=Option.map_eq_some_iff.1 isSize
 have h8:=@run_callFunc_extern Tryz.prog 142 _ Extern.ReflectliteType.typeOf Tryz.func142 (by kernel_rfl) (by kernel_rfl) (by kernel_rfl) (by kernel_rfl)
 have h32:=@run_callFunc_extern Tryz.prog 235 _ (Extern.ReflectliteType.method compF) Tryz.func235 (by kernel_rfl) (by kernel_rfl) (by kernel_rfl) (by kernel_rfl)
 have tT:=typeOfS
 have cT:=compS
 have mR:=methodComp
 have heq:=run_eql_iface_ptr_same (P:=Tryz.prog) w a Tryz.underlying169 Tryz.underlying265 hi hcmp hj
 go_enter Tryz.func121,Tryz.ntmps121
 go_wp2
 refine wp_loop_rounds 1 ?_
 rw [rounds_succ]
 go_wp2
 go_ret
 exact ⟨rfl,rfl⟩
theorem is_nil (b:Addr) (w:World) :
 Calls Tryz.prog 121 #[.nilIface,.iface 265 (.pointer (some b))] w fun e w'=>e=.returned (.bool false)∧w'=w:=by
 have hn:=run_eql_iface_nil_left (P:=Tryz.prog) w 265 (.pointer (some b)) Tryz.underlying169
 go_enter Tryz.func121,Tryz.ntmps121
 go_wp2
 go_ret
 exact ⟨rfl,rfl⟩
end IsR
end Go.Proofs.YtcilbmhkhllmjaaGreatDoor
namespace Go.Proofs.YtcilbmhkhllmjaaGreatDoor
open Go.ChangeShapes Go.WideShapes Go.ChangeAt Go.RowKit
set_option linter.unusedVariables false
namespace CatR
set_option maxRecDepth 100000 in
set_option maxHeartbeats 8000000 in
theorem impl_ms (ao:Option Addr) (len cap:Nat) (ms:List Me) (V:Nat→Value) (w:World) (hz:ms.length=len) (hlen:len≤1048576) (hS:∀i,i<len→(ms.getD i Me.zero).Small) (hI:MesV ao len ms V w) (hL:Laid w) :
 Calls Tryz.prog 90 #[.slice ao len cap] w fun e w'=>e=.returned (.bool (msB ms))∧Below w.heap.size w w':=by
 by_cases h6:6<len
 ·have h6':(6:Int)<(len:Int):=by omega
  have HR:=H_ (ms_many (ms:=ms) (by omega))
  clear hI hS hL
  go_enter Tryz.func90,Tryz.ntmps90
  go_wp2_with fail
  go_ret
  exact ⟨ret_bool HR.out.symm,Below.refl _ _⟩
 ·have h6':¬(6:Int)<(len:Int):=by omega
  have HN:=H_ (byName_any ao len cap ms V w (by omega) (fun i hi=>(hS i hi).1) hI)
  have HI:=H_ hI
  have HS:=H_ hS
  have HL:=H_ hL
  have HZ:=H_ hz
  obtain ⟨hl0,a0,hl1⟩:=hL
  clear hI hS
  go_enter Tryz.func90,Tryz.ntmps90
  go_wp2_with fail
  refine HN.out.mono ?_
  rintro e w1 ⟨rfl,hown1,hb1⟩
  have HB1:=H_ hb1
  have HO1:=H_ hown1
  clear hown1 hb1
  go_wp2_with fail
  go_loopw [17] (fun z wr=>∃k:Nat,k≤len∧z=.int .i64 k∧Hid (MOk ms k)∧Hid (Below w.heap.size w wr)∧Hid (wr.ownsMap Tryz.prog 9 RV w.heap.size len (delD ms (mapD ms V len) k))) (fun z _=>len-(intOf z).toNat)
  case atStart=>exact ⟨0,by omega,rfl,H_ (MOk.zero ms),HB1,HO1⟩
  case round =>
   obtain ⟨k,hk,rfl,HK,HB,HO⟩:=hrel
   have hwr:=HO.out.lt
   by_cases hlt:k<len
   ·have hlt2:(k:Int)<(len:Int):=by omega
    have hkl:k<ms.length:=by have:=HZ.out;omega
    rcases HI.out with h|⟨b,off,rfl,hb0,h⟩
    ·omega
    have HP:Hid (∀j,j+1=k→w.cell? ⟨b,off+j*6,none⟩=some (.string (mN ms j))):=H_ (fun j hj=>by
     obtain ⟨_,_,_,q,_⟩:=h j (by omega)
     exact q)
    have HVS:Hid (∀j,j<len→∃x0 x1 x2 x3 x4 x5 x6 x7,V j=.agg #[.string x0,.int .i64 x1,.bool x2,.int .i64 x3,.int .i64 x4,.slice x5 x6 x7]):=H_ (fun j hj=>by
     obtain ⟨_,_,q,_⟩:=h j hj
     exact ⟨_,_,_,_,_,_,_,_,q⟩)
    obtain ⟨ta,tc,hv,_,_,_,_,_,_,_⟩:=h k hlt
    have hbl:b<wr.heap.size:=by have:=HB.out.size;omega
    have hcw:=fun o=>HB.out.cell (p:=⟨b,o,none⟩) hb0
    obtain ⟨ta',tc',hv',c0,c1,c2,c3,c4,c5,_⟩:=h k hlt
    have eta:ta=ta'∧tc=tc':=by rw [hv] at hv';simpa using hv'
    obtain ⟨rfl,rfl⟩:=eta
    clear hv' h
    replace c0:=(hcw _).trans c0
    replace c1:=(hcw _).trans c1
    replace c2:=(hcw _).trans c2
    replace c3:=(hcw _).trans c3
    replace c4:=(hcw _).trans c4
    replace c5:=(hcw _).trans c5
    have HMR:=H_ (fun W (hW:Below w.heap.size w W)=>impl_meter (V k) (ms.getD k Me.zero) W (HS.out k hlt).1 (HS.out k hlt).2 ((HI.out.below hW).is k hlt))
    have HWR:=H_ (ms_wrong (ms:=ms) hkl)
    have HFA:=H_ (ms_falls (ms:=ms) hkl)
    have HAL:=H_ (fun i (hi:i<k) e=>ms_alike (ms:=ms) hkl hi e)
    have HMO:=H_ (fun (h1:mB (ms.getD k Me.zero)=true) h2=>HK.out.more (mB_iff.1 h1) h2)
    have HHD:=H_ (has_delD ms (mapD ms V len) (mN ms k) k)
    have HHM:Hid (Maps.has (mapD ms V len) (kS (mN ms k))=true):=H_ ((has_mapD ms V (mN ms k) len).2 ⟨k,hlt,rfl⟩)
    have HDS:Hid (delD ms (mapD ms V len) (k+1)=(delD ms (mapD ms V len) k).del (kS (mN ms k))):=rfl
    have hnz:(mN ms k).size≤1048576:=(HS.out k hlt).1
    rw [hv] at HMR
    generalize mB (ms.getD k Me.zero)=r at *
    cases hh:Maps.has (delD ms (mapD ms V len) k) (kS (mN ms k))
    ·
     obtain ⟨i,hi,hie⟩:∃i,i<k∧mN ms i=mN ms k:=by
      apply Classical.byContradiction
      intro hne
      have:=HHD.out.2 ⟨HHM.out,fun i hi e=>hne ⟨i,hi,e⟩⟩
      rw [hh] at this
      cases this
     have HR:=H_ (HAL.out i hi hie)
     obtain ⟨j,hj⟩:∃j,j+1=k:=⟨k-1,by omega⟩
     have HT:=H_ (take_no w.heap.size len _ (mN ms k) (wr.alloc (.cells #[.string (mN ms k),.int .i64 (ms.getD k Me.zero).g,.bool (ms.getD k Me.zero).wh,.int .i64 (ms.getD k Me.zero).f,.int .i64 (ms.getD k Me.zero).l,.slice ta (ms.getD k Me.zero).ts.length tc] 117)) hnz (HO.out.alloc _) hh a0 (by have:=HB.out.size;simp only [World.alloc,Array.size_push];omega) (((HB.out.alloc HB.out.size _).cell (p:=⟨0,0,none⟩) hl0).trans hl1))
     generalize mN ms k=n at *
     generalize (ms.getD k Me.zero).ts.length=tl at *
     generalize (ms.getD k Me.zero).g=g at *
     generalize (ms.getD k Me.zero).wh=wh at *
     generalize (ms.getD k Me.zero).f=f at *
     generalize (ms.getD k Me.zero).l=l at *
     clear hv hh HWR HFA HMO HAL HHD HHM HDS hie hi hcw
     go_wp2_with fail
     refine HT.out.mono ?_
     rintro e w2 ⟨rfl,hbT⟩
     have hg:(wr.alloc (.cells #[.string n,.int .i64 g,.bool wh,.int .i64 f,.int .i64 l,.slice ta tl tc] 117)).grownBy w2 (some w.heap.size):=⟨hbT.os,hbT.tape,hbT.output,hbT.size,fun k hk _=>hbT.block k hk⟩
     have hsz:wr.heap.size<w2.heap.size:=by have:=hg.size;simp at this;omega
     have EM:=fun o=>World.cell?_of_block (a:=⟨wr.heap.size,o,none⟩) (hg.block wr.heap.size (by simp) (by simp;omega))
     have m0:w2.cell? ⟨wr.heap.size,0,none⟩=some (.string n):=(EM 0).trans (by simp [go_sem])
     have m1:w2.cell? ⟨wr.heap.size,1,none⟩=some (.int .i64 g):=(EM 1).trans (by simp [go_sem])
     have m2:w2.cell? ⟨wr.heap.size,2,none⟩=some (.bool wh):=(EM 2).trans (by simp [go_sem])
     have m3:w2.cell? ⟨wr.heap.size,3,none⟩=some (.int .i64 f):=(EM 3).trans (by simp [go_sem])
     have m4:w2.cell? ⟨wr.heap.size,4,none⟩=some (.int .i64 l):=(EM 4).trans (by simp [go_sem])
     have m5:w2.cell? ⟨wr.heap.size,5,none⟩=some (.slice ta tl tc):=(EM 5).trans (by simp [go_sem])
     have HB2:Hid (Below w.heap.size w w2):=H_ ((HB.out.alloc HB.out.size _).grown hg (HB.out.alloc HB.out.size _).size (fun k e=>by cases e;exact Nat.le_refl _))
     have g0:w2.cell? ⟨0,0,none⟩=some (.iface 265 (.pointer (some a0))):=(HB2.out.cell (p:=⟨0,0,none⟩) hl0).trans hl1
     have hl2:0<w2.heap.size:=by have:=HB2.out.size;omega
     have p2:∀j,j+1=k→w2.cell? ⟨b,off+j*6,none⟩=some (.string (mN ms j)):=fun j hj=>(HB2.out.cell (p:=⟨b,_,none⟩) hb0).trans (HP.out j hj)
     have HI2:=H_ (HI.out.below HB2.out)
     clear EM c0 c1 c2 c3 c4 c5
     have p3:=p2 j hj
     clear p2 hg hbT HT
     have HIS:=H_ (fun w=>IsR.is_same a0 w)
     have hj1:IntKind.i64.wrap ((k:Int)-1)=(j:Int):=by rw [IntKind.wrap_i64];omega
     have hj2:0<k:=by omega
     have hj3:(j:Int)<(len:Int):=by omega
     have hb2:b<w2.heap.size:=by have:=HB2.out.size;omega
     have HF:Hid (∀o m,Below w.heap.size w ((w2.alloc o).drewN m)):=H_ (fun o m=>bdrewN (HB2.out.alloc HB2.out.size o) m)
     clear hj
     go_wp2_with (go_at_call 121;refine (HIS.out _).mono ?_;rintro e w' ⟨rfl,rfl⟩)
     go_quiet (fail)
     go_wp2_with fail
     go_ret
     exact ⟨ret_bool HR.out.symm,HF.out _ _⟩
    ·have HAP:=H_ (HHD.out.1 hh).2
     obtain ⟨q,hq,hqz⟩:=at_mapD_some ms V (mN ms k) len ⟨k,hlt,rfl⟩
     obtain ⟨x0,x1,x2,x3,x4,x5,x6,x7,hvq⟩:=HVS.out q hq
     have HT:=H_ (take_has w.heap.size len _ (mN ms k) x0 x1 x2 x3 x4 x5 x6 x7 (wr.alloc (.cells #[.string (mN ms k),.int .i64 (ms.getD k Me.zero).g,.bool (ms.getD k Me.zero).wh,.int .i64 (ms.getD k Me.zero).f,.int .i64 (ms.getD k Me.zero).l,.slice ta (ms.getD k Me.zero).ts.length tc] 117)) hnz (HO.out.alloc _) hh (fun z=>by rw [at_delD ms _ (mN ms k) z k HAP.out,hqz z,hvq]))
     have HHE:=H_ hh
     have HRI:Hid (lt (mN ms k) (mN ms (k-1))=false→0<k→lt (mN ms (k-1)) (mN ms k)=true):=H_ (fun h1 h0=>by
      cases h2:lt (mN ms (k-1)) (mN ms k)
      ·exact absurd (lt_total h2 h1) (HAP.out (k-1) (by omega))
      ·rfl)
     clear hh hqz hvq
     rw [←HDS.out] at HT
     generalize mN ms k=n at *
     generalize (ms.getD k Me.zero).ts.length=tl at *
     generalize (ms.getD k Me.zero).g=g at *
     generalize (ms.getD k Me.zero).wh=wh at *
     generalize (ms.getD k Me.zero).f=f at *
     generalize (ms.getD k Me.zero).l=l at *
     clear hv HAL HHD HHM HDS hcw HHE
     go_wp2_with fail
     refine HT.out.mono ?_
     rintro e w2 ⟨rfl,hown2,hg⟩
     have HO2:=H_ hown2
     have hsz:wr.heap.size<w2.heap.size:=by have:=hg.size;simp at this;omega
     have EM:=fun o=>World.cell?_of_block (a:=⟨wr.heap.size,o,none⟩) (hg.block wr.heap.size (by simp) (by simp;omega))
     have m0:w2.cell? ⟨wr.heap.size,0,none⟩=some (.string n):=(EM 0).trans (by simp [go_sem])
     have m1:w2.cell? ⟨wr.heap.size,1,none⟩=some (.int .i64 g):=(EM 1).trans (by simp [go_sem])
     have m2:w2.cell? ⟨wr.heap.size,2,none⟩=some (.bool wh):=(EM 2).trans (by simp [go_sem])
     have m3:w2.cell? ⟨wr.heap.size,3,none⟩=some (.int .i64 f):=(EM 3).trans (by simp [go_sem])
     have m4:w2.cell? ⟨wr.heap.size,4,none⟩=some (.int .i64 l):=(EM 4).trans (by simp [go_sem])
     have m5:w2.cell? ⟨wr.heap.size,5,none⟩=some (.slice ta tl tc):=(EM 5).trans (by simp [go_sem])
     have HB2:Hid (Below w.heap.size w w2):=H_ ((HB.out.alloc HB.out.size _).grown hg (HB.out.alloc HB.out.size _).size (fun k e=>by cases e;exact Nat.le_refl _))
     have g0:w2.cell? ⟨0,0,none⟩=some (.iface 265 (.pointer (some a0))):=(HB2.out.cell (p:=⟨0,0,none⟩) hl0).trans hl1
     have hl2:0<w2.heap.size:=by have:=HB2.out.size;omega
     have p2:∀j,j+1=k→w2.cell? ⟨b,off+j*6,none⟩=some (.string (mN ms j)):=fun j hj=>(HB2.out.cell (p:=⟨b,_,none⟩) hb0).trans (HP.out j hj)
     have HI2:=H_ (HI.out.below HB2.out)
     clear EM c0 c1 c2 c3 c4 c5
     clear hg hown2 HT
     have HIS:=H_ (fun w=>IsR.is_nil a0 w)
     have hb2:b<w2.heap.size:=by have:=HB2.out.size;omega
     have HF:Hid (∀o m,Below w.heap.size w ((w2.alloc o).drewN m)):=H_ (fun o m=>bdrewN (HB2.out.alloc HB2.out.size o) m)
     have HFO:Hid (∀o m,((w2.alloc o).drewN m).ownsMap Tryz.prog 9 RV w.heap.size len (delD ms (mapD ms V len) (k+1))):=H_ (fun o m=>by obtain ⟨es,c,h⟩:=HO2.out.alloc o;exact ⟨es,c,h⟩)
     rcases (show k=0∨∃j,j+1=k from by rcases k with _|j;exact .inl rfl;exact .inr ⟨j,rfl⟩) with rfl|⟨j,hj⟩
     ·go_wp2_with (go_at_call 121;refine (HIS.out _).mono ?_;rintro e w' ⟨rfl,rfl⟩)
      go_quiet (fail)
      go_wp2_with fail
      refine (HMR.out _ (HF.out _ _)).mono ?_
      rintro e w5 ⟨rfl,hb5⟩
      have HB5:=H_ ((HF.out _ _).trans (hb5.mono (HF.out _ _).size))
      have HO5:=H_ ((HFO.out _ _).kept (row:=none) ⟨hb5.os,hb5.tape,hb5.output,hb5.size,fun k hk _=>hb5.block k hk⟩ (by simp))
      clear hb5
      cases r
      ·have HR:=H_ (HWR.out rfl)
       go_wp2_with fail
       go_ret
       exact ⟨ret_bool HR.out.symm,HB5.out⟩
      ·have HM:=H_ (HMO.out rfl (fun h=>absurd h (by omega)))
       go_wp2_with fail
       go_roundw
       case rel=>exact ⟨0+1,by omega,by go_num,HM,HB5,HO5⟩
       case measure=>simp [intOf];omega
     ·have p3:=p2 j hj
      clear p2
      have hj1:IntKind.i64.wrap ((k:Int)-1)=(j:Int):=by rw [IntKind.wrap_i64];omega
      have hj2:0<k:=by omega
      have hj3:(j:Int)<(len:Int):=by omega
      have ejk:k-1=j:=by omega
      rw [ejk] at HFA HRI HMO
      clear hj ejk
      cases hfl:Op.bytesLess n.toList (mN ms j).toList
      ·have HRI2:=H_ (HRI.out hfl hj2)
       go_wp2_with (go_at_call 121;refine (HIS.out _).mono ?_;rintro e w' ⟨rfl,rfl⟩)
       go_quiet (fail)
       go_wp2_with fail
       refine (HMR.out _ (HF.out _ _)).mono ?_
       rintro e w5 ⟨rfl,hb5⟩
       have HB5:=H_ ((HF.out _ _).trans (hb5.mono (HF.out _ _).size))
       have HO5:=H_ ((HFO.out _ _).kept (row:=none) ⟨hb5.os,hb5.tape,hb5.output,hb5.size,fun k hk _=>hb5.block k hk⟩ (by simp))
       clear hb5
       cases r
       ·have HR:=H_ (HWR.out rfl)
        go_wp2_with fail
        go_ret
        exact ⟨ret_bool HR.out.symm,HB5.out⟩
       ·have HM:=H_ (HMO.out rfl (fun _=>HRI2.out))
        go_wp2_with fail
        go_roundw
        case rel=>exact ⟨k+1,by omega,by go_num,HM,HB5,HO5⟩
        case measure=>simp [intOf];omega
      ·have HR:=H_ (HFA.out hj2 hfl)
       go_wp2_with (go_at_call 121;refine (HIS.out _).mono ?_;rintro e w' ⟨rfl,rfl⟩)
       go_quiet (fail)
       go_wp2_with fail
       go_ret
       exact ⟨ret_bool HR.out.symm,HF.out _ _⟩
   ·obtain rfl:k=len:=by omega
    have HR:Hid (msB ms=true):=H_ (ms_end (by have:=HZ.out;omega) (by rw [HZ.out];exact HK.out))
    go_wp2_with fail
    go_ret
    exact ⟨ret_bool HR.out.symm,HB.out⟩
end CatR
namespace CatR
def cP (cs:List Cr):Nat→ByteArray
 | 0=>⟨#[]⟩
 | k+1=>cA cs k
theorem leq_yes {a p:ByteArray} (h:(Op.bytesLess a.toList p.toList||(a.toList==p.toList))=true):lt p a=false:=by
 rw [Bool.or_eq_true] at h
 rcases h with h|h
 ·exact lt_asymm h
 ·rw [toList_inj (beq_iff_eq.1 h)];exact lt_irrefl _
theorem leq_no {a p:ByteArray} (h:(Op.bytesLess a.toList p.toList||(a.toList==p.toList))=false):lt p a=true:=by
 rw [Bool.or_eq_false_iff] at h
 cases h2:lt p a
 ·have:=lt_total h2 h.1
  rw [this] at h
  simp at h
 ·rfl
theorem cs_le {cs:List Cr} {k:Nat} (hk:k<cs.length) (h:(Op.bytesLess (cA cs k).toList (cP cs k).toList||((cA cs k).toList==(cP cs k).toList))=true):csB cs=false:=by
 have h2:=leq_yes h
 match k,hk,h2 with
 | 0,hk,h2 =>
  refine cs_name hk ?_
  apply NameR.name_size
  rcases Nat.lt_or_ge (cA cs 0).size 1 with h3|h3
  ·exact .inl h3
  ·have:=lt_empty h3
   rw [show lt ⟨#[]⟩ (cA cs 0)=lt (cP cs 0) (cA cs 0) from rfl,h2] at this
   cases this
 | k+1,hk,h2=>exact cs_flat hk (by omega) h2
theorem cs_go {cs:List Cr} {k:Nat} (h:COk cs k) (hl:(Op.bytesLess (cA cs k).toList (cP cs k).toList||((cA cs k).toList==(cP cs k).toList))=false) (hn:NameR.nameB (cA cs k)=true) (hm:0≤cM cs k∧cM cs k≤1000000000000):COk cs (k+1):=by
 refine h.more hn hm (fun h0=>?_)
 have h2:=leq_no hl
 match k,h0,h2 with
 | k+1,_,h2=>exact h2
set_option maxRecDepth 100000 in
set_option maxHeartbeats 8000000 in
theorem impl_cs (ao:Option Addr) (len cap:Nat) (cs:List Cr) (w:World) (hlen:len≤1048576) (hS:∀i,i<len→(cs.getD i Cr.zero).a.size≤1048576) (hI:Crs ao len cs w) :
 Calls Tryz.prog 91 #[.slice ao len cap] w fun e w'=>e=.returned (.bool (csB cs))∧Below w.heap.size w w':=by
 have hz:=hI.1
 by_cases h6:6<len
 ·have h6':(6:Int)<(len:Int):=by omega
  have HR:=H_ (cs_many (cs:=cs) (by omega))
  clear hI hS
  go_enter Tryz.func91,Tryz.ntmps91
  go_wp2_with fail
  go_ret
  exact ⟨ret_bool HR.out.symm,Below.refl _ _⟩
 ·have h6':¬(6:Int)<(len:Int):=by omega
  have HI:=H_ hI
  have HS:=H_ hS
  have HZ:=H_ hz
  clear hI hS
  go_enter Tryz.func91,Tryz.ntmps91
  go_wp2_with fail
  go_loopw [3,11] (fun x z wr=>∃k:Nat,k≤len∧x=.string (cP cs k)∧z=.int .i64 k∧Hid (COk cs k)∧Hid (Below w.heap.size w wr)) (fun x z _=>len-(intOf z).toNat)
  case atStart=>exact ⟨0,by omega,rfl,rfl,H_ (COk.zero cs),H_ (Below.refl _ _)⟩
  case round =>
   obtain ⟨k,hk,rfl,rfl,HK,HB⟩:=hrel
   by_cases hlt:k<len
   ·have hlt2:(k:Int)<(len:Int):=by omega
    have hkl:k<cs.length:=by have:=HZ.out;omega
    obtain ⟨b,off,rfl,hbl,d0,d1⟩:=crs_at (HI.out.below HB.out) k hlt
    have c0:wr.cell? ⟨b,off+k*2,none⟩=some (.string (cA cs k)):=d0
    have c1:wr.cell? ⟨b,off+k*2+1,none⟩=some (.int .i64 (cM cs k)):=d1
    clear d0 d1
    have hsz:(cA cs k).size≤1048576:=HS.out k hlt
    have HN:=H_ (fun w=>NameR.impl_any (cA cs k) w hsz)
    have HW:=H_ (fun w=>within64 (cM cs k) 0 1000000000000 w)
    have HLE:=H_ (cs_le hkl)
    have HNA:=H_ (cs_name hkl)
    have HMI:=H_ (cs_micro hkl)
    have HGO:=H_ (cs_go HK.out)
    have HP:Hid (cP cs (k+1)=cA cs k):=rfl
    generalize NameR.nameB (cA cs k)=r at *
    generalize cA cs k=a at *
    generalize cP cs k=p at *
    generalize cM cs k=m at *
    have HAl:=H_ (fun o=>HB.out.alloc HB.out.size o)
    cases hle:(Op.bytesLess a.toList p.toList||(a.toList==p.toList))
    ·cases r
     ·have HR:=H_ (HNA.out rfl)
      go_wp2_with (first|(go_at_call 42;refine (HN.out _).mono ?_;rintro e w' ⟨rfl,rfl⟩)|(go_at_call 66;refine (HW.out _).mono ?_;rintro e w' ⟨rfl,rfl⟩))
      go_ret
      exact ⟨ret_bool HR.out.symm,HAl.out _⟩
     ·by_cases hm:0≤m∧m≤1000000000000
      ·have HM:=H_ (HGO.out hle rfl hm)
       rw [decide_eq_true hm] at HW
       go_wp2_with (first|(go_at_call 42;refine (HN.out _).mono ?_;rintro e w' ⟨rfl,rfl⟩)|(go_at_call 66;refine (HW.out _).mono ?_;rintro e w' ⟨rfl,rfl⟩))
       go_roundw
       case rel=>exact ⟨k+1,by omega,by rw [HP.out],by go_num,HM,H_ (HAl.out _)⟩
       case measure=>simp [intOf];omega
      ·have HR:=H_ (HMI.out hm)
       rw [decide_eq_false hm] at HW
       go_wp2_with (first|(go_at_call 42;refine (HN.out _).mono ?_;rintro e w' ⟨rfl,rfl⟩)|(go_at_call 66;refine (HW.out _).mono ?_;rintro e w' ⟨rfl,rfl⟩))
       go_ret
       exact ⟨ret_bool HR.out.symm,HAl.out _⟩
    ·have HR:=H_ (HLE.out hle)
     go_wp2_with fail
     go_ret
     exact ⟨ret_bool HR.out.symm,HAl.out _⟩
   ·obtain rfl:k=len:=by omega
    have HR:Hid (csB cs=true):=H_ (cs_end (by have:=HZ.out;omega) (by rw [HZ.out];exact HK.out))
    go_wp2_with fail
    go_ret
    exact ⟨ret_bool HR.out.symm,HB.out⟩
end CatR
namespace CatR
set_option maxHeartbeats 4000000 in
theorem impl_ca (v:Value) (c:Ca) (w:World) (hS:c.Small) (hC:IsCa v c w) (hL:Laid w) :
 Calls Tryz.prog 41 #[v] w fun e w'=>e=.returned (.bool (caB c))∧Below w.heap.size w w':=by
 obtain ⟨ma,mc,ca,cc,rfl,hM,hR⟩:=hC
 obtain ⟨ms,cs⟩:=c
 obtain ⟨s1,s2,s3,s4⟩:=hS
 simp only at *
 obtain ⟨V,hV⟩:=mes_v hM
 have HM:Hid (∀W,Below w.heap.size w W→Calls Tryz.prog 90 #[.slice ma ms.length mc] W fun e w'=>e=.returned (.bool (msB ms))∧Below W.heap.size W w'):=H_ (fun W hW=>impl_ms ma ms.length mc ms V W rfl s1 s2 (hV.below hW) (hL.below hW))
 have HR:Hid (∀W,Below w.heap.size w W→Calls Tryz.prog 91 #[.slice ca cs.length cc] W fun e w'=>e=.returned (.bool (csB cs))∧Below W.heap.size W w'):=H_ (fun W hW=>impl_cs ca cs.length cc cs W s3 s4 (hR.below hW))
 have HV:Hid (caB ⟨ms,cs⟩=(msB ms&&csB cs)):=rfl
 clear hM hR s1 s2 s3 s4 hV hL
 generalize msB ms=r1 at *
 generalize csB cs=r2 at *
 generalize caB ⟨ms,cs⟩=R at *
 generalize ms.length=ml at *
 generalize cs.length=cl at *
 have HB:Hid (Below w.heap.size w (w.alloc (.cells #[.slice ma ml mc,.slice ca cl cc] 36))):=H_ ((Below.refl _ _).alloc (Nat.le_refl _) _)
 have hw1:∀w1,Below (w.alloc (.cells #[.slice ma ml mc,.slice ca cl cc] 36)).heap.size (w.alloc (.cells #[.slice ma ml mc,.slice ca cl cc] 36)) w1→w.heap.size<w1.heap.size∧w1.cell? ⟨w.heap.size,1,none⟩=some (.slice ca cl cc):=fun w1 hb=>⟨by have:=hb.size;simp at this;omega,(hb.cell (p:=⟨w.heap.size,1,none⟩) (by simp)).trans (by simp [go_sem])⟩
 have HW1:=H_ hw1
 clear hw1
 go_enter Tryz.func41,Tryz.ntmps41
 go_wp2_with fail
 refine (HM.out _ HB.out).mono ?_
 rintro e w1 ⟨rfl,hb1⟩
 have HB1:=H_ (HB.out.trans (hb1.mono HB.out.size))
 obtain ⟨hl,p1⟩:=HW1.out _ hb1
 clear hb1
 cases r1
 ·go_wp2_with fail
  go_ret
  exact ⟨ret_bool (by rw [HV.out];rfl),HB1.out⟩
 ·go_wp2_with fail
  refine (HR.out _ HB1.out).mono ?_
  rintro e w2 ⟨rfl,hb2⟩
  have HB2:=H_ (HB1.out.trans (hb2.mono HB1.out.size))
  clear hb2
  go_wp2_with fail
  go_ret
  exact ⟨ret_bool (by rw [HV.out];rfl),HB2.out⟩
end CatR
end Go.Proofs.YtcilbmhkhllmjaaGreatDoor
