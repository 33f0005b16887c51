/-
  The program's charges of windows that stand by their meters. The conditions: sizes of at most 1048576; the program's variables hold what its text lays.
  The program's charges, rated. The conditions: sizes of at most 1048576; the program's variables hold what its text lays.
  impl.BillOf. The conditions: sizes of at most 1048576; the program's variables hold what its text lays.
-/
import Derived.Deep.RegionHeld3
import Derived.Test.YtcilbmhkhllmjaaGreatDoorF27
namespace Go.Proofs.YtcilbmhkhllmjaaGreatDoor
open Go.ChangeShapes Go.WideShapes Go.ChangeAt Go.RowKit
set_option linter.unusedVariables false
namespace BilR
open LtR WinR
open RowG (Rws cellsAll cellsAll_app own_below getD_mem)
open CatR (Blk Blk.new Me Ca mFd MsRight IsMe IsCa caB ResM mO)
structure CG where
 i:ByteArray
 u:Int
 mv:Value
def CG.zero:CG:=⟨⟨#[]⟩,0,.agg #[]⟩
def CG.cells (x:CG):List Value:=[.string x.i,.int .i64 x.u,.func (.func 95) #[x.mv] #[]]
theorem CG.len (x:CG):x.cells.length=3:=rfl
theorem CG.one (x:CG):∀v∈x.cells,v.oneCell'=true:=by
 intro v hv
 simp only [CG.cells,List.mem_cons,List.not_mem_nil,or_false] at hv
 rcases hv with rfl|rfl|rfl<;>rfl
def MeI (mv:Value) (m:Me) (W:World):Prop:=IsMe mv m W∧∃n g wh f l b tl tc z,mv=.agg #[.string n,.int .i64 g,.bool wh,.int .i64 f,.int .i64 l,.slice (some ⟨b,0,none⟩) tl tc]∧b<W.heap.size∧W.cell? ⟨b,0,none⟩=some (.int .i64 z)
theorem MeI.below {mv:Value} {m:Me} {W W':World} (h:MeI mv m W) (hb:Below W.heap.size W W'):MeI mv m W':=by
 obtain ⟨h1,n,g,wh,f,l,b,tl,tc,z,e,hl,hc⟩:=h
 exact ⟨h1.below hb,n,g,wh,f,l,b,tl,tc,z,e,Nat.lt_of_lt_of_le hl hb.size,(hb.cell (p:=⟨b,0,none⟩) hl).trans hc⟩
theorem MeI.grown {mv:Value} {m:Me} {W W':World} {v:Value} (h:MeI mv m W) (hg:W.grownBy W' v.ownBlock) (hs:∀b,v.ownBlock=some b→∃s,W.cell? ⟨b,0,none⟩=some (.string s)):MeI mv m W':=by
 obtain ⟨h1,n,g,wh,f,l,b,tl,tc,z,e,hl,hc⟩:=h
 have hne:some b≠v.ownBlock:=fun q=>by
  obtain ⟨s,hs⟩:=hs b q.symm
  rw [hc] at hs;cases hs
 have eb:=hg.block b hl hne
 have f':=fun o=>World.cell?_of_block (a:=⟨b,o,none⟩) eb
 refine ⟨?_,n,g,wh,f,l,b,tl,tc,z,e,Nat.lt_of_lt_of_le hl hg.size,(f' 0).trans hc⟩
 obtain ⟨ta,tc',e1,hT⟩:=h1
 have e2:=e1.symm.trans e
 simp only [Value.agg.injEq,Array.mk.injEq,List.cons.injEq,Value.slice.injEq,and_true] at e2
 obtain ⟨_,_,_,_,_,rfl,_,_⟩:=e2
 refine ⟨_,tc',e1,hT.1,hT.2.imp id ?_⟩
 rintro ⟨b2,off,e3,_,hc2⟩
 simp only [Option.some.injEq,Addr.mk.injEq,and_true] at e3
 obtain ⟨rfl,rfl⟩:=e3
 exact ⟨_,_,rfl,Nat.lt_of_lt_of_le hl hg.size,fun j hj=>⟨(f' _).trans (hc2 j hj).1,(f' _).trans (hc2 j hj).2⟩⟩
def GsOk (ms:List Me) (rs:List WP) (k:Nat) (gs:List CG) (W:World):Prop:=gs.length=k∧∀i,i<k→(gs.getD i CG.zero).i=(rs.getD i WP.zero).d.m∧(gs.getD i CG.zero).u=useV ms (rs.getD i WP.zero).d∧MeI (gs.getD i CG.zero).mv (mFd (rs.getD i WP.zero).d.m ms) W
theorem GsOk.below {ms:List Me} {rs:List WP} {k:Nat} {gs:List CG} {W W':World} (h:GsOk ms rs k gs W) (hb:Below W.heap.size W W'):GsOk ms rs k gs W':=⟨h.1,fun i hi=>⟨(h.2 i hi).1,(h.2 i hi).2.1,(h.2 i hi).2.2.below hb⟩⟩
theorem GsOk.grown {ms:List Me} {rs:List WP} {k:Nat} {gs:List CG} {W W':World} {v:Value} (h:GsOk ms rs k gs W) (hg:W.grownBy W' v.ownBlock) (hs:∀b,v.ownBlock=some b→∃s,W.cell? ⟨b,0,none⟩=some (.string s)):GsOk ms rs k gs W':=⟨h.1,fun i hi=>⟨(h.2 i hi).1,(h.2 i hi).2.1,(h.2 i hi).2.2.grown hg hs⟩⟩
theorem GsOk.more {ms:List Me} {rs:List WP} {k:Nat} {gs:List CG} {W:World} (h:GsOk ms rs k gs W) (x:CG) (h1:x.i=(rs.getD k WP.zero).d.m) (h2:x.u=useV ms (rs.getD k WP.zero).d) (h3:MeI x.mv (mFd (rs.getD k WP.zero).d.m ms) W):GsOk ms rs (k+1) (gs ++ [x]) W:=by
 refine ⟨by simp [h.1],fun i hi=>?_⟩
 by_cases e:i=k
 ·subst e
  have:(gs ++ [x]).getD i CG.zero=x:=by simp [List.getD,←h.1]
  rw [this]
  exact ⟨h1,h2,h3⟩
 ·have:(gs ++ [x]).getD i CG.zero=gs.getD i CG.zero:=by
   have hl:i<gs.length:=by have:=h.1;omega
   simp [List.getD,List.getElem?_append_left hl]
  rw [this]
  exact h.2 i (by omega)
theorem own_text {W:World} {base:Nat} {v:Value} {gs:List CG} (h:W.ownsRow base 138 3 v gs.length (cellsAll CG.cells gs)) (h0:gs.length=0→v=.slice none 0 0):∀b,v.ownBlock=some b→∃s,W.cell? ⟨b,0,none⟩=some (.string s):=by
 intro b hb
 by_cases q:gs.length=0
 ·rw [h0 q] at hb;cases hb
 ·obtain ⟨ao,cap,rfl,hm⟩:=RowG.own_made (z:=CG.zero) CG.len h
  rcases hm.own with q2|⟨g,rfl,_,_⟩
  ·exact absurd q2 q
  have:g=b:=by simpa [Value.ownBlock] using hb
  subst this
  rcases hm.rws with q2|⟨b2,off,e,hl,hc⟩
  ·exact absurd q2 q
  simp only [Option.some.injEq,Addr.mk.injEq,and_true] at e
  obtain ⟨rfl,rfl⟩:=e
  exact ⟨_,hc 0 (by omega) 0 (by omega)⟩
theorem infoCG:(Tryz.prog.info? 138).map (fun i=>(i.zero,i.size,i.bytes))=some (some (.agg #[.string ⟨#[]⟩,.int .i64 0,.nilFunc]),3,32):=by kernel_rfl
def BxC (w:World) (B1 B2:Nat) (a0 a1 a2 a3 a4 a5 a6 a7 b0 b1 b2 b3 b4 b5:Value) (W:World):Prop:=Below w.heap.size w W∧B1<W.heap.size∧B2<W.heap.size∧W.cell? ⟨B1,0,none⟩=some a0∧W.cell? ⟨B1,1,none⟩=some a1∧W.cell? ⟨B1,2,none⟩=some a2∧W.cell? ⟨B1,3,none⟩=some a3∧W.cell? ⟨B1,4,none⟩=some a4∧W.cell? ⟨B1,5,none⟩=some a5∧W.cell? ⟨B1,6,none⟩=some a6∧W.cell? ⟨B1,7,none⟩=some a7∧W.cell? ⟨B2,0,none⟩=some b0∧W.cell? ⟨B2,1,none⟩=some b1∧W.cell? ⟨B2,2,none⟩=some b2∧W.cell? ⟨B2,3,none⟩=some b3∧W.cell? ⟨B2,4,none⟩=some b4∧W.cell? ⟨B2,5,none⟩=some b5
theorem BxC.below {w:World} {B1 B2:Nat} {a0 a1 a2 a3 a4 a5 a6 a7 b0 b1 b2 b3 b4 b5:Value} {W W':World} (h:BxC w B1 B2 a0 a1 a2 a3 a4 a5 a6 a7 b0 b1 b2 b3 b4 b5 W) (hb:Below W.heap.size W W'):BxC w B1 B2 a0 a1 a2 a3 a4 a5 a6 a7 b0 b1 b2 b3 b4 b5 W':=by
 obtain ⟨h0,l1,l2,p0,p1,p2,p3,p4,p5,p6,p7,p8,p9,p10,p11,p12,p13⟩:=h
 have f:=fun o=>hb.cell (p:=⟨B1,o,none⟩) l1
 have g:=fun o=>hb.cell (p:=⟨B2,o,none⟩) l2
 have hs:=hb.size
 exact ⟨h0.trans (hb.mono h0.size),by omega,by omega,(f 0).trans p0,(f 1).trans p1,(f 2).trans p2,(f 3).trans p3,(f 4).trans p4,(f 5).trans p5,(f 6).trans p6,(f 7).trans p7,(g 0).trans p8,(g 1).trans p9,(g 2).trans p10,(g 3).trans p11,(g 4).trans p12,(g 5).trans p13⟩
theorem BxC.drew {w:World} {B1 B2:Nat} {a0 a1 a2 a3 a4 a5 a6 a7 b0 b1 b2 b3 b4 b5:Value} {W:World} (h:BxC w B1 B2 a0 a1 a2 a3 a4 a5 a6 a7 b0 b1 b2 b3 b4 b5 W):BxC w B1 B2 a0 a1 a2 a3 a4 a5 a6 a7 b0 b1 b2 b3 b4 b5 W.drew:=⟨h.1.drew,h.2⟩
theorem BxC.grown {w:World} {B1 B2:Nat} {a0 a1 a2 a3 a4 a5 a6 a7 b0 b1 b2 b3 b4 b5:Value} {W W':World} {v:Value} {wr:World} {base e size n:Nat} {xs:List Value} (h:BxC w B1 B2 a0 a1 a2 a3 a4 a5 a6 a7 b0 b1 b2 b3 b4 b5 W) (hg:W.grownBy W' v.ownBlock) (ho:wr.ownsRow base e size v n xs) (h1:v.ownBlock≠some B1) (h2:v.ownBlock≠some B2) (hbase:w.heap.size≤base):BxC w B1 B2 a0 a1 a2 a3 a4 a5 a6 a7 b0 b1 b2 b3 b4 b5 W':=by
 obtain ⟨h0,l1,l2,p0,p1,p2,p3,p4,p5,p6,p7,p8,p9,p10,p11,p12,p13⟩:=h
 have f:=fun o=>World.cell?_of_block (a:=⟨B1,o,none⟩) (hg.block B1 l1 (fun e=>h1 e.symm))
 have g:=fun o=>World.cell?_of_block (a:=⟨B2,o,none⟩) (hg.block B2 l2 (fun e=>h2 e.symm))
 have hs:=hg.size
 exact ⟨h0.grown hg h0.size (fun c e=>Nat.le_trans hbase (ho.lt c e).1),by omega,by omega,(f 0).trans p0,(f 1).trans p1,(f 2).trans p2,(f 3).trans p3,(f 4).trans p4,(f 5).trans p5,(f 6).trans p6,(f 7).trans p7,(g 0).trans p8,(g 1).trans p9,(g 2).trans p10,(g 3).trans p11,(g 4).trans p12,(g 5).trans p13⟩
theorem ne_empty {n:ByteArray} (h:1≤n.size):n.toList.isEmpty=false:=by
 cases hn:n.toList with
 | nil =>
  rw [ByteArray.toList_eq] at hn;have:n.data.toList.length=0:=by rw [hn];rfl
  have h2:n.data.toList.length=n.size:=rfl
  omega
 | cons x l=>rfl
theorem charge_cells (x:CG) (W:World):∀(j:Nat) u,(CG.cells x)[j]? = some u→(W.alloc (.cells #[.string x.i,.int .i64 x.u,.func (.func 95) #[x.mv] #[]] 138)).cell? ((⟨W.heap.size,0,none⟩:Addr).add j)=some u:=by
 intro j u hx
 have hB:=(Blk.new W (CG.cells x) 138).2 j (by have:=(List.getElem?_eq_some_iff.1 hx).1;exact this)
 rw [hx] at hB
 have e:((⟨W.heap.size,0,none⟩:Addr).add j)=⟨W.heap.size,j,none⟩:=by
  by_cases h:j=0
  ·subst h;simp [Addr.add]
  ·simp [Addr.add,h]
 rw [e]
 exact hB
def ChR (ms:List Me) (rs:List WP) (base:Nat) (e:Ending) (W:World):Prop :=
 (∃v,e=.returned (.tuple #[v,.int .i64 6])∧∃p∈rs,hasM ms p.d.m=false) ∨
 ((
  ∀p∈rs,hasM ms p.d.m=true)∧((∃v,e=.returned (.tuple #[v,.int .i64 10])∧¬(rs.map (fun p:WP=>p.d.m)).Nodup) ∨
  (∃v gs,e=.returned (.tuple #[v,.int .i64 0])∧Ris (fun p:WP=>p.d.m) rs∧W.ownsRow base 138 3 v gs.length (cellsAll CG.cells gs)∧GsOk ms rs rs.length gs W)))
set_option maxRecDepth 100000 in
set_option maxHeartbeats 8000000 in
theorem charges_in (ma:Option Addr) (ml mc:Nat) (ca:Option Addr) (cl cc:Nat) (ms:List Me) (bo:Option Addr) (cap:Nat) (rs:List WP) (w:World) (hlen:rs.length≤1048576)
 (hI:Rws 8 WP.cells WP.zero bo rs w) (hs:rs.Pairwise (fun x y=>lt y.d.m x.d.m=false))
 (hM:∀p∈rs,∀W,Below w.heap.size w W→Calls Tryz.prog 93 #[.agg #[.slice ma ml mc,.slice ca cl cc],.string p.d.m] W fun e w'=>(∃mv,e=.returned mv∧(∃n g wh f l ta tl tc,mv=.agg #[.string n,.int .i64 g,.bool wh,.int .i64 f,.int .i64 l,.slice ta tl tc]∧g=(mFd p.d.m ms).g∧(hasM ms p.d.m=true→n=p.d.m∧1≤n.size)∧(hasM ms p.d.m=false→n=⟨#[]⟩))∧(hasM ms p.d.m=true→MeI mv (mFd p.d.m ms) w'))∧Below W.heap.size W w')
 (hV:∀p∈rs,hasM ms p.d.m=true→∀W,Below w.heap.size w W→Calls Tryz.prog 94 #[.agg p.cells.toArray,.int .i64 (mFd p.d.m ms).g] W fun e w'=>e=.returned (.int .i64 (useV ms p.d))∧Below W.heap.size W w') :
 Calls Tryz.prog 44 #[.agg #[.slice ma ml mc,.slice ca cl cc],.slice bo rs.length cap] w fun e w'=>ChR ms rs w.heap.size e w'∧Below w.heap.size w w':=by
 obtain ⟨i0,hi,hz0,hz1,hz2⟩:=info_parts infoCG
 have hmf:∀(fn:Fn) (first cap:Array Value) (w:World),(Instr.makeFunc fn first cap).run Tryz.prog w=.ok (.func fn first cap) w:=fun _ _ _ _=>rfl
 have HI:=H_ hI
 have HM:=H_ hM
 have HV:=H_ hV
 have HTW:Hid (∀W,Below w.heap.size w W→Calls Tryz.prog 96 #[.slice bo rs.length cap] W fun e w'=>TwR rs e∧Below W.heap.size W w'):=H_ (fun W hW=>twice_one bo cap rs W hlen hs (hI.below hW))
 obtain ⟨len,hl⟩:∃len,len=rs.length:=⟨_,rfl⟩
 rw [←hl] at hlen HTW ⊢
 have HL:=H_ hl
 clear hI hs hM hV hl
 obtain ⟨W0,hW0⟩:∃z,z=w.alloc (.cells #[.slice ma ml mc,.slice ca cl cc] 36):=⟨_,rfl⟩
 have HB0:Hid (Below w.heap.size w W0):=H_ (by rw [hW0];exact (Below.refl _ _).alloc (Nat.le_refl _) _)
 have HA0:Hid (Blk w.heap.size [.slice ma ml mc,.slice ca cl cc] W0):=H_ (by rw [hW0];exact Blk.new w _ _)
 have HW:=H_ hW0
 have HS0:Hid (w.heap.size+1≤W0.heap.size):=H_ (by rw [hW0];simp)
 clear hW0
 go_enter Tryz.func44,Tryz.ntmps44
 go_wp2_with fail
 rw [←HW.out]
 clear HW
 go_loopw [6,12] (fun v z wr=>∃(k:Nat) (gs:List CG),k≤len∧z=.int .i64 k∧Hid (gs.length=0→v=.slice none 0 0)∧Hid (wr.ownsRow (w.heap.size+1) 138 3 v gs.length (cellsAll CG.cells gs))∧Hid (GsOk ms rs k gs wr)∧Hid (∀i,i<k→hasM ms (rs.getD i WP.zero).d.m=true)∧Hid (Blk w.heap.size [.slice ma ml mc,.slice ca cl cc] wr)∧Hid (Below w.heap.size w wr)) (fun v z _=>len-(intOf z).toNat)
 case atStart=>exact ⟨0,[],by omega,rfl,H_ (fun _=>rfl),H_ (World.ownsRow_nil _ _ _ _),H_ ⟨rfl,fun i h=>absurd h (by omega)⟩,H_ (fun i h=>absurd h (by omega)),HA0,HB0⟩
 case round =>
  clear HA0 HB0
  obtain ⟨k,gs,hk,rfl,HNIL,HO,HG,HH,HA,HB⟩:=hrel
  by_cases hlt:k<len
  ·have hlt2:(k:Int)<(len:Int):=by omega
   have hlk:k<rs.length:=by have:=HL.out;omega
   obtain ⟨b',off,e0,hbl,hc⟩:∃b off,bo=some ⟨b,off,none⟩∧b<wr.heap.size∧∀i,i<8→wr.cell? ⟨b,off+k*8+i,none⟩=(rs.getD k WP.zero).cells[i]?:=by
    rcases HI.out.below HB.out with h0|⟨b,off,e,hl,hc⟩
    ·omega
    ·exact ⟨b,off,e,hl,fun i hi=>hc k hlk i hi⟩
   subst e0
   have hmem:=getD_mem (z:=WP.zero) rs k hlk
   have HMK:=H_ (HM.out _ hmem)
   have HVK:=H_ (HV.out _ hmem)
   have HMORE:=H_ (fun (x:CG) (W:World) (h:GsOk ms rs k gs W) h1 h2 h3=>GsOk.more h x h1 h2 h3)
   have HHM:Hid (hasM ms (rs.getD k WP.zero).d.m=true→∀i,i<k+1→hasM ms (rs.getD i WP.zero).d.m=true):=H_ (fun h i hi=>by
    by_cases e:i=k
    ·subst e;exact h
    ·exact HH.out i (by omega))
   have HNO:Hid (hasM ms (rs.getD k WP.zero).d.m=false→∃p∈rs,hasM ms p.d.m=false):=H_ (fun h=>⟨_,hmem,h⟩)
   have HGL:Hid (gs.length=k):=H_ HG.out.1
   generalize rs.getD k WP.zero=X at *
   obtain ⟨⟨xa,xm,xo,xe,xs,xx,xt,xh⟩,ta,tc,ha,hc'⟩:=X
   have c0:=hc 0 (by omega)
   have c1:=hc 1 (by omega)
   have c2:=hc 2 (by omega)
   have c3:=hc 3 (by omega)
   have c4:=hc 4 (by omega)
   have c5:=hc 5 (by omega)
   have c6:=hc 6 (by omega)
   have c7:=hc 7 (by omega)
   simp only [WP.cells,List.getElem?_cons_zero,List.getElem?_cons_succ,Nat.add_zero] at c0 c1 c2 c3 c4 c5 c6 c7
   simp only [WP.cells] at HVK
   dsimp only at HMK HVK HMORE HHM HNO
   clear hc hmem
   generalize hu:useV ms ⟨xa,xm,xo,xe,xs,xx,xt,xh⟩=uv at *
   generalize mFd xm ms=MM at *
   generalize hasM ms xm=hb at *
   generalize xt.length=l1 at *
   generalize xh.length=l2 at *
   clear hu
   obtain ⟨W1,hW1⟩:∃z,z=wr.alloc (.cells #[.string xa,.string xm,.int .i64 xo,.int .i64 xe,.int .i64 xs,.int .i64 xx,.slice ta l1 tc,.slice ha l2 hc'] 74):=⟨_,rfl⟩
   have hal:Below wr.heap.size wr W1:=by rw [hW1];exact (Below.refl _ _).alloc (Nat.le_refl _) _
   have HX1:Hid (Blk wr.heap.size [.string xa,.string xm,.int .i64 xo,.int .i64 xe,.int .i64 xs,.int .i64 xx,.slice ta l1 tc,.slice ha l2 hc'] W1):=H_ (by rw [hW1];exact Blk.new wr _ _)
   have HLT:Hid (∀b,u6.ownBlock=some b→b<wr.heap.size):=H_ (fun b e=>(HO.out.lt b e).2)
   have HB1:=H_ (HB.out.trans (hal.mono HB.out.size))
   have HA1:=H_ (HA.out.below hal)
   have HO1:=H_ (own_below HO.out hal)
   have HG1:=H_ (HG.out.below hal)
   have HSB:Hid (w.heap.size+1≤wr.heap.size):=H_ (by have:=HA.out.1;omega)
   have HW1:=H_ hW1
   clear hal hW1 HO HG HA HB
   have a0:=HA1.out.2 0 (by simp)
   have a1:=HA1.out.2 1 (by simp)
   have aL:=HA1.out.1
   simp only [List.getElem?_cons_zero,List.getElem?_cons_succ] at a0 a1
   rw [HW1.out] at a0 a1 aL
   obtain ⟨B1,hB1⟩:∃z,z=wr.heap.size:=⟨_,rfl⟩
   have HBE:=H_ hB1
   rw [←hB1] at HX1
   clear hB1
   go_wp2_with fail
   rw [←HW1.out,←HBE.out]
   clear HW1 a0 a1 aL c0 c1 c2 c3 c4 c5 c6 c7
   refine (HMK.out W1 HB1.out).mono ?_
   rintro e w2 ⟨⟨mv,rfl,⟨n,g,wh,f,l,ta2,tl2,tc2,rfl,hg,hn1,hn2⟩,hme⟩,hb2⟩
   have HB2:=H_ (HB1.out.trans (hb2.mono HB1.out.size))
   have HX2S:Hid (wr.heap.size<w2.heap.size):=H_ (by have:=HX1.out.1;have:=hb2.size;have:=HBE.out;omega)
   have HX2:=H_ (HX1.out.below hb2)
   have HA2:=H_ (HA1.out.below hb2)
   have HO2:=H_ (own_below HO1.out hb2)
   have HG2:=H_ (HG1.out.below hb2)
   have HME:=H_ hme
   have HGE:=H_ hg
   clear hb2 hme hg HB1 HX1 HA1 HO1 HG1 HMK
   obtain ⟨W2,hW2⟩:∃z,z=w2.alloc (.cells #[.string n,.int .i64 g,.bool wh,.int .i64 f,.int .i64 l,.slice ta2 tl2 tc2] 117):=⟨_,rfl⟩
   have hal:Below w2.heap.size w2 W2:=by rw [hW2];exact (Below.refl _ _).alloc (Nat.le_refl _) _
   have HY3:Hid (Blk w2.heap.size [.string n,.int .i64 g,.bool wh,.int .i64 f,.int .i64 l,.slice ta2 tl2 tc2] W2):=H_ (by rw [hW2];exact Blk.new w2 _ _)
   have HB3:=H_ (HB2.out.trans (hal.mono HB2.out.size))
   have HX3:=H_ (HX2.out.below hal)
   have HA3:=H_ (HA2.out.below hal)
   have HO3:=H_ (own_below HO2.out hal)
   have HG3:=H_ (HG2.out.below hal)
   have HME3:=H_ (fun h=>(HME.out h).below hal)
   have HW2:=H_ hW2
   clear hal hW2 HB2 HX2 HA2 HO2 HG2 HME
   obtain ⟨B2,hB2⟩:∃z,z=w2.heap.size:=⟨_,rfl⟩
   have HBE2:=H_ hB2
   have HSZ2:Hid (wr.heap.size<w2.heap.size):=H_ (by have:=HX2S.out;omega)
   rw [←hB2] at HY3
   clear hB2
   cases hb
   ·obtain rfl:=hn2 rfl
    have HNN:=H_ (HNO.out rfl)
    go_wp2_with fail
    rw [←HW2.out]
    go_ret2
    exact ⟨.inl ⟨_,rfl,HNN.out⟩,HB3.out⟩
   obtain ⟨rfl,hn⟩:=hn1 rfl
   clear hn1 hn2
   have hne:=ne_empty hn
   have HX:=H_ (HVK.out rfl)
   have HHK:=H_ (HHM.out rfl)
   rw [←HGE.out] at HX
   have HS0:Hid (BxC w B1 B2 (.string xa) (.string n) (.int .i64 xo) (.int .i64 xe) (.int .i64 xs) (.int .i64 xx) (.slice ta l1 tc) (.slice ha l2 hc') (.string n) (.int .i64 g) (.bool wh) (.int .i64 f) (.int .i64 l) (.slice ta2 tl2 tc2) W2):=H_ ⟨HB3.out,HX3.out.1,HY3.out.1,HX3.out.2 0 (by simp),HX3.out.2 1 (by simp),HX3.out.2 2 (by simp),HX3.out.2 3 (by simp),HX3.out.2 4 (by simp),HX3.out.2 5 (by simp),HX3.out.2 6 (by simp),HX3.out.2 7 (by simp),HY3.out.2 0 (by simp),HY3.out.2 1 (by simp),HY3.out.2 2 (by simp),HY3.out.2 3 (by simp),HY3.out.2 4 (by simp),HY3.out.2 5 (by simp)⟩
   have HS1:=H_ HS0.out.drew
   have HOA:Hid (W2.drew.ownsRow (w.heap.size+1) 138 3 u6 gs.length (cellsAll CG.cells gs)):=H_ HO3.out
   have HGA:Hid (GsOk ms rs k gs W2.drew):=H_ (HG3.out.below ((Below.refl _ _).drew))
   have HMA:Hid (MeI (.agg #[.string n,.int .i64 g,.bool wh,.int .i64 f,.int .i64 l,.slice ta2 tl2 tc2]) MM W2.drew):=H_ ((HME3.out rfl).below ((Below.refl _ _).drew))
   have HAA:Hid (Blk w.heap.size [.slice ma ml mc,.slice ca cl cc] W2.drew):=H_ (HA3.out.below ((Below.refl _ _).drew))
   have HN1:Hid (u6.ownBlock≠some B1∧u6.ownBlock≠some B2):=H_ ⟨fun e=>by have:=HLT.out _ e;have:=HBE.out;omega,fun e=>by have:=HLT.out _ e;have:=HBE2.out;have:=HSZ2.out;omega⟩
   have sz1:gs.length+1≤maxLen:=by unfold maxLen;have:=HGL.out;omega
   have sz2:(gs.length+1)*32≤140737488355328:=by have:=HGL.out;omega
   have sz3:0<3:=by omega
   clear HX3 HY3 HO3 HG3 HME3 HA3 HVK HHM HNO
   go_wp2_with fail
   rw [←HW2.out,←HBE2.out]
   clear HW2
   go_region_held3 (fun W=>Below w.heap.size w W∧B1<W.heap.size∧B2<W.heap.size∧W.cell? ⟨B1,0,none⟩=some (.string xa)∧W.cell? ⟨B1,1,none⟩=some (.string n)∧W.cell? ⟨B1,2,none⟩=some (.int .i64 xo)∧W.cell? ⟨B1,3,none⟩=some (.int .i64 xe)∧W.cell? ⟨B1,4,none⟩=some (.int .i64 xs)∧W.cell? ⟨B1,5,none⟩=some (.int .i64 xx)∧W.cell? ⟨B1,6,none⟩=some (.slice ta l1 tc)∧W.cell? ⟨B1,7,none⟩=some (.slice ha l2 hc')∧W.cell? ⟨B2,0,none⟩=some (.string n)∧W.cell? ⟨B2,1,none⟩=some (.int .i64 g)∧W.cell? ⟨B2,2,none⟩=some (.bool wh)∧W.cell? ⟨B2,3,none⟩=some (.int .i64 f)∧W.cell? ⟨B2,4,none⟩=some (.int .i64 l)∧W.cell? ⟨B2,5,none⟩=some (.slice ta2 tl2 tc2))
    (first|assumption|(exact HS0.out)|(exact HS1.out)|(exact @BxC.below w B1 B2 _ _ _ _ _ _ _ _ _ _ _ _ _ _ _ _ (by assumption) hb3)|(exact @BxC.below w B1 B2 _ _ _ _ _ _ _ _ _ _ _ _ _ _ _ _ (by assumption) ((Below.refl _ _).alloc (Nat.le_refl _) _))|(exact @BxC.grown w B1 B2 _ _ _ _ _ _ _ _ _ _ _ _ _ _ _ _ _ _ _ _ _ _ _ (by assumption) hgrow HOA.out HN1.out.1 HN1.out.2 (by omega)))
    (first|(go_at_call 94;refine (HX.out _ (by first|exact (by assumption:BxC w B1 B2 _ _ _ _ _ _ _ _ _ _ _ _ _ _ _).1|exact HS1.out.1|exact HS0.out.1)).mono ?_;rintro e w3 ⟨rfl,hb3⟩;have HO4:=H_ (own_below HOA.out hb3);have HG4:=H_ (HGA.out.below hb3);have HM4:=H_ (HMA.out.below hb3);have HA4:=H_ (HAA.out.below hb3);have HS4:Hid (w.heap.size+1≤w3.heap.size):=H_ (by have:=HA4.out.1;omega))|(refine LinR.step_append_own rfl _ _ 79 rfl (w.heap.size+1) 138 i0 (.agg #[.string ⟨#[]⟩,.int .i64 0,.nilFunc]) 3 32 Tryz.underlying79 hi hz0 hz1 hz2 rfl sz3 _ _ _ rfl (HO4.out.alloc _) ⟨w3.heap.size,0,none⟩ 1 1 (CG.cells ⟨n,uv,.agg #[.string n,.int .i64 g,.bool wh,.int .i64 f,.int .i64 l,.slice ta2 tl2 tc2]⟩) rfl rfl (charge_cells ⟨n,uv,.agg #[.string n,.int .i64 g,.bool wh,.int .i64 f,.int .i64 l,.slice ta2 tl2 tc2]⟩ _) (CG.one _) sz1 sz2 (Nat.le_trans HS4.out (by simp)) ?_;intro v' w4 hown hgrow hne4))
   all_goals (
    rename_i hS
    have HB9:=H_ hS.1
    have HTX:=H_ (own_text (HO4.out.alloc (.cells #[.string n,.int .i64 uv,.func (.func 95) #[.agg #[.string n,.int .i64 g,.bool wh,.int .i64 f,.int .i64 l,.slice ta2 tl2 tc2]] #[]] 138)) HNIL.out)
    have hal4:Below w3.heap.size w3 (w3.alloc (.cells #[.string n,.int .i64 uv,.func (.func 95) #[.agg #[.string n,.int .i64 g,.bool wh,.int .i64 f,.int .i64 l,.slice ta2 tl2 tc2]] #[]] 138)):=(Below.refl _ _).alloc (Nat.le_refl _) _
    have HG9:=H_ (HMORE.out ⟨n,uv,.agg #[.string n,.int .i64 g,.bool wh,.int .i64 f,.int .i64 l,.slice ta2 tl2 tc2]⟩ w4 ((HG4.out.below hal4).grown hgrow HTX.out) rfl rfl ((HM4.out.below hal4).grown hgrow HTX.out))
    have HA9:Hid (Blk w.heap.size [.slice ma ml mc,.slice ca cl cc] w4):=H_ (by
     have h:=HA4.out.below hal4
     have eb:=hgrow.block w.heap.size h.1 (fun e=>by have:=(HO4.out.lt _ e.symm).1;omega)
     exact ⟨Nat.lt_of_lt_of_le h.1 hgrow.size,fun i hi=>(World.cell?_of_block (a:=⟨w.heap.size,i,none⟩) eb).trans (h.2 i hi)⟩)
    have HO9:Hid (w4.ownsRow (w.heap.size+1) 138 3 v' (gs ++ [(⟨n,uv,.agg #[.string n,.int .i64 g,.bool wh,.int .i64 f,.int .i64 l,.slice ta2 tl2 tc2]⟩:CG)]).length (cellsAll CG.cells (gs ++ [(⟨n,uv,.agg #[.string n,.int .i64 g,.bool wh,.int .i64 f,.int .i64 l,.slice ta2 tl2 tc2]⟩:CG)]))):=H_ (by rw [cellsAll_app,List.length_append];exact hown)
    clear hown hgrow hne4 hS hal4 HO4 HG4 HM4 HA4 HS0 HS1 HOA HGA HMA HAA
    go_wp2_with fail
    go_roundw
    case rel=>exact ⟨k+1,gs ++ [⟨n,uv,.agg #[.string n,.int .i64 g,.bool wh,.int .i64 f,.int .i64 l,.slice ta2 tl2 tc2]⟩],by omega,by go_num,H_ (fun h=>by simp at h),HO9,HG9,HHK,HA9,HB9⟩
    case measure=>simp [intOf];omega)
  ·have hlt2:¬(k:Int)<(len:Int):=by omega
   obtain rfl:k=len:=by omega
   go_wp2_with fail
   refine (HTW.out _ HB.out).mono ?_
   rintro e w5 ⟨⟨r,rfl,ht,hf⟩,hb⟩
   have HB5:=H_ (HB.out.trans (hb.mono HB.out.size))
   have HG5:=H_ (HG.out.below hb)
   have HO5:=H_ (own_below HO.out hb)
   have HHA:Hid (∀p∈rs,hasM ms p.d.m=true):=H_ (fun p hp=>by
    obtain ⟨i,hi,rfl⟩:=List.getElem_of_mem hp
    have:=HH.out i (by have:=HL.out;omega)
    simpa [List.getD,hi] using this)
   have HTT:=H_ ht
   have HFF:=H_ hf
   clear hb ht hf HG HO HB HA
   cases r
   ·go_wp2_with fail
    go_ret2
    exact ⟨.inr ⟨HHA.out,.inr ⟨_,gs,rfl,HFF.out (by trivial),OwG.own_low HO5.out (Nat.le_succ _),by rw [←HL.out];exact HG5.out⟩⟩,HB5.out⟩
   ·go_wp2_with fail
    go_ret2
    exact ⟨.inr ⟨HHA.out,.inl ⟨_,rfl,HTT.out (by trivial)⟩⟩,HB5.out⟩
end BilR
namespace BilR
open LtR WinR LinR
open RowG (Rws cellsAll cellsAll_app own_below getD_mem)
open CatR (Blk Blk.new Me Ca mFd MsRight MRight IsMe IsCa caB ResM mO rO)
theorem charges_of (cv:Value) (c:Ca) (bo:Option Addr) (cap:Nat) (rs:List WP) (w:World) (hlen:rs.length≤1048576) (hS:c.Small) (hC:IsCa cv c w) (hca:caB c=true) (hL:CatR.Laid w) (hL2:DateR.Laid w)
 (hI:Rws 8 WP.cells WP.zero bo rs w) (hs:rs.Pairwise (fun x y=>lt y.d.m x.d.m=false)) (hr:∀p∈rs,p.Reads w) (hw:∀p∈rs,wB p.d=true) (hsm:∀p∈rs,p.d.Small) :
 Calls Tryz.prog 44 #[cv,.slice bo rs.length cap] w fun e w'=>ChR c.ms rs w.heap.size e w'∧Below w.heap.size w w':=by
 have hmR:=(CatR.caB_iff.1 hca).1
 have hC':=hC
 obtain ⟨ma,mc,ca,cc,rfl,_⟩:=hC'
 refine charges_in ma _ mc ca _ cc c.ms bo cap rs w hlen hI hs (fun p hp W hW=>?_) (fun p hp hh W hW=>?_)
 ·refine (CatR.impl_mo _ c p.d.m W (hsm p hp).2.1 hS (hC.below hW) (hL.below hW)).mono ?_
  rintro e w' ⟨ta,tc,rfl,hT,hO,hb⟩
  have hm:mO c p.d.m=mFd p.d.m c.ms:=by unfold mO;rw [hca];rfl
  rw [hm] at hT hO ⊢
  refine ⟨⟨_,rfl,⟨_,_,_,_,_,_,_,_,rfl,rfl,fun h=>?_,fun h=>?_⟩,fun h=>?_⟩,hb⟩
  ·obtain ⟨h1,h2⟩:=has_found hmR h
   exact ⟨h2,(CatR.name_le h1.1).1⟩
  ·rw [has_none hmR h];rfl
  ·obtain ⟨h1,h2⟩:=has_found hmR h
   refine ⟨⟨ta,tc,rfl,hT⟩,?_⟩
   have hl:1≤(mFd p.d.m c.ms).ts.length:=h1.2.2.2.2.1
   rcases hO with q|⟨g,rfl,_,hp⟩
   ·omega
   ·rcases hT.2 with q|⟨b,off,e,_,hc⟩
    ·omega
    ·simp only [Option.some.injEq,Addr.mk.injEq,and_true] at e
     obtain ⟨rfl,rfl⟩:=e
     exact ⟨_,_,_,_,_,_,_,_,_,rfl,hp.lt,(hc 0 (by omega)).1⟩
 ·obtain ⟨s1,s2,s3,s4,s5⟩:=hsm p hp
  have h:=impl_value p.d (mFd p.d.m c.ms).g p.ta p.tc p.ha p.hc W s1 s2 s3 s4 s5 (hL2.below hW) ((hr p hp).below hW).1 ((hr p hp).below hW).2
  have e:valueV p.d (mFd p.d.m c.ms).g=useV c.ms p.d:=by unfold valueV useV;rw [hw p hp];rfl
  rw [e] at h
  exact h
def RaR (ms:List Me) (S:List Wd) (base:Nat) (e:Ending) (W:World):Prop :=
 (ratC ms S≠0∧∃v,e=.returned (.tuple #[v,.int .i64 (ratC ms S)])) ∨
 (ratC ms S=0∧∃v,e=.returned (.tuple #[v,.int .i64 0])∧W.ownsRow base 58 2 v ((S.map (rN ms)).filter nz).length (cellsAll N.cells ((S.map (rN ms)).filter nz)))
theorem map_take_more (ms:List Me) (S:List Wd) (k:Nat) (h:k<S.length):(S.take (k+1)).map (rN ms)=(S.take k).map (rN ms) ++ [rN ms (S.getD k Wd.zero)]:=by
 rw [RowG.take_more (z:=Wd.zero) S k h,List.map_append];rfl
theorem infoNL:(Tryz.prog.info? 58).map (fun i=>(i.zero,i.size,i.bytes))=some (some (.agg #[.string ⟨#[]⟩,.int .i64 0]),2,24):=by kernel_rfl
set_option maxRecDepth 100000 in
set_option maxHeartbeats 8000000 in
theorem rated_in (ms:List Me) (S:List Wd) (bo:Option Addr) (cap:Nat) (gs:List CG) (w:World) (hlen:gs.length≤1048576) (hSl:S.length=gs.length) (hI:Rws 3 CG.cells CG.zero bo gs w)
 (hn:∀i,i<gs.length→(gs.getD i CG.zero).i=(rN ms (S.getD i Wd.zero)).i∧(rN ms (S.getD i Wd.zero)).i.size≤1048576)
 (hR:∀i,i<gs.length→∀W,Below w.heap.size w W→Calls Tryz.prog 95 #[(gs.getD i CG.zero).mv,.int .i64 (gs.getD i CG.zero).u] W fun e w'=>e=.returned (FixR.out (rN ms (S.getD i Wd.zero)).n (rC ms (S.getD i Wd.zero)))∧Below W.heap.size W w') :
 Calls Tryz.prog 46 #[.slice bo gs.length cap] w fun e w'=>RaR ms S w.heap.size e w'∧Below w.heap.size w w':=by
 obtain ⟨i0,hi,hz0,hz1,hz2⟩:=info_parts infoNL
 have HI:=H_ hI
 have HN:=H_ hn
 have HR:=H_ hR
 obtain ⟨len,hl⟩:∃len,len=gs.length:=⟨_,rfl⟩
 rw [←hl] at hlen hSl HN HR ⊢
 have HL:=H_ hl
 have HSL:=H_ hSl
 have HHIT:Hid (∀k,k<len→(∀i,i<k→rC ms (S.getD i Wd.zero)=0)→rC ms (S.getD k Wd.zero)≠0→ratC ms S=rC ms (S.getD k Wd.zero)):=H_ (fun k hk h1 h2=>ratC_hit (by omega) h1 h2)
 have HNO:Hid ((∀i,i<len→rC ms (S.getD i Wd.zero)=0)→ratC ms S=0):=H_ (fun h=>ratC_none (fun i hi=>h i (by omega)))
 have HEND:Hid (S.take len=S):=H_ (List.take_of_length_le (by omega))
 clear hI hn hR hl hSl
 go_enter Tryz.func46,Tryz.ntmps46
 go_wp2_with fail
 go_loopw [4,10] (fun v z wr=>∃(k:Nat),k≤len∧z=.int .i64 k∧Hid (wr.ownsRow w.heap.size 58 2 v ((S.take k).map (rN ms)).length (cellsAll N.cells ((S.take k).map (rN ms))))∧Hid (∀i,i<k→rC ms (S.getD i Wd.zero)=0)∧Hid (Below w.heap.size w wr)) (fun v z _=>len-(intOf z).toNat)
 case atStart=>exact ⟨0,by omega,rfl,H_ (World.ownsRow_nil _ _ _ _),H_ (fun i h=>absurd h (by omega)),H_ (Below.refl _ _)⟩
 case round =>
  obtain ⟨k,hk,rfl,HO,HZ,HB⟩:=hrel
  by_cases hlt:k<len
  ·have hlt2:(k:Int)<(len:Int):=by omega
   obtain ⟨b',off,e0,hbl,hc⟩:∃b off,bo=some ⟨b,off,none⟩∧b<wr.heap.size∧∀i,i<3→wr.cell? ⟨b,off+k*3+i,none⟩=(gs.getD k CG.zero).cells[i]?:=by
    rcases HI.out.below HB.out with h0|⟨b,off,e,hl,hc⟩
    ·have:=HL.out;omega
    ·exact ⟨b,off,e,hl,fun i hi=>hc k (by have:=HL.out;omega) i hi⟩
   subst e0
   obtain ⟨hn1,hn2⟩:=HN.out k hlt
   have HRK:=H_ (HR.out k hlt)
   have HHK:=H_ (HHIT.out k hlt HZ.out)
   have HMK:=H_ (map_take_more ms S k (by have:=HSL.out;omega))
   have HTL:Hid (((S.take k).map (rN ms)).length≤1048576):=H_ (by rw [List.length_map,List.length_take];omega)
   have HZM:Hid (rC ms (S.getD k Wd.zero)=0→∀i,i<k+1→rC ms (S.getD i Wd.zero)=0):=H_ (fun h i hi=>by
    by_cases e:i=k
    ·subst e;exact h
    ·exact HZ.out i (by omega))
   obtain ⟨F,hF⟩:∃F,F=(S.take k).map (rN ms):=⟨_,rfl⟩
   rw [←hF] at HO HMK HTL
   clear hF
   have HRC:Hid (∃z,z=ratC ms S):=H_ ⟨_,rfl⟩
   generalize rC ms (S.getD k Wd.zero)=cd at *
   generalize rN ms (S.getD k Wd.zero)=LN at *
   generalize gs.getD k CG.zero=X at *
   obtain ⟨li,ln⟩:=LN
   obtain ⟨xi,xu,xv⟩:=X
   dsimp only at hn1 hn2 HRK
   subst hn1
   have c0:=hc 0 (by omega)
   have c1:=hc 1 (by omega)
   have c2:=hc 2 (by omega)
   simp only [CG.cells,List.getElem?_cons_zero,List.getElem?_cons_succ,Nat.add_zero] at c0 c1 c2
   clear hc
   obtain ⟨W1,hW1⟩:∃z,z=wr.alloc (.cells #[.string xi,.int .i64 xu,.func (.func 95) #[xv] #[]] 138):=⟨_,rfl⟩
   have hal:Below wr.heap.size wr W1:=by rw [hW1];exact (Below.refl _ _).alloc (Nat.le_refl _) _
   have HX1:Hid (Blk wr.heap.size [.string xi,.int .i64 xu,.func (.func 95) #[xv] #[]] W1):=H_ (by rw [hW1];exact Blk.new wr _ _)
   have HB1:=H_ (HB.out.trans (hal.mono HB.out.size))
   have HO1:=H_ (own_below HO.out hal)
   have HW1:=H_ hW1
   clear hal hW1 HO HB
   obtain ⟨B1,hB1⟩:∃z,z=wr.heap.size:=⟨_,rfl⟩
   have HBE:=H_ hB1
   rw [←hB1] at HX1
   clear hB1
   go_wp2_with fail
   rw [←HW1.out,←HBE.out]
   clear HW1 c0 c1 c2
   refine (HRK.out W1 HB1.out).mono ?_
   rintro e w2 ⟨rfl,hb2⟩
   have HB2:=H_ (HB1.out.trans (hb2.mono HB1.out.size))
   have HX2:=H_ (HX1.out.below hb2)
   have HO2:=H_ (own_below HO1.out hb2)
   unfold FixR.out
   clear hb2 HB1 HX1 HO1 HRK
   obtain ⟨W2,hW2⟩:∃z,z=w2.alloc (.cells #[.int .i64 ln,.int .i64 0,.int .i64 cd] 125):=⟨_,rfl⟩
   have hal:Below w2.heap.size w2 W2:=by rw [hW2];exact (Below.refl _ _).alloc (Nat.le_refl _) _
   have HY3:Hid (Blk w2.heap.size [.int .i64 ln,.int .i64 0,.int .i64 cd] W2):=H_ (by rw [hW2];exact Blk.new w2 _ _)
   have HB3:=H_ (HB2.out.trans (hal.mono HB2.out.size))
   have HX3:=H_ (HX2.out.below hal)
   have HO3:=H_ (own_below HO2.out hal)
   have HSZ3:Hid (W2.heap.size=w2.heap.size+1):=H_ (by rw [hW2];simp)
   have HW2:=H_ hW2
   clear hal hW2 HB2 HX2 HO2
   by_cases hcd:cd=0
   ·subst hcd
    have HZ2:=H_ (HZM.out rfl)
    have x0:=HX3.out.2 0 (by simp)
    have xL:=HX3.out.1
    simp only [List.getElem?_cons_zero] at x0
    rw [HW2.out] at x0 xL
    go_wp2_with (at_builtin;rw [←HW2.out];refine wpList_append_own _ rfl _ _ 29 rfl w.heap.size 58 i0 (.agg #[.string ⟨#[]⟩,.int .i64 0]) 2 24 Tryz.underlying29 hi hz0 hz1 hz2 rfl (by decide) _ _ _ rfl (HO3.out.alloc _) ⟨w2.heap.size+1,0,none⟩ 1 1 [.string xi,.int .i64 ln] rfl rfl ?d1 ?d2 ?d3 ?d4 ?d5 ?_)
    case d1 =>
     have h:=LinR.two_cells W2 xi ln 58
     rw [HSZ3.out] at h
     exact h
    case d2=>exact LinR.two_one ⟨xi,ln⟩
    case d3=>unfold maxLen;have:=HTL.out;omega
    case d4=>have:=HTL.out;omega
    case d5=>have h1:=HB3.out.size;simp;omega
    intro v' w4 hown hgrow hne
    have hob:∀c,u4.ownBlock=some c→w.heap.size≤c:=fun c hc=>(HO3.out.lt c hc).1
    have HO4:Hid (w4.ownsRow w.heap.size 58 2 v' (F ++ [(⟨xi,ln⟩:N)]).length (cellsAll N.cells (F ++ [(⟨xi,ln⟩:N)]))):=H_ (by rw [cellsAll_app,List.length_append];exact hown)
    have HB4:Hid (Below w.heap.size w w4):=H_ ((HB3.out.alloc HB3.out.size _).grown hgrow (HB3.out.alloc HB3.out.size _).size (fun c e=>hob c e))
    clear hown hgrow hne hob
    go_wp2_with fail
    go_roundw
    case rel=>exact ⟨k+1,by omega,by go_num,H_ (by rw [HMK.out];exact HO4.out),HZ2,HB4⟩
    case measure=>simp [intOf];omega
   ·have h1:(cd==0)=false:=by simp [hcd]
    have h2:(cd != 0)=true:=by simp [hcd]
    have HE:=H_ (HHK.out hcd)
    have y2:=HY3.out.2 2 (by simp)
    have yL:=HY3.out.1
    simp only [List.getElem?_cons_zero,List.getElem?_cons_succ] at y2
    go_wp2_with fail
    rw [←HW2.out]
    go_quiet (fail)
    go_wp2_with fail
    go_ret2
    exact ⟨.inl ⟨by rw [HE.out];exact hcd,_,by rw [HE.out];rfl⟩,bdrewN HB3.out _⟩
  ·have hlt2:¬(k:Int)<(len:Int):=by omega
   obtain rfl:k=len:=by omega
   have HQ:=H_ (HNO.out HZ.out)
   rw [HEND.out] at HO
   have HSZ:Hid (∀e∈S.map (rN ms),e.i.size≤1048576):=H_ (by
    intro e he
    obtain ⟨x,hx,rfl⟩:=List.mem_map.1 he
    obtain ⟨i,hi,rfl⟩:=List.getElem_of_mem hx
    have:=(HN.out i (by have:=HSL.out;omega)).2
    simpa [List.getD,hi] using this)
   have HFL:Hid ((S.map (rN ms)).length≤1048576):=H_ (by rw [List.length_map];have:=HSL.out;omega)
   obtain ⟨F,hF⟩:∃F,F=S.map (rN ms):=⟨_,rfl⟩
   have HFE:=H_ hF
   rw [←hF] at HO HSZ HFL
   clear hF
   obtain ⟨ao,cap',rfl,hm⟩:=RowG.own_made (z:=N.zero) N.len HO.out
   have HP:=H_ (fun W (hW:Below wr.heap.size wr W)=>put_any ao cap' F W HFL.out HSZ.out (hm.rws.below hW))
   clear hm HO
   generalize hFl:F.length=fl at *
   go_wp2_with fail
   refine (HP.out _ (Below.refl _ _)).mono ?_
   rintro e w5 ⟨v,rfl,hv,hb⟩
   have HV:=H_ (LinR.own_low hv HB.out.size)
   have HB5:=H_ (HB.out.trans (hb.mono HB.out.size))
   clear hv hb HP
   go_wp2_with fail
   go_ret2
   exact ⟨.inr ⟨HQ.out,v,rfl,by rw [←HFE.out];exact HV.out⟩,HB5.out⟩
end BilR
namespace BilR
open LtR WinR LinR
open RowG (Rws cellsAll own_below getD_mem MadeG made_nil)
open CatR (Blk Blk.new Me Ca mFd MsRight IsCa caB crF)
def BlO (w:World) (O:List N × Int) (e:Ending) (w':World):Prop:=∃ao cap,e=.returned (.agg #[.slice ao O.1.length cap,.int .i64 O.2])∧MadeG 2 N.cells N.zero w.heap.size ao O.1 w'∧Below w.heap.size w w'
def Z2 (p:Nat) (w:World):Prop:=p<w.heap.size∧w.cell? ⟨p,0,none⟩=some (.slice none 0 0)∧w.cell? ⟨p,1,none⟩=some (.int .i64 0)∧w.frozen? ⟨p,0,none⟩=false∧w.frozen? ⟨p,1,none⟩=false
theorem Z2.below {p:Nat} {w w':World} (h:Z2 p w) (hb:Below w.heap.size w w'):Z2 p w':=by
 obtain ⟨h0,h1,h2,h3,h4⟩:=h
 exact ⟨by have:=hb.size;omega,(hb.cell (p:=⟨p,0,none⟩) h0).trans h1,(hb.cell (p:=⟨p,1,none⟩) h0).trans h2,(hb.frozen (p:=⟨p,0,none⟩) h0).trans h3,(hb.frozen (p:=⟨p,1,none⟩) h0).trans h4⟩
theorem Z2.new (w:World) (T:TypeId):Z2 w.heap.size (w.alloc (Obj.cells #[.slice none 0 0,.int .i64 0] T)) :=
 ⟨by simp,by simp [go_sem],by simp [go_sem],by simp [go_sem],by simp [go_sem]⟩
theorem below2 {w W:World} (hb:Below w.heap.size w W) {p:Nat} (hp:w.heap.size≤p) (x y:Value):Below w.heap.size w ((W.setCell ⟨p,0,none⟩ x).setCell ⟨p,1,none⟩ y) :=
 (hb.setCell (p:=⟨p,0,none⟩) hp _).setCell (p:=⟨p,1,none⟩) hp _
theorem made_set {base0 base p o:Nat} {ao:Option Addr} {l:List N} {w:World} (h7:MadeG 2 N.cells N.zero base0 ao l w) (h:MadeG 2 N.cells N.zero base ao l w) (hp:p<base0) (v:Value):MadeG 2 N.cells N.zero base ao l (w.setCell ⟨p,o,none⟩ v):=by
 have hg:=RowG.grown_set w p o v
 refine ⟨?_,?_⟩
 ·rcases h.rws with h0|⟨b,off,e,hl,hc⟩
  ·exact .inl h0
  ·rcases h7.own with h0|⟨g,e2,hg2,_⟩
   ·exact .inl h0
   ·have:g=b:=by rw [e] at e2;simp at e2;exact e2.1.symm
    have eb:=hg.block b hl (by simp;omega)
    exact .inr ⟨b,off,e,Nat.lt_of_lt_of_le hl hg.size,fun j hj i hi=>(World.cell?_of_block (a:=⟨b,off+j*2+i,none⟩) eb).trans (hc j hj i hi)⟩
 ·refine h.own.imp id ?_
  rintro ⟨g,e,hg1,hp1⟩
  exact ⟨g,e,hg1,WinR.ptA hp1⟩
theorem made_two {base0 base p:Nat} {ao:Option Addr} {l:List N} {w:World} (h7:MadeG 2 N.cells N.zero base0 ao l w) (h:MadeG 2 N.cells N.zero base ao l w) (hp:p<base0) {x y:Value}:MadeG 2 N.cells N.zero base ao l ((w.setCell ⟨p,0,none⟩ x).setCell ⟨p,1,none⟩ y):=made_set (made_set h7 h7 hp x) (made_set h7 h hp x) hp y
def BxI (w:World) (ma:Option Addr) (ml mc:Nat) (ca:Option Addr) (cl cc:Nat) (W:World):Prop:=Below w.heap.size w W∧w.heap.size<W.heap.size∧W.cell? ⟨w.heap.size,0,none⟩=some (.slice ma ml mc)∧W.cell? ⟨w.heap.size,1,none⟩=some (.slice ca cl cc)
theorem BxI.below {w:World} {ma:Option Addr} {ml mc:Nat} {ca:Option Addr} {cl cc:Nat} {W W':World} (h:BxI w ma ml mc ca cl cc W) (hb:Below W.heap.size W W'):BxI w ma ml mc ca cl cc W':=by
 obtain ⟨h0,h1,c0,c1⟩:=h
 have c:=fun o=>hb.cell (p:=⟨w.heap.size,o,none⟩) h1
 have:=hb.size
 exact ⟨h0.trans (hb.mono h0.size),by omega,(c 0).trans c0,(c 1).trans c1⟩
theorem BxI.drew {w:World} {ma:Option Addr} {ml mc:Nat} {ca:Option Addr} {cl cc:Nat} {W:World} (h:BxI w ma ml mc ca cl cc W):BxI w ma ml mc ca cl cc W.drew:=⟨h.1.drew,h.2⟩
theorem BxI.blk {w:World} {ma:Option Addr} {ml mc:Nat} {ca:Option Addr} {cl cc:Nat} {W:World} (h:BxI w ma ml mc ca cl cc W):Blk w.heap.size [.slice ma ml mc,.slice ca cl cc] W:=by
 obtain ⟨h0,h1,c0,c1⟩:=h
 exact ⟨h1,fun i hi=>by
  match i,hi with
  | 0,_=>exact c0
  | 1,_=>exact c1⟩
set_option maxRecDepth 100000 in
set_option maxHeartbeats 8000000 in
theorem ibill_in (ma:Option Addr) (ml mc:Nat) (ca:Option Addr) (cl cc:Nat) (a:ByteArray) (wo:Option Addr) (wl wc:Nat) (O:List N × Int) (r1 r2 r3:Bool) (cr:Int) (PO:List WP→Option Addr→World→Prop) (PC PL:Value→World→Prop) (w:World) (hwl:wl≤1048576)
 (e2:8000<a.size∨400<wl→O=([],2)) (e1:¬(8000<a.size∨400<wl)→(r1&&r2&&r3)=false→O=([],1))
 (hA:∀W,Below w.heap.size w W→Calls Tryz.prog 41 #[.agg #[.slice ma ml mc,.slice ca cl cc]] W fun e w'=>e=.returned (.bool r1)∧Below W.heap.size W w')
 (hN:∀W,Calls Tryz.prog 42 #[.string a] W fun e w'=>e=.returned (.bool r2)∧Below W.heap.size W w')
 (hW:∀W,Below w.heap.size w W→Calls Tryz.prog 43 #[.slice wo wl wc] W fun e w'=>e=.returned (.bool r3)∧Below W.heap.size W w')
 (hO:¬(8000<a.size∨400<wl)→(r1&&r2&&r3)=true→∀W,Below w.heap.size w W→Calls Tryz.prog 45 #[.string a,.slice wo wl wc] W fun e w'=>∃bo cap rs,e=.returned (.slice bo rs.length cap)∧PO rs bo w'∧Below W.heap.size W w')
 (hC:¬(8000<a.size∨400<wl)→(r1&&r2&&r3)=true→∀rs bo cap W,PO rs bo W→Below w.heap.size w W→Calls Tryz.prog 44 #[.agg #[.slice ma ml mc,.slice ca cl cc],.slice bo rs.length cap] W fun e w'=>(∃v cd,e=.returned (.tuple #[v,.int .i64 cd])∧((cd≠0∧O=([],cd))∨(cd=0∧PC v w')))∧Below W.heap.size W w')
 (hR:¬(8000<a.size∨400<wl)→(r1&&r2&&r3)=true→∀v W,PC v W→Below w.heap.size w W→Calls Tryz.prog 46 #[v] W fun e w'=>(∃v cd,e=.returned (.tuple #[v,.int .i64 cd])∧((cd≠0∧O=([],cd))∨(cd=0∧PL v w')))∧Below W.heap.size W w')
 (hK:∀v W W',PL v W→Below W.heap.size W W'→PL v W')
 (hCr:∀W,Below w.heap.size w W→Calls Tryz.prog 47 #[.agg #[.slice ma ml mc,.slice ca cl cc],.string a] W fun e w'=>e=.returned (.int .i64 cr)∧Below W.heap.size W w')
 (hD:¬(8000<a.size∨400<wl)→(r1&&r2&&r3)=true→∀v W,PL v W→Calls Tryz.prog 20 #[v,.int .i64 cr] W fun e w'=>∃ao cap,e=.returned (.slice ao O.1.length cap)∧O.2=0∧MadeG 2 N.cells N.zero W.heap.size ao O.1 w'∧Below W.heap.size W w') :
 Calls Tryz.prog 10 #[.agg #[.slice ma ml mc,.slice ca cl cc],.string a,.slice wo wl wc] w fun e w'=>BlO w O e w':=by
 have HE2:=H_ e2
 have HE1:=H_ e1
 have HA:=H_ hA
 have HN:=H_ hN
 have HW:=H_ hW
 have HO:=H_ hO
 have HC:=H_ hC
 have HR:=H_ hR
 have HK:=H_ hK
 have HCR:=H_ hCr
 have HD:=H_ hD
 clear e2 e1 hA hN hW hO hC hR hK hCr hD
 obtain ⟨W0,hW0⟩:∃z,z=(w.alloc (.cells #[.slice ma ml mc,.slice ca cl cc] 36)).alloc (.cells #[.slice none 0 0,.int .i64 0] 31):=⟨_,rfl⟩
 have HB0:Hid (Below w.heap.size w W0):=H_ (by rw [hW0];exact ((Below.refl _ _).alloc (Nat.le_refl _) _).alloc (by simp) _)
 have HX0:Hid (Blk w.heap.size [.slice ma ml mc,.slice ca cl cc] W0):=H_ (by rw [hW0];exact (Blk.new w _ _).below ((Below.refl _ _).alloc (Nat.le_refl _) _))
 have HZ0:Hid (Z2 (w.heap.size+1) W0):=H_ (by rw [hW0];have:=Z2.new (w.alloc (.cells #[.slice ma ml mc,.slice ca cl cc] 36)) 31;simpa using this)
 have HW0:=H_ hW0
 clear hW0
 obtain ⟨B1,hB1⟩:∃z,z=w.heap.size+1:=⟨_,rfl⟩
 rw [←hB1] at HZ0
 have HBE:=H_ hB1
 have hBl:w.heap.size≤B1:=by omega
 clear hB1
 generalize hsz:a.size=sz at *
 by_cases qa:8000<sz
 ·have qa2:(8000:Int)<(sz:Int):=by omega
  obtain rfl:=HE2.out (.inl qa)
  go_enter Tryz.func10,Tryz.ntmps10
  go_wp2_with fail
  refine bodyPost_ret (v:=.agg #[.slice none 0 0,.int .i64 2]) (by simp [results,Tryz.results10,go_sem]) rfl ⟨none,0,rfl,made_nil _ _ _,((Below.refl _ _).alloc (Nat.le_refl _) _).alloc (by simp) _⟩
 have qa2:¬(8000:Int)<(sz:Int):=by omega
 by_cases qb:400<wl
 ·have qb2:(400:Int)<(wl:Int):=by omega
  obtain rfl:=HE2.out (.inr qb)
  go_enter Tryz.func10,Tryz.ntmps10
  go_wp2_with fail
  refine bodyPost_ret (v:=.agg #[.slice none 0 0,.int .i64 2]) (by simp [results,Tryz.results10,go_sem]) rfl ⟨none,0,rfl,made_nil _ _ _,((Below.refl _ _).alloc (Nat.le_refl _) _).alloc (by simp) _⟩
 have qb2:¬(400:Int)<(wl:Int):=by omega
 have HE:=H_ (HE1.out (by omega))
 clear HE1 HE2
 go_enter Tryz.func10,Tryz.ntmps10
 go_wp2_with fail
 rw [←HW0.out,←HBE.out]
 clear HW0
 refine (HA.out _ HB0.out).mono ?_
 rintro e w1 ⟨rfl,hb1⟩
 replace HB0:=H_ (HB0.out.trans (hb1.mono HB0.out.size))
 replace HX0:=H_ (HX0.out.below hb1)
 replace HZ0:=H_ (HZ0.out.below hb1)
 clear hb1
 cases r1
 ·obtain rfl:=HE.out rfl
  obtain ⟨zl,z0,z1,f0,f1⟩:=HZ0.out
  go_wp2_with fail
  refine bodyPost_ret (v:=.agg #[.slice none 0 0,.int .i64 1]) (by simp [results,Tryz.results10,go_sem,z0,z1]) rfl ⟨none,0,rfl,made_nil _ _ _,below2 HB0.out hBl _ _⟩
 go_wp2_with fail
 refine (HN.out _).mono ?_
 rintro e w2 ⟨rfl,hb2⟩
 replace HB0:=H_ (HB0.out.trans (hb2.mono HB0.out.size))
 replace HX0:=H_ (HX0.out.below hb2)
 replace HZ0:=H_ (HZ0.out.below hb2)
 clear hb2
 cases r2
 ·obtain rfl:=HE.out rfl
  obtain ⟨zl,z0,z1,f0,f1⟩:=HZ0.out
  go_wp2_with fail
  refine bodyPost_ret (v:=.agg #[.slice none 0 0,.int .i64 1]) (by simp [results,Tryz.results10,go_sem,z0,z1]) rfl ⟨none,0,rfl,made_nil _ _ _,below2 HB0.out hBl _ _⟩
 go_wp2_with fail
 refine (HW.out _ HB0.out).mono ?_
 rintro e w3 ⟨rfl,hb3⟩
 replace HB0:=H_ (HB0.out.trans (hb3.mono HB0.out.size))
 replace HX0:=H_ (HX0.out.below hb3)
 replace HZ0:=H_ (HZ0.out.below hb3)
 clear hb3
 cases r3
 ·obtain rfl:=HE.out rfl
  obtain ⟨zl,z0,z1,f0,f1⟩:=HZ0.out
  go_wp2_with fail
  refine bodyPost_ret (v:=.agg #[.slice none 0 0,.int .i64 1]) (by simp [results,Tryz.results10,go_sem,z0,z1]) rfl ⟨none,0,rfl,made_nil _ _ _,below2 HB0.out hBl _ _⟩
 replace HO:=H_ (HO.out (by omega) rfl)
 replace HC:=H_ (HC.out (by omega) rfl)
 replace HR:=H_ (HR.out (by omega) rfl)
 replace HD:=H_ (HD.out (by omega) rfl)
 clear HE
 have HS0:Hid (BxI w ma ml mc ca cl cc w3):=H_ ⟨HB0.out,HX0.out.1,HX0.out.2 0 (by simp),HX0.out.2 1 (by simp)⟩
 have HS1:=H_ HS0.out.drew
 have HZ1:=H_ (HZ0.out.below ((Below.refl _ _).drew:Below w3.heap.size w3 w3.drew))
 clear HB0 HX0 HZ0
 go_wp2_with fail
 go_region_held3 (fun W=>Below w.heap.size w W∧w.heap.size<W.heap.size∧W.cell? ⟨w.heap.size,0,none⟩=some (.slice ma ml mc)∧W.cell? ⟨w.heap.size,1,none⟩=some (.slice ca cl cc))
  (first|assumption|(exact HS0.out)|(exact HS1.out)|(exact BxI.below (w:=w) (by assumption) hb4)|(exact BxI.below (w:=w) (by assumption) hb5))
  (first|(go_at_call 45;refine (HO.out _ (by first|exact (by assumption:BxI w ma ml mc ca cl cc _).1|exact HS1.out.1|exact HS0.out.1)).mono ?_;rintro e w4 ⟨bo,cap,rs,rfl,hp,hb4⟩;have HP:=H_ hp;have HZ4:=H_ (HZ1.out.below hb4))|(go_at_call 44;refine (HC.out rs bo cap _ HP.out (by first|exact (by assumption:BxI w ma ml mc ca cl cc _).1|exact HS1.out.1|exact HS0.out.1)).mono ?_;rintro e w5 ⟨⟨v,cd,rfl,hq⟩,hb5⟩;have HZ5:=H_ (HZ4.out.below hb5);have HQ5:=H_ hq))
 rename_i hS5
 have HB0:=H_ hS5.1
 have HX0:Hid (Blk w.heap.size [.slice ma ml mc,.slice ca cl cc] w5):=H_ (BxI.blk hS5)
 clear hS5 HS0 HS1 HO HC HP HZ1 HZ4
 have hq:=HQ5.out
 clear HQ5 hb4 hb5 hp
 rcases hq with ⟨hcd,rfl⟩|⟨rfl,hpc⟩
 ·have h1:(cd==0)=false:=by simp [hcd]
  have h2:(cd != 0)=true:=by simp [hcd]
  obtain ⟨zl,z0,z1,f0,f1⟩:=HZ5.out
  go_wp2_with fail
  refine bodyPost_ret (v:=.agg #[.slice none 0 0,.int .i64 cd]) (by simp [results,Tryz.results10,go_sem,z0,z1]) rfl ⟨none,0,rfl,made_nil _ _ _,below2 HB0.out hBl _ _⟩
 have HPC:=H_ hpc
 clear hpc
 go_wp2_with fail
 refine (HR.out _ _ HPC.out HB0.out).mono ?_
 rintro e w6 ⟨⟨v2,cd,rfl,hq⟩,hb6⟩
 replace HB0:=H_ (HB0.out.trans (hb6.mono HB0.out.size))
 replace HX0:=H_ (HX0.out.below hb6)
 have HZ0:=H_ (HZ5.out.below hb6)
 clear hb6 HZ5 HPC
 rcases hq with ⟨hcd,rfl⟩|⟨rfl,hpl⟩
 ·have h1:(cd==0)=false:=by simp [hcd]
  have h2:(cd != 0)=true:=by simp [hcd]
  obtain ⟨zl,z0,z1,f0,f1⟩:=HZ0.out
  go_wp2_with fail
  refine bodyPost_ret (v:=.agg #[.slice none 0 0,.int .i64 cd]) (by simp [results,Tryz.results10,go_sem,z0,z1]) rfl ⟨none,0,rfl,made_nil _ _ _,below2 HB0.out hBl _ _⟩
 have HPL:=H_ hpl
 clear hpl
 have x0:=HX0.out.2 0 (by simp)
 have x1:=HX0.out.2 1 (by simp)
 have xL:=HX0.out.1
 simp only [List.getElem?_cons_zero,List.getElem?_cons_succ] at x0 x1
 go_wp2_with fail
 refine (HCR.out _ HB0.out).mono ?_
 rintro e w7 ⟨rfl,hb7⟩
 replace HPL:=H_ (HK.out _ _ _ HPL.out hb7)
 replace HB0:=H_ (HB0.out.trans (hb7.mono HB0.out.size))
 replace HX0:=H_ (HX0.out.below hb7)
 replace HZ0:=H_ (HZ0.out.below hb7)
 clear hb7
 clear x0 x1 xL
 go_wp2_with fail
 refine (HD.out _ _ HPL.out).mono ?_
 rintro e w8 ⟨ao,cap2,rfl,h0,hm,hb8⟩
 have HM:=H_ (hm.low HB0.out.size)
 have H0:=H_ h0
 have HBL:Hid (B1<w7.heap.size):=H_ HZ0.out.1
 have HM7:=H_ hm
 replace HB0:=H_ (HB0.out.trans (hb8.mono HB0.out.size))
 replace HX0:=H_ (HX0.out.below hb8)
 replace HZ0:=H_ (HZ0.out.below hb8)
 clear hm h0 hb8
 obtain ⟨zl,z0,z1,f0,f1⟩:=HZ0.out
 generalize hn:O.1.length=n1 at *
 go_wp2_with fail
 refine bodyPost_ret (v:=.agg #[.slice ao n1 cap2,.int .i64 0]) (by simp [results,Tryz.results10,go_sem,z0,z1]) rfl ⟨ao,cap2,by rw [H0.out,hn],?_,below2 HB0.out hBl _ _⟩
 exact made_two HM7.out HM.out HBL.out
end BilR
end Go.Proofs.YtcilbmhkhllmjaaGreatDoor
