/-
  What strings.Compare hands back.
  What strings.Compare hands back, against the order of texts. No condition.
  What slices.SortFunc hands back at structs. The kit's structure, laid over this program.
  Windows with the places of their lists; slices.SortFunc of windows by their meters. The condition: fewer than 4611686018427387904 of them.
  The program's windows of an account, by their meters. The conditions: sizes of at most 1048576.
  The windows of an account and month, picked out of an engine's: both sides. The condition: at most 1048576 windows.
  Windows drawn, in a list: some small ones. No condition.
-/
import Derived.Shelf.Small.Bits
import Derived.Shelf.Small.Strs
import Derived.Shelf.Strconv.Itoa0
import Derived.Test.YtcilbmhkhllmjaaGreatDoorProg
import Derived.Shelf.SlSortCmp.WholeK
import Derived.Ground.SlsfProg
import Derived.Deep.RegionHeld3
import Derived.Shelf.SlSortCmp.NoneTotal
import Derived.Test.YtcilbmhkhllmjaaGreatDoorF25
namespace Go.Proofs
open Go.Shelf
def Tryz.lays106_ren:Go.Shelf.Ren:=⟨fun|106=>99|213=>132|265=>170|n=>n,fun|9=>9|3=>3|n=>n,fun|n=>n⟩
theorem Tryz.lays106:Go.Proofs.Lays.n106 Tryz.prog Tryz.lays106_ren:={
 mixed:=by kernel_rfl
 f106:=Tryz.func99.trans (congrArg some (by kernel_rfl))
 f213:=Tryz.func132.trans (congrArg some (by kernel_rfl))
 f265:=Tryz.func170.trans (congrArg some (by kernel_rfl))
 t3:=Tryz.underlying3
 a3:=Tryz.isAgg3
 z3:=Tryz.sizeOf3
 v3:=Tryz.zeroValue3
 t9:=Tryz.underlying9
 a9:=Tryz.isAgg9
 z9:=Tryz.sizeOf9
 v9:=Tryz.zeroValue9}
open Go.RowKit in
theorem Tryz.strings_Compare (a b:ByteArray) (w:World) :
 Calls Tryz.prog 99 #[.string a,.string b] w fun e w'=>e=.returned (.int .i64 (Lib.compareBytes a.data.toList b.data.toList))∧w'=w:=Any.strings_Compare Tryz.lays106 a b w
end Go.Proofs
namespace Go.Proofs.YtcilbmhkhllmjaaGreatDoor
open Go.ChangeShapes Go.WideShapes Go.ChangeAt Go.RowKit
set_option linter.unusedVariables false
namespace WinR
open LtR
open Go.Op (bytesLess)
theorem cmp_cases:∀(a b:List UInt8),(Lib.compareBytes a b=-1∧bytesLess a b=true∧a≠b)∨(Lib.compareBytes a b=0∧bytesLess a b=false∧a=b)∨(Lib.compareBytes a b=1∧bytesLess a b=false∧a≠b)
 | [],[]=>.inr (.inl ⟨rfl,rfl,rfl⟩)
 | [],_::_=>.inl ⟨rfl,rfl,by simp⟩
 | _::_,[]=>.inr (.inr ⟨rfl,rfl,by simp⟩)
 | a::xs,b::ys=>by
  unfold Lib.compareBytes bytesLess
  by_cases h1:a<b
  ·have hne:a≠b:=fun e=>by subst e;exact absurd h1 (by simp)
   exact .inl ⟨by rw [if_pos h1],by simp [h1],by simp [hne]⟩
  ·rw [if_neg h1]
   by_cases h2:b<a
   ·have hne:a≠b:=fun e=>by subst e;exact absurd h2 (by simp)
    exact .inr (.inr ⟨by rw [if_pos h2],by simp [h1,hne],by simp [hne]⟩)
   ·rw [if_neg h2]
    obtain rfl:a=b:=UInt8.le_antisymm (UInt8.not_lt.1 h2) (UInt8.not_lt.1 h1)
    rcases cmp_cases xs ys with ⟨c1,c2,c3⟩|⟨c1,c2,c3⟩|⟨c1,c2,c3⟩
    ·exact .inl ⟨c1,by simp [c2],by simp [c3]⟩
    ·exact .inr (.inl ⟨c1,by simp [c2],by simp [c3]⟩)
    ·exact .inr (.inr ⟨c1,by simp [c2],by simp [c3]⟩)
def cb (x y:ByteArray):Int:=Lib.compareBytes x.data.toList y.data.toList
theorem cb_cases (x y:ByteArray):(cb x y=-1∧lt x y=true∧x≠y)∨(cb x y=0∧lt x y=false∧x=y)∨(cb x y=1∧lt x y=false∧x≠y):=by
 have e:∀z:ByteArray,z.toList=z.data.toList:=fun z=>by first|rfl|simp|exact ByteArray.toList_eq z
 unfold cb lt
 rw [e,e]
 rcases cmp_cases x.data.toList y.data.toList with ⟨c1,c2,c3⟩|⟨c1,c2,c3⟩|⟨c1,c2,c3⟩
 ·exact .inl ⟨c1,c2,fun h=>c3 (by rw [h])⟩
 ·exact .inr (.inl ⟨c1,c2,ByteArray.ext (Array.toList_inj.1 c3)⟩)
 ·exact .inr (.inr ⟨c1,c2,fun h=>c3 (by rw [h])⟩)
theorem icb (x y:ByteArray) (w:World):Calls Tryz.prog 99 #[.string x,.string y] w fun e w'=>e=.returned (.int .i64 (cb x y))∧w'=w:=Tryz.strings_Compare x y w
end WinR
end Go.Proofs.YtcilbmhkhllmjaaGreatDoor
namespace Go.Proofs
open Go.Shelf
def Tryz.sortS_ren:Go.Shelf.Ren:=⟨fun|6=>97|15=>131|14=>130|28=>168|29=>169|20=>160|21=>161|22=>162|23=>163|24=>164|25=>165|26=>166|27=>167|46=>193|47=>194|48=>195|49=>196|50=>197|57=>206|n=>n,fun|22=>38|24=>74|25=>141|3=>3|39=>155|0=>0|53=>229|55=>150|4=>4|46=>222|45=>221|50=>226|5=>5|9=>9|66=>249|70=>253|76=>258|77=>259|n=>n,fun|n=>n⟩
theorem Tryz.sortS:Go.Proofs.SlLaysF0.n6 Tryz.prog Tryz.sortS_ren:={
 mixed:=by kernel_rfl
 f6:=⟨Tryz.f97.name,by decide,Tryz.func97.trans (congrArg some (by kernel_rfl))⟩
 f14:=⟨Tryz.f130.name,by decide,Tryz.func130.trans (congrArg some (by kernel_rfl))⟩
 f15:=Tryz.func131.trans (congrArg some (by kernel_rfl))
 f20:=⟨Tryz.f160.name,by decide,Tryz.func160.trans (congrArg some (by kernel_rfl))⟩
 f21:=⟨Tryz.f161.name,by decide,Tryz.func161.trans (congrArg some (by kernel_rfl))⟩
 f22:=⟨Tryz.f162.name,by decide,Tryz.func162.trans (congrArg some (by kernel_rfl))⟩
 f23:=⟨Tryz.f163.name,by decide,Tryz.func163.trans (congrArg some (by kernel_rfl))⟩
 f24:=⟨Tryz.f164.name,by decide,Tryz.func164.trans (congrArg some (by kernel_rfl))⟩
 f25:=⟨Tryz.f165.name,by decide,Tryz.func165.trans (congrArg some (by kernel_rfl))⟩
 f26:=⟨Tryz.f166.name,by decide,Tryz.func166.trans (congrArg some (by kernel_rfl))⟩
 f27:=⟨Tryz.f167.name,by decide,Tryz.func167.trans (congrArg some (by kernel_rfl))⟩
 f28:=Tryz.func168.trans (congrArg some (by kernel_rfl))
 f29:=Tryz.func169.trans (congrArg some (by kernel_rfl))
 f46:=⟨Tryz.f193.name,by decide,Tryz.func193.trans (congrArg some (by kernel_rfl))⟩
 f47:=Tryz.func194.trans (congrArg some (by kernel_rfl))
 f48:=Tryz.func195.trans (congrArg some (by kernel_rfl))
 f49:=⟨Tryz.f196.name,by decide,Tryz.func196.trans (congrArg some (by kernel_rfl))⟩
 f50:=⟨Tryz.f197.name,by decide,Tryz.func197.trans (congrArg some (by kernel_rfl))⟩
 f57:=⟨Tryz.f206.name,by decide,Tryz.func206.trans (congrArg some (by kernel_rfl))⟩
 t0:=Tryz.underlying0
 a0:=Tryz.isAgg0
 z0:=Tryz.sizeOf0
 v0:=Tryz.zeroValue0
 t3:=Tryz.underlying3
 a3:=Tryz.isAgg3
 z3:=Tryz.sizeOf3
 v3:=Tryz.zeroValue3
 t4:=Tryz.underlying4
 a4:=Tryz.isAgg4
 z4:=Tryz.sizeOf4
 v4:=Tryz.zeroValue4
 t5:=Tryz.underlying5
 a5:=Tryz.isAgg5
 z5:=Tryz.sizeOf5
 v5:=Tryz.zeroValue5
 t9:=Tryz.underlying9
 a9:=Tryz.isAgg9
 z9:=Tryz.sizeOf9
 v9:=Tryz.zeroValue9
 t22:=Tryz.underlying38
 a22:=Tryz.isAgg38
 z22:=Tryz.sizeOf38
 v22:=Tryz.zeroValue38
 t25:=Tryz.underlying141
 a25:=Tryz.isAgg141
 z25:=Tryz.sizeOf141
 v25:=Tryz.zeroValue141
 t39:=Tryz.underlying155
 a39:=Tryz.isAgg155
 z39:=Tryz.sizeOf155
 v39:=Tryz.zeroValue155
 t45:=Tryz.underlying221
 a45:=Tryz.isAgg221
 z45:=Tryz.sizeOf221
 v45:=Tryz.zeroValue221
 t46:=Tryz.underlying222
 a46:=Tryz.isAgg222
 z46:=Tryz.sizeOf222
 v46:=Tryz.zeroValue222
 t50:=Tryz.underlying226
 a50:=Tryz.isAgg226
 z50:=Tryz.sizeOf226
 v50:=Tryz.zeroValue226
 t53:=Tryz.underlying229
 a53:=Tryz.isAgg229
 z53:=Tryz.sizeOf229
 v53:=Tryz.zeroValue229
 t55:=Tryz.underlying150
 a55:=Tryz.isAgg150
 z55:=Tryz.sizeOf150
 v55:=Tryz.zeroValue150
 t66:=Tryz.underlying249
 a66:=Tryz.isAgg249
 z66:=Tryz.sizeOf249
 v66:=Tryz.zeroValue249
 t70:=Tryz.underlying253
 a70:=Tryz.isAgg253
 z70:=Tryz.sizeOf253
 v70:=Tryz.zeroValue253
 t76:=Tryz.underlying258
 a76:=Tryz.isAgg258
 z76:=Tryz.sizeOf258
 v76:=Tryz.zeroValue258
 t77:=Tryz.underlying259
 a77:=Tryz.isAgg259
 z77:=Tryz.sizeOf259
 v77:=Tryz.zeroValue259}
end Go.Proofs
namespace Go.Proofs.YtcilbmhkhllmjaaGreatDoor
open Go.ChangeShapes Go.WideShapes Go.ChangeAt Go.RowKit
set_option linter.unusedVariables false
namespace BilR
open LtR WinR
open RowG (Rws cellsAll)
open CatR (Blk Blk.new)
open Go.Sort (putRowK putRow mapBlock ahead HoldsK flatK size_flatK get_flatK)
structure WP where
 d:Wd
 ta:Option Addr
 tc:Nat
 ha:Option Addr
 hc:Nat
def WP.zero:WP:=⟨Wd.zero,none,0,none,0⟩
instance:Inhabited WP:=⟨WP.zero⟩
def WP.cells (x:WP):List Value:=[.string x.d.a,.string x.d.m,.int .i64 x.d.mo,.int .i64 x.d.ev,.int .i64 x.d.su,.int .i64 x.d.mx,.slice x.ta x.d.ts.length x.tc,.slice x.ha x.d.hs.length x.hc]
theorem WP.len (x:WP):x.cells.length=8:=rfl
theorem WP.one (x:WP):∀v∈x.cells,v.oneCell'=true:=by
 intro v hv
 simp only [WP.cells,List.mem_cons,List.not_mem_nil,or_false] at hv
 rcases hv with rfl|rfl|rfl|rfl|rfl|rfl|rfl|rfl<;>rfl
def WP.Reads (x:WP) (w:World):Prop:=Tgs x.ta x.d.ts w∧Hrs x.ha x.d.hs w
theorem WP.Reads.below {x:WP} {w w':World} (h:x.Reads w) (hb:Below w.heap.size w w'):x.Reads w':=⟨h.1.below hb,h.2.below hb⟩
theorem wps_of {ao:Option Addr} {ws:List Wd} {w:World} (h:Wns ao ws w):∃ps:List WP,ps.map WP.d=ws∧Rws 8 WP.cells WP.zero ao ps w∧∀p∈ps,p.Reads w:=by
 rcases h with h0|⟨b,off,rfl,hl,hc⟩
 ·obtain rfl:ws=[]:=List.length_eq_zero_iff.1 h0
  exact ⟨[],rfl,.inl rfl,fun p hp=>by cases hp⟩
 ·have hex:∀j:Nat,∃p:WP,j<ws.length→p.d=ws.getD j Wd.zero∧(∀i,i<8→w.cell? ⟨b,off+j*8+i,none⟩=p.cells[i]?)∧p.Reads w:=by
   intro j
   by_cases hj:j<ws.length
   ·obtain ⟨ta,tc,ha,hc',c0,c1,c2,c3,c4,c5,c6,c7,hT,hH⟩:=hc j hj
    refine ⟨⟨ws.getD j Wd.zero,ta,tc,ha,hc'⟩,fun _=>⟨rfl,fun i hi=>?_,hT,hH⟩⟩
    rcases (show i=0∨i=1∨i=2∨i=3∨i=4∨i=5∨i=6∨i=7 by omega) with rfl|rfl|rfl|rfl|rfl|rfl|rfl|rfl
    ·exact c0
    ·exact c1
    ·exact c2
    ·exact c3
    ·exact c4
    ·exact c5
    ·exact c6
    ·exact c7
   ·exact ⟨WP.zero,fun h=>absurd h hj⟩
  obtain ⟨f,hf⟩:=Classical.axiomOfChoice hex
  refine ⟨(List.range ws.length).map f,?_,.inr ⟨b,off,rfl,hl,fun j hj i hi=>?_⟩,fun p hp=>?_⟩
  ·rw [List.map_map]
   apply List.ext_getElem
   ·simp
   ·intro i h1 h2
    have h3:=(hf i h2).1
    simp only [List.getElem_map,List.getElem_range,Function.comp]
    rw [h3]
    simp [List.getD,h2]
  ·have hj':j<ws.length:=by simpa using hj
   have e:((List.range ws.length).map f).getD j WP.zero=f j:=by simp [List.getD,hj']
   rw [e]
   exact (hf j hj').2.1 i hi
  ·obtain ⟨j,hj,rfl⟩:=List.mem_map.1 hp
   exact (hf j (by simpa using hj)).2.2
def wcf (x y:WP):Int:=cb x.d.m y.d.m
theorem wcf_lt (x y:WP):ltOf wcf x y=lt x.d.m y.d.m:=by
 unfold ltOf wcf
 rcases cb_cases x.d.m y.d.m with ⟨c1,c2,_⟩|⟨c1,c2,_⟩|⟨c1,c2,_⟩<;>rw [c1,c2]<;>rfl
theorem wcf_swo:Go.Sort.SWO (ltOf wcf) where
 irrefl x:=by rw [wcf_lt];exact lt_irrefl _
 trans x y z h1 h2:=by rw [wcf_lt] at *;exact lt_trans h1 h2
 ntrans x y z h1 h2:=by
  rw [wcf_lt] at *
  cases h:lt x.d.m z.d.m
  ·rfl
  ·cases h3:lt y.d.m x.d.m
   ·rw [lt_total h1 h3] at h;rw [h] at h2;cases h2
   ·have:=lt_trans h3 h
    rw [this] at h2;cases h2
set_option maxHeartbeats 1000000 in
theorem wclos (x y:WP) (W:World):Calls Tryz.prog 98 #[.agg x.cells.toArray,.agg y.cells.toArray] W fun e w'=>e=.returned (.int .i64 (wcf x y))∧∃q os',w'=Go.Sort.grow (W.drewN q) os':=by
 have hcon:=fun W'=>icb x.d.m y.d.m W'
 unfold wcf
 generalize cb x.d.m y.d.m=r at hcon ⊢
 obtain ⟨⟨xa,xm,xo,xe,xs,xx,xt,xh⟩,ta,tc,ha,hc⟩:=x
 obtain ⟨⟨ya,ym,yo,ye,ys,yx,yt,yh⟩,tb,td,hb,hd⟩:=y
 simp only [WP.cells] at *
 generalize xt.length=l1
 generalize xh.length=l2
 generalize yt.length=l3
 generalize yh.length=l4
 go_enter Tryz.func98,Tryz.ntmps98
 go_wp2_with fail
 refine (hcon _).mono ?_
 rintro e w' ⟨rfl,rfl⟩
 go_wp2_with fail
 go_ret
 exact ⟨rfl,0,_,by rw [Go.Sort.alloc_eq_grow,Go.Sort.alloc_eq_grow,Go.Sort.grow_grow];rfl⟩
theorem sort_grown (enc:WP→List Value) (k:Nat) (w:World) (b off n:Nat) (d:Array WP) (os:Array Obj):w.grownBy (sortWorldK enc k w b off n d os) (some b):=by
 refine ⟨rfl,rfl,rfl,size_sortWorldK_c enc k w b off n d os,fun k' hk hne=>?_⟩
 have hne':k'≠b:=fun e=>hne (by rw [e])
 simp only [sortWorldK,putRowK,putRow,mapBlock,Go.Sort.grow]
 rw [Array.getElem?_append_left (by simpa using hk),Array.getElem?_modify,if_neg (fun e=>hne' e.symm)]
 rfl
theorem getD_arr (d:Array WP) (i:Nat) (h:i<d.size):d[i]! = d.toList.getD i WP.zero:=by
 simp [List.getD,h]
theorem perm_of {d d':Array WP} (h:Go.Sort.PermIn 0 d.size d d'):d'.toList.Perm d.toList:=by
 obtain ⟨h1,_,h3⟩:=h
 have e1:d'.extract 0 d.size=d':=by rw [←h1];simp
 have e2:d.extract 0 d.size=d:=by simp
 rw [e1,e2] at h3
 exact h3
theorem sorted_of {d':Array WP} {n:Nat} (hn:d'.size=n) (h:Go.Sort.SortedIn (ltOf wcf) 0 n d'):d'.toList.Pairwise (fun x y=>lt y.d.m x.d.m=false):=by
 refine List.pairwise_iff_getElem.2 (fun i j hi hj hij=>?_)
 have hi':i<d'.size:=by simpa using hi
 have hj':j<d'.size:=by simpa using hj
 have:=h i j (Nat.zero_le _) hij (by omega)
 rw [wcf_lt,getElem!_pos d' i hi',getElem!_pos d' j hj'] at this
 simpa using this
set_option maxHeartbeats 1000000 in
theorem sort_wds (b off cap:Nat) (qs:List WP) (w:World) (hb:b<w.heap.size) (hlen:qs.length≤1048576)
 (hc:∀i,i<qs.length→∀j,j<8→w.cell? ⟨b,off+i*8+j,none⟩=(qs.getD i WP.zero).cells[j]?) (hf:∀o,o<qs.length*8→w.frozen? ⟨b,off+o,none⟩=false) :
 Calls Tryz.prog 97 #[.slice (some ⟨b,off,none⟩) qs.length cap,.func (.func 98) #[] #[]] w fun e w'=>e=.returned (.tuple #[])∧∃rs:List WP,rs.Perm qs∧rs.Pairwise (fun x y=>lt y.d.m x.d.m=false)∧w.grownBy w' (some b)∧Rws 8 WP.cells WP.zero (some ⟨b,off,none⟩) rs w':=by
 have eg:∀args w,(callFunc 98 args).run Tryz.prog w=.ok (.enter 98 args) w:=enters_of Tryz.func98 (by kernel_rfl) rfl
 have hH:HoldsK WP.cells 8 w b off qs.toArray:=by
  intro t ht
  rw [size_flatK] at ht
  have hs:qs.toArray.size=qs.length:=by simp
  rw [hs] at ht
  have h8:t / 8<qs.length:=by omega
  have hc':=hc (t / 8) h8 (t % 8) (by omega)
  rw [show off+t / 8*8+t % 8=off+t by omega] at hc'
  refine ⟨?_,hf t ht⟩
  rw [get_flatK _ _ _ _ (by rw [hs];exact ht),hc',getD_arr _ _ (by simpa using h8)]
  have hl:t % 8<(qs.toArray.toList.getD (t / 8) WP.zero).cells.length:=by rw [WP.len];omega
  rw [id,getElem!_pos (qs.toArray.toList.getD (t / 8) WP.zero).cells (t % 8) hl]
  simp
 have hcon:=AnyQ.slices_SortFunc Tryz.sortS 8 (fun w=>by kernel_rfl) (fun w=>by kernel_rfl) WP.cells WP.len WP.one wcf wcf_swo 98 #[] b off cap qs.toArray w eg (fun _ _ _ _ x y=>wclos x y _) hH hb (by simp;omega)
 change Calls Tryz.prog 97 _ _ _ at hcon
 rw [show qs.toArray.size=qs.length by simp] at hcon
 refine hcon.mono ?_
 rintro e w' ⟨rfl,d',n,os,hp,hs,rfl⟩
 have hp':Go.Sort.PermIn 0 qs.toArray.size qs.toArray d':=by simpa using hp
 have hsz:d'.size=qs.toArray.size:=hp'.1
 have hH':=holdsK_sortWorldK_c WP.cells 8 w b off qs.toArray d' n os hH hb hsz
 refine ⟨rfl,d'.toList,by simpa using perm_of hp',sorted_of (by simpa using hsz) hs,sort_grown _ _ _ _ _ _ _ _,.inr ⟨b,off,rfl,Nat.lt_of_lt_of_le hb (sort_grown WP.cells 8 w b off n d' os).size,fun j hj i hi=>?_⟩⟩
 have hj':j<d'.size:=by simpa using hj
 have ht:j*8+i<d'.size*8:=by omega
 have h1:=(hH' (j*8+i) (by rw [size_flatK];exact ht)).1
 rw [get_flatK _ _ _ _ ht,show (j*8+i) / 8=j by omega,show (j*8+i) % 8=i by omega,getD_arr _ _ hj',id] at h1
 rw [Nat.add_assoc,h1]
 have hl:i<(d'.toList.getD j WP.zero).cells.length:=by rw [WP.len];exact hi
 rw [getElem!_pos (d'.toList.getD j WP.zero).cells i hl]
 simp
end BilR
namespace BilR
open LtR WinR
open RowG (Rws cellsAll cellsAll_app own_below own_made getD_mem take_more)
open CatR (Blk Blk.new)
open EvtR (Pt)
def ownF (a:ByteArray) (p:WP):Bool:=p.d.a.toList==a.toList
theorem filter_moreW (q:WP→Bool) (xs:List WP) (k:Nat) (h:k<xs.length):(xs.take (k+1)).filter q=(xs.take k).filter q++(bif q (xs.getD k WP.zero) then [xs.getD k WP.zero] else []):=by
 rw [take_more (z:=WP.zero) xs k h,List.filter_append]
 generalize xs.getD k WP.zero=X
 cases hr:q X<;>simp [hr]
theorem infoW8:(Tryz.prog.info? 74).map (fun i=>(i.zero,i.size,i.bytes))=some (some (.agg #[.string ⟨#[]⟩,.string ⟨#[]⟩,.int .i64 0,.int .i64 0,.int .i64 0,.int .i64 0,.slice none 0 0,.slice none 0 0]),8,112):=by kernel_rfl
theorem rws_at {ao:Option Addr} {ps:List WP} {w:World} (h:Rws 8 WP.cells WP.zero ao ps w) (k:Nat) (hk:k<ps.length):∃b off,ao=some ⟨b,off,none⟩∧b<w.heap.size∧∀i,i<8→w.cell? ⟨b,off+k*8+i,none⟩=(ps.getD k WP.zero).cells[i]?:=by
 rcases h with h0|⟨b,off,e,hl,hc⟩
 ·omega
 ·exact ⟨b,off,e,hl,fun i hi=>hc k hk i hi⟩
set_option maxRecDepth 100000 in
set_option maxHeartbeats 4000000 in
theorem windows_of (ao:Option Addr) (cap:Nat) (ps:List WP) (a:ByteArray) (w:World) (hlen:ps.length≤1048576) (hI:Rws 8 WP.cells WP.zero ao ps w) :
 Calls Tryz.prog 45 #[.string a,.slice ao ps.length cap] w fun e w'=>∃bo cap' rs,e=.returned (.slice bo rs.length cap')∧rs.Perm (ps.filter (ownF a))∧rs.Pairwise (fun x y=>lt y.d.m x.d.m=false)∧Rws 8 WP.cells WP.zero bo rs w'∧Below w.heap.size w w':=by
 obtain ⟨i0,hi,hz0,hz1,hz2⟩:=info_parts infoW8
 have HI:=H_ hI
 obtain ⟨len,hl⟩:∃len,len=ps.length:=⟨_,rfl⟩
 rw [←hl] at hlen ⊢
 have HL:=H_ hl
 have HEND:Hid (ps.take len=ps):=H_ (List.take_of_length_le (by omega))
 clear hI hl
 go_enter Tryz.func45,Tryz.ntmps45
 go_wp2_with fail
 go_loopw [5,10] (fun v z wr=>∃k:Nat,k≤len∧z=.int .i64 k∧Hid (wr.ownsRow w.heap.size 74 8 v ((ps.take k).filter (ownF a)).length (cellsAll WP.cells ((ps.take k).filter (ownF a))))∧Hid (Below w.heap.size w wr)) (fun v z _=>len-(intOf z).toNat)
 case atStart=>exact ⟨0,by omega,rfl,H_ (World.ownsRow_nil _ _ _ _),H_ (Below.refl _ _)⟩
 case round =>
  obtain ⟨k,hk,rfl,HO,HB⟩:=hrel
  by_cases hlt:k<len
  ·have hlt2:(k:Int)<(len:Int):=by omega
   obtain ⟨b',off,rfl,hbl,hc⟩:=rws_at (HI.out.below HB.out) k (by have:=HL.out;omega)
   have HF:=H_ (filter_moreW (ownF a) ps k (by have:=HL.out;omega))
   have HLF:Hid (((ps.take k).filter (ownF a)).length≤1048576):=H_ (by
    have h1:=List.length_filter_le (ownF a) (ps.take k)
    have h2:=List.length_take_le k ps
    omega)
   obtain ⟨F,hF⟩:∃F,F=(ps.take k).filter (ownF a):=⟨_,rfl⟩
   rw [←hF] at HO HF HLF
   clear hF
   generalize ps.getD k WP.zero=X at *
   obtain ⟨⟨xa,xm,xo,xe,xs,xx,xt,xh⟩,ta,tc,ha,hc'⟩:=X
   have c0:=hc 0 (by omega)
   have c1:=hc 1 (by omega)
   have c2:=hc 2 (by omega)
   have c3:=hc 3 (by omega)
   have c4:=hc 4 (by omega)
   have c5:=hc 5 (by omega)
   have c6:=hc 6 (by omega)
   have c7:=hc 7 (by omega)
   simp only [WP.cells,List.getElem?_cons_zero,List.getElem?_cons_succ,Nat.add_zero] at c0 c1 c2 c3 c4 c5 c6 c7
   have HOW:Hid (∀j u,(WP.cells ⟨⟨xa,xm,xo,xe,xs,xx,xt,xh⟩,ta,tc,ha,hc'⟩)[j]? = some u→∀W:World,∀T,(W.alloc (.cells #[.string xa,.string xm,.int .i64 xo,.int .i64 xe,.int .i64 xs,.int .i64 xx,.slice ta xt.length tc,.slice ha xh.length hc'] T)).cell? ((⟨W.heap.size,0,none⟩:Addr).add j)=some u):=H_ (by
    intro j u hx W T
    have hB:=(Blk.new W (WP.cells ⟨⟨xa,xm,xo,xe,xs,xx,xt,xh⟩,ta,tc,ha,hc'⟩) T).2 j (by have:=(List.getElem?_eq_some_iff.1 hx).1;exact this)
    rw [hx] at hB
    have e:((⟨W.heap.size,0,none⟩:Addr).add j)=⟨W.heap.size,j,none⟩:=by
     by_cases h:j=0
     ·subst h;simp [Addr.add]
     ·simp [Addr.add,h]
    rw [e]
    exact hB)
   have HOF:Hid (ownF a ⟨⟨xa,xm,xo,xe,xs,xx,xt,xh⟩,ta,tc,ha,hc'⟩=(xa.toList==a.toList)):=H_ rfl
   clear hc
   cases hq:(xa.toList==a.toList)
   ·rw [HOF.out,hq,cond_false,List.append_nil] at HF
    generalize xt.length=l1 at *
    generalize xh.length=l2 at *
    clear HOW
    go_wp2_with fail
    go_roundw
    case rel=>exact ⟨k+1,by omega,by go_num,H_ (by rw [HF.out];exact HO.out.alloc _),H_ (HB.out.alloc HB.out.size _)⟩
    case measure=>simp [intOf];omega
   ·rw [HOF.out,hq,cond_true] at HF
    have HCE:Hid (∃cs,cs=WP.cells ⟨⟨xa,xm,xo,xe,xs,xx,xt,xh⟩,ta,tc,ha,hc'⟩):=H_ ⟨_,rfl⟩
    obtain ⟨l1,hl1⟩:∃n,n=xt.length:=⟨_,rfl⟩
    obtain ⟨l2,hl2⟩:∃n,n=xh.length:=⟨_,rfl⟩
    have HL1:=H_ hl1
    have HL2:=H_ hl2
    rw [←hl1] at c6
    rw [←hl2] at c7
    simp only [WP.cells,←hl1,←hl2] at HOW
    clear hl1 hl2
    obtain ⟨W1,hW1⟩:∃z,z=wr.alloc (.cells #[.string xa,.string xm,.int .i64 xo,.int .i64 xe,.int .i64 xs,.int .i64 xx,.slice ta l1 tc,.slice ha l2 hc'] 74):=⟨_,rfl⟩
    have HB1:Hid (Below w.heap.size w W1):=H_ (by rw [hW1];exact HB.out.alloc HB.out.size _)
    have HO1:Hid (W1.ownsRow w.heap.size 74 8 u5 F.length (cellsAll WP.cells F)):=H_ (by rw [hW1];exact HO.out.alloc _)
    have HS1:Hid (W1.heap.size=wr.heap.size+1):=H_ (by rw [hW1];simp)
    have HW1:=H_ hW1
    clear hW1
    go_wp2_with (at_builtin;rw [←HW1.out];refine wpList_append_own _ rfl _ _ 38 rfl w.heap.size 74 i0 (.agg #[.string ⟨#[]⟩,.string ⟨#[]⟩,.int .i64 0,.int .i64 0,.int .i64 0,.int .i64 0,.slice none 0 0,.slice none 0 0]) 8 112 Tryz.underlying38 hi hz0 hz1 hz2 rfl (by decide) _ _ _ rfl (HO1.out.alloc _) ⟨wr.heap.size+1,0,none⟩ 1 1 [.string xa,.string xm,.int .i64 xo,.int .i64 xe,.int .i64 xs,.int .i64 xx,.slice ta l1 tc,.slice ha l2 hc'] rfl rfl ?d1 ?d2 ?d3 ?d4 ?d5 ?_)
    case d1 =>
     intro j u hx
     have h:=HOW.out j u hx W1 74
     rw [HS1.out] at h
     exact h
    case d2 =>
     intro u hu
     simp only [List.mem_cons,List.not_mem_nil,or_false] at hu
     rcases hu with rfl|rfl|rfl|rfl|rfl|rfl|rfl|rfl<;>rfl
    case d3=>unfold maxLen;have:=HLF.out;omega
    case d4=>have:=HLF.out;omega
    case d5=>have h1:=HB1.out.size;simp;omega
    intro v' w4 hown hgrow hne
    have hob:∀c,u5.ownBlock=some c→w.heap.size≤c:=fun c hc=>(HO1.out.lt c hc).1
    have HO4:Hid (w4.ownsRow w.heap.size 74 8 v' (F ++ [(⟨⟨xa,xm,xo,xe,xs,xx,xt,xh⟩,ta,tc,ha,hc'⟩:WP)]).length (cellsAll WP.cells (F ++ [(⟨⟨xa,xm,xo,xe,xs,xx,xt,xh⟩,ta,tc,ha,hc'⟩:WP)]))):=H_ (by rw [cellsAll_app,List.length_append];simp only [WP.cells,←HL1.out,←HL2.out];exact hown)
    have HB4:Hid (Below w.heap.size w w4):=H_ ((HB1.out.alloc HB1.out.size _).grown hgrow (HB1.out.alloc HB1.out.size _).size (fun c e=>hob c e))
    clear hown hgrow hne hob
    go_wp2_with fail
    go_roundw
    case rel=>exact ⟨k+1,by omega,by go_num,H_ (by rw [HF.out];exact HO4.out),HB4⟩
    case measure=>simp [intOf];omega
  ·have hlt2:¬(k:Int)<(len:Int):=by omega
   obtain rfl:k=len:=by omega
   rw [HEND.out] at HO
   obtain ⟨F,hF⟩:∃F,F=ps.filter (ownF a):=⟨_,rfl⟩
   rw [←hF] at HO
   have HFE:=H_ hF
   have HFL:Hid (F.length≤1048576):=H_ (by rw [hF];have h1:=List.length_filter_le (ownF a) ps;have:=HL.out;omega)
   clear hF
   obtain ⟨bo,cap',rfl,hm⟩:=own_made (z:=WP.zero) WP.len HO.out
   by_cases h0:F.length=0
   ·obtain rfl:F=[]:=List.length_eq_zero_iff.1 h0
    have HS:=H_ (fun (W:World)=>AnyF.slices_SortFunc_none Tryz.sortS bo cap' (.func (.func 98) #[] #[]) W)
    go_wp2_with fail
    refine (HS.out _).mono ?_
    rintro e w' ⟨rfl,rfl⟩
    go_wp2_with fail
    go_ret
    exact ⟨bo,cap',[],rfl,by rw [←HFE.out],List.Pairwise.nil,.inl rfl,HB.out⟩
   ·rcases hm.own with q|⟨g,rfl,hg,hp⟩
    ·exact absurd q h0
    rcases hm.rws with q|⟨b2,off2,e2,hl2,hc2⟩
    ·exact absurd q h0
    simp only [Option.some.injEq,Addr.mk.injEq,and_true] at e2
    obtain ⟨rfl,rfl⟩:=e2
    have HS:=H_ (sort_wds g 0 cap' F wr hl2 HFL.out (fun i hi j hj=>hc2 i hi j hj) (fun o ho=>by rw [Nat.zero_add];exact hp.free o ho))
    clear hm hp hc2 HO
    generalize hFl:F.length=fl at *
    go_wp2_with fail
    refine HS.out.mono ?_
    rintro e w' ⟨rfl,rs,hp,hs,hgr,hR⟩
    have HR:=H_ hR
    have HP:=H_ hp
    have HSS:=H_ hs
    have hrl:rs.length=fl:=by rw [hp.length_eq,hFl]
    have HB4:=H_ (HB.out.grown hgr HB.out.size (fun c e=>by cases e;exact hg))
    have HRL:=H_ hrl
    clear hR hp hs hgr hrl
    go_wp2_with fail
    go_ret
    exact ⟨_,cap',rs,by rw [HRL.out];rfl,by rw [←HFE.out];exact HP.out,HSS.out,HR.out,HB4.out⟩
end BilR
namespace BilR
open LtR WinR
open RowG (Rws cellsAll cellsAll_app own_below own_made getD_mem take_more)
open CatR (Blk Blk.new)
theorem wns_of {ao:Option Addr} {ps:List WP} {w:World} (h:Rws 8 WP.cells WP.zero ao ps w) (hr:∀p∈ps,p.Reads w):Wns ao (ps.map WP.d) w:=by
 rcases h with h0|⟨b,off,rfl,hl,hc⟩
 ·exact .inl (by rw [List.length_map];exact h0)
 ·refine .inr ⟨b,off,rfl,hl,fun j hj=>?_⟩
  rw [List.length_map] at hj
  have e:(ps.map WP.d).getD j Wd.zero=(ps.getD j WP.zero).d:=by simp [List.getD,hj]
  rw [e]
  have f:=fun i hi=>hc j hj i hi
  obtain ⟨hT,hH⟩:=hr _ (getD_mem (z:=WP.zero) ps j hj)
  exact ⟨_,_,_,_,f 0 (by omega),f 1 (by omega),f 2 (by omega),f 3 (by omega),f 4 (by omega),f 5 (by omega),f 6 (by omega),f 7 (by omega),hT,hH⟩
end BilR
namespace DrawR
open EvtR (ev Pt)
open RowG (cellsAll)
open BilR (WP infoW8 wns_of)
open WinR (Wd Sm wcells H Hrs Tgs Wns)
def PwA (k:Nat) (y:Wd) (ta ha:Option Addr):Prop:=(y.ts.length=0∨∀b off,ta=some ⟨b,off,none⟩→b≠k)∧(y.hs.length=0∨∀b off,ha=some ⟨b,off,none⟩→b≠k)
theorem pwa_new {B k:Nat} {y:Wd} {ta ha:Option Addr} {W:World} (h:WdF B y ta ha W) (hk:W.heap.size≤k):PwA k y ta ha:=by
 obtain ⟨h1,h2,_⟩:=h
 refine ⟨?_,?_⟩
 ·rcases h1 with h0|⟨b',off',rfl,hl,_⟩
  ·exact .inl h0
  ·exact .inr (fun b off e=>by cases e;omega)
 ·rcases h2 with h0|⟨b',off',rfl,hl,_⟩
  ·exact .inl h0
  ·exact .inr (fun b off e=>by cases e;omega)
theorem pwa_old {B k:Nat} {y:Wd} {ta ha:Option Addr} {W:World} (h:WdF B y ta ha W) (hk:k<B):PwA k y ta ha :=
 ⟨.inr (fun b off e=>by have:=h.2.2.1 b off e;omega),h.2.2.2.imp id (fun q b off e=>by have:=q b off e;omega)⟩
theorem WdF.row {B k:Nat} {y:Wd} {ta ha:Option Addr} {W W':World} (h:WdF B y ta ha W) (hg:W.grownBy W' (some k)) (ha':PwA k y ta ha):WdF B y ta ha W' :=
 ⟨h.1.grown hg (ha'.1.imp id (fun q b off e hb=>q b off e (by simpa using hb))),h.2.1.grown hg (ha'.2.imp id (fun q b off e hb=>q b off e (by simpa using hb))),h.2.2⟩
theorem WdF.nrow {B:Nat} {y:Wd} {ta ha:Option Addr} {W W':World} {row:Option Nat} (h:WdF B y ta ha W) (hg:W.grownBy W' row) (ha':∀k,row=some k→PwA k y ta ha):WdF B y ta ha W':=by
 refine ⟨h.1.grown hg ?_,h.2.1.grown hg ?_,h.2.2⟩
 ·cases row with
  | none=>exact .inr (fun b off e hb=>by cases hb)
  | some k=>exact (ha' k rfl).1.imp id (fun q b off e hb=>q b off e (by simpa using hb))
 ·cases row with
  | none=>exact .inr (fun b off e hb=>by cases hb)
  | some k=>exact (ha' k rfl).2.imp id (fun q b off e hb=>q b off e (by simpa using hb))
structure WsD (ao:Option Addr) (len cap g:Nat) (w:World) (v:Value) (ps:List WP) (W:World):Prop where
 src:Src ao len cap g W
 gr:w.grownBy W (some g)
 own:W.ownsRow w.heap.size 74 8 v ps.length (cellsAll WP.cells ps)
 nn:v≠.slice none 0 0
 gl:g<w.heap.size
 sm:∀p∈ps,Sm 13 p.d
 rd:∀p∈ps,WdF w.heap.size p.d p.ta p.ha W
 ap:∀p∈ps,∀k,v.ownBlock=some k→PwA k p.d p.ta p.ha
section
variable {ao:Option Addr} {len cap g:Nat} {w:World} {v:Value} {ps:List WP} {W W':World} {y:Wd} {ta:Option Addr} {tc:Nat} {ha:Option Addr} {hc V:Nat}
theorem WsD.step (h:WsD ao len cap g w v ps W) (hS:Src ao len cap g W') (hg:W.grownBy W' (some g)):WsD ao len cap g w v ps W' :=
 ⟨hS,Lib.grownBy_trans h.gr hg,OwG.own_keepG h.own hg h.gl,h.nn,h.gl,h.sm,fun p hp=>(h.rd p hp).kept hg h.gl,h.ap⟩
theorem WsD.below (h:WsD ao len cap g w v ps W) (hb:Below W.heap.size W W'):WsD ao len cap g w v ps W' :=
 ⟨h.src.kept (rgrown hb none) (fun k e=>by cases e),Lib.grownBy_trans h.gr (rgrown hb (some g)),RowG.own_below h.own hb,h.nn,h.gl,h.sm,fun p hp=>(h.rd p hp).below hb,h.ap⟩
structure WnD (ao:Option Addr) (len cap g:Nat) (w:World) (v:Value) (ps:List WP) (V:Nat) (y:Wd) (ta:Option Addr) (tc:Nat) (ha:Option Addr) (hc:Nat) (W:World):Prop where
 ws:WsD ao len cap g w v ps W
 box:BW V [.string y.a,.string y.m,.int .i64 y.mo,.int .i64 y.ev,.int .i64 y.su,.int .i64 y.mx,.slice ta y.ts.length tc,.slice ha y.hs.length hc] W
 rd:WdF w.heap.size y ta ha W
 vl:w.heap.size<V
 ok:∀k,v.ownBlock=some k→k≠V∧PwA k y ta ha
 av:PwA V y ta ha
 pv:∀p∈ps,PwA V p.d p.ta p.ha
theorem WnD.step (h:WnD ao len cap g w v ps V y ta tc ha hc W) (hS:Src ao len cap g W') (hg:W.grownBy W' (some g)):WnD ao len cap g w v ps V y ta tc ha hc W' :=
 ⟨h.ws.step hS hg,bw_gr h.box hg (by have:=h.ws.gl;have:=h.vl;simp;omega),h.rd.kept hg h.ws.gl,h.vl,h.ok,h.av,h.pv⟩
theorem WnD.below (h:WnD ao len cap g w v ps V y ta tc ha hc W) (hb:Below W.heap.size W W'):WnD ao len cap g w v ps V y ta tc ha hc W' :=
 ⟨h.ws.below hb,h.box.below hb,h.rd.below hb,h.vl,h.ok,h.av,h.pv⟩
theorem WnD.new {w1:World} (h:WsD ao len cap g w v ps W) (hS:Src ao len cap g w1) (hg:W.grownBy w1 (some g)) (hf:WdF W.heap.size y ta ha w1) (hb:Below w1.heap.size w1 W') (hx:BW w1.heap.size [.string y.a,.string y.m,.int .i64 y.mo,.int .i64 y.ev,.int .i64 y.su,.int .i64 y.mx,.slice ta y.ts.length tc,.slice ha y.hs.length hc] W'):WnD ao len cap g w v ps w1.heap.size y ta tc ha hc W':=by
 have h1:=h.step hS hg
 have hWl:w.heap.size<w1.heap.size:=by
  obtain ⟨g',cap',e,hl⟩:∃g' cap',v=.slice (some ⟨g',0,none⟩) ps.length cap'∧w.heap.size≤g':=by
   rcases h1.own.2 with ⟨h0,_⟩|⟨g',cap',cur,hv,h2,_⟩
   ·exact absurd h0 h1.nn
   ·exact ⟨g',cap',hv,h2⟩
  have:=(h1.own.lt g' (by rw [e];rfl)).2
  omega
 refine ⟨h1.below hb,hx,(hf.low h.gr.size).below hb,hWl,fun k hk=>?_,pwa_new hf (Nat.le_refl _),fun p hp=>pwa_new (h1.rd p hp) (Nat.le_refl _)⟩
 have hk1:=(h1.own.lt k hk).2
 have hk2:=(h.own.lt k hk).2
 exact ⟨by omega,pwa_old hf hk2⟩
theorem WnD.name {T:ByteArray} (h:WnD ao len cap g w v ps V y ta tc ha hc W):WnD ao len cap g w v ps V {y with m:=T} ta tc ha hc (W.setCell ⟨V,1,none⟩ (.string T)):=by
 have hV:=h.vl
 have hg:=h.ws.gl
 have hr:=rset W V 1 (.string T)
 refine ⟨⟨src_set h.ws.src (by omega) _ _,set_new h.ws.gr (by omega) _ _,OwG.own_keepO h.ws.own hr (fun b hb e=>(h.ok b hb).1 (by cases e;rfl)),h.ws.nn,hg,h.ws.sm,fun p hp=>(h.ws.rd p hp).row hr (h.pv p hp),h.ws.ap⟩,?_,h.rd.row hr h.av,hV,h.ok,h.av,h.pv⟩
 have:=WinR.BlkW.set h.box 1 (.string T) (by simp)
 simpa using this
theorem WnD.app {v':Value} (h:WnD ao len cap g w v ps V y ta tc ha hc W) (hs:Sm 13 y) (hown:W'.ownsRow w.heap.size 74 8 v' (ps.length+1) (cellsAll WP.cells ps ++ [.string y.a,.string y.m,.int .i64 y.mo,.int .i64 y.ev,.int .i64 y.su,.int .i64 y.mx,.slice ta y.ts.length tc,.slice ha y.hs.length hc])) (hg:W.grownBy W' v.ownBlock) (hn:v'≠.slice none 0 0) (hf:∀b,v'.ownBlock=some b→v.ownBlock=some b∨b=W.heap.size):WsD ao len cap g w v' (ps ++ [⟨y,ta,tc,ha,hc⟩]) W':=by
 have hob:∀c,v.ownBlock=some c→w.heap.size≤c:=fun c hc=>(h.ws.own.lt c hc).1
 refine ⟨h.ws.src.kept hg (fun k e=>by have:=hob k e;have:=h.ws.gl;omega),h.ws.gr.andThen hg (fun k e=>.inl (hob k e)),?_,hn,h.ws.gl,fun p hp=>?_,fun p hp=>?_,fun p hp k hk=>?_⟩
 ·rw [List.length_append,RowG.cellsAll_app]
  exact hown
 ·rcases List.mem_append.1 hp with q|q
  ·exact h.ws.sm p q
  ·simp only [List.mem_singleton] at q;subst q;exact hs
 ·rcases List.mem_append.1 hp with q|q
  ·exact (h.ws.rd p q).nrow hg (h.ws.ap p q)
  ·simp only [List.mem_singleton] at q;subst q;exact h.rd.nrow hg (fun k e=>(h.ok k e).2)
 ·rcases hf k hk with q|rfl
  ·rcases List.mem_append.1 hp with r|r
   ·exact h.ws.ap p r k q
   ·simp only [List.mem_singleton] at r;subst r;exact (h.ok k q).2
  ·rcases List.mem_append.1 hp with r|r
   ·exact pwa_new (h.ws.rd p r) (Nat.le_refl _)
   ·simp only [List.mem_singleton] at r;subst r;exact pwa_new h.rd (Nat.le_refl _)
end
def WsOut (ao:Option Addr) (len cap g:Nat) (w:World) (e:Ending) (w':World):Prop:=∃(wo:Option Addr) (wc:Nat) (ps:List WP),e=.returned (.slice wo ps.length wc)∧ps.length≤4∧Wns wo (ps.map WP.d) w'∧(∀k W',k<w.heap.size→w'.grownBy W' (some k)→Wns wo (ps.map WP.d) W')∧(∀p∈ps,Sm 13 p.d)∧Src ao len cap g w'∧w.grownBy w' (some g)
set_option maxRecDepth 100000 in
set_option maxHeartbeats 8000000 in
theorem windows_any (ao:Option Addr) (len cap g:Nat) (w:World) (hS:Src ao len cap g w) :
 Calls Tryz.prog 62 #[.pointer (some ⟨g,0,none⟩)] w fun e w'=>WsOut ao len cap g w e w':=by
 have hgl:=hS.lt
 obtain ⟨i0,hi,hz0,hz1,hz2⟩:=info_parts infoW8
 obtain ⟨W0,hW0⟩:∃z,z=w.alloc (.cells #[] 74):=⟨_,rfl⟩
 have HD:Hid (WsD ao len cap g w (.slice (some ⟨w.heap.size,0,none⟩) 0 0) [] W0):=H_ (by
  rw [hW0]
  exact ⟨hS.alloc _,World.grownBy_alloc _ _ _,World.ownsRow_made w #[] 0 (Nat.le_refl _) (by unfold maxLen;omega) (by simp),by simp,hgl,by simp,by simp,by simp⟩)
 have HW:=H_ hW0
 clear hW0 hS
 go_enter Tryz.func62,Tryz.ntmps62
 go_wp2_with fail
 rw [←HW.out]
 clear HW
 refine (n_any ao len cap g 5 _ (by omega) HD.out.src).mono ?_
 rintro e w1 ⟨v4,rfl,lo4,_,hi4,hS,hg⟩
 have ht4:v4<5:=hi4 (by omega)
 replace HD:=H_ (HD.out.step hS hg)
 clear hS hg hi4
 go_wp2_with fail
 go_loopw [3,4] (fun v z wr=>∃(k:Nat) (ps:List WP),z=.int .i64 k∧ps.length+k≤4∧Hid (WsD ao len cap g w v ps wr)) (fun v z _=>(intOf z).toNat)
 case atStart=>exact ⟨v4.toNat,[],by congr 1;omega,by simp;omega,HD⟩
 case round =>
  obtain ⟨k,ps,rfl,hk,HD⟩:=hrel
  by_cases hlt:0<k
  ·have hlt2:(0:Int)<(k:Int):=by omega
   go_wp2_with fail
   refine (window_any ao len cap g _ HD.out.src).mono ?_
   rintro e w5 ⟨y,ta,tc,ha,hc,rfl,hsm,hf,hS,hg⟩
   have HM:=H_ hsm
   have HN:Hid (WnD ao len cap g w u3 ps w5.heap.size y ta tc ha hc (w5.alloc (.cells #[.string y.a,.string y.m,.int .i64 y.mo,.int .i64 y.ev,.int .i64 y.su,.int .i64 y.mx,.slice ta y.ts.length tc,.slice ha y.hs.length hc] 74))):=H_ (WnD.new HD.out hS hg hf ((Below.refl _ _).alloc (Nat.le_refl _) _) (bw_new w5 [.string y.a,.string y.m,.int .i64 y.mo,.int .i64 y.ev,.int .i64 y.su,.int .i64 y.mx,.slice ta y.ts.length tc,.slice ha y.hs.length hc] _))
   clear hsm hf hS hg
   simp only [wcells]
   go_wp2_with fail
   obtain ⟨w6,hw6⟩:∃z,z=w5.alloc (.cells #[.string y.a,.string y.m,.int .i64 y.mo,.int .i64 y.ev,.int .i64 y.su,.int .i64 y.mx,.slice ta y.ts.length tc,.slice ha y.hs.length hc] 74):=⟨_,rfl⟩
   rw [←hw6] at HN ⊢
   clear hw6
   generalize w5.heap.size=V at *
   refine (one_any ao len cap g 2 _ (by omega) HN.out.ws.src).mono ?_
   rintro e w7 ⟨⟨q,rfl⟩,hS,hg⟩
   replace HN:=H_ (HN.out.step hS hg)
   clear hS hg HD
   cases q
   ·obtain ⟨⟨vl,vk⟩,vf⟩:=id HN.out.box
    have x0:w7.cell? ⟨V,0,none⟩=some (.string y.a):=vk 0 (by simp)
    have x1:w7.cell? ⟨V,1,none⟩=some (.string y.m):=vk 1 (by simp)
    have x2:w7.cell? ⟨V,2,none⟩=some (.int .i64 y.mo):=vk 2 (by simp)
    have x3:w7.cell? ⟨V,3,none⟩=some (.int .i64 y.ev):=vk 3 (by simp)
    have x4:w7.cell? ⟨V,4,none⟩=some (.int .i64 y.su):=vk 4 (by simp)
    have x5:w7.cell? ⟨V,5,none⟩=some (.int .i64 y.mx):=vk 5 (by simp)
    have x6:w7.cell? ⟨V,6,none⟩=some (.slice ta y.ts.length tc):=vk 6 (by simp)
    have x7:w7.cell? ⟨V,7,none⟩=some (.slice ha y.hs.length hc):=vk 7 (by simp)
    clear vk vf
    have ha9:=(Below.refl w7.heap.size w7).alloc (Nat.le_refl _) (.cells #[.string y.a,.string y.m,.int .i64 y.mo,.int .i64 y.ev,.int .i64 y.su,.int .i64 y.mx,.slice ta y.ts.length tc,.slice ha y.hs.length hc] 74)
    have HN3:=H_ (HN.out.below ha9)
    have d1:∀(i:Nat) u,([.string y.a,.string y.m,.int .i64 y.mo,.int .i64 y.ev,.int .i64 y.su,.int .i64 y.mx,.slice ta y.ts.length tc,.slice ha y.hs.length hc]:List Value)[i]? = some u→(w7.alloc (.cells #[.string y.a,.string y.m,.int .i64 y.mo,.int .i64 y.ev,.int .i64 y.su,.int .i64 y.mx,.slice ta y.ts.length tc,.slice ha y.hs.length hc] 74)).cell? ((⟨w7.heap.size,0,none⟩:Addr).add i)=some u:=fun i u hu=>by
     have hB:=(WinR.BlkW.new w7 [.string y.a,.string y.m,.int .i64 y.mo,.int .i64 y.ev,.int .i64 y.su,.int .i64 y.mx,.slice ta y.ts.length tc,.slice ha y.hs.length hc] 74).1.2 i (by exact (List.getElem?_eq_some_iff.1 hu).1)
     rw [Addr.add_lit,Nat.zero_add]
     rw [hu] at hB
     exact hB
    have d2:∀u∈([.string y.a,.string y.m,.int .i64 y.mo,.int .i64 y.ev,.int .i64 y.su,.int .i64 y.mx,.slice ta y.ts.length tc,.slice ha y.hs.length hc]:List Value),u.oneCell'=true:=fun u hu=>by
     simp only [List.mem_cons,List.not_mem_nil,or_false] at hu
     rcases hu with rfl|rfl|rfl|rfl|rfl|rfl|rfl|rfl<;>rfl
    have d3:ps.length+1≤maxLen:=by unfold maxLen;omega
    have d4:(ps.length+1)*112≤140737488355328:=by omega
    have d5:w.heap.size≤(w7.alloc (.cells #[.string y.a,.string y.m,.int .i64 y.mo,.int .i64 y.ev,.int .i64 y.su,.int .i64 y.mx,.slice ta y.ts.length tc,.slice ha y.hs.length hc] 74)).heap.size:=HN3.out.ws.gr.size
    have HOWN:=H_ HN3.out.ws.own
    go_wp2_with (at_builtin;refine RowG.wpList_append_fresh _ rfl _ _ 38 rfl w.heap.size 74 i0 (.agg #[.string ⟨#[]⟩,.string ⟨#[]⟩,.int .i64 0,.int .i64 0,.int .i64 0,.int .i64 0,.slice none 0 0,.slice none 0 0]) 8 112 Tryz.underlying38 hi hz0 hz1 hz2 rfl (by decide) _ _ _ rfl HOWN.out ⟨w7.heap.size,0,none⟩ 1 1 (by decide) [.string y.a,.string y.m,.int .i64 y.mo,.int .i64 y.ev,.int .i64 y.su,.int .i64 y.mx,.slice ta y.ts.length tc,.slice ha y.hs.length hc] rfl rfl d1 d2 d3 d4 d5 ?_)
    intro v' w10 hown hgrow hne hfr
    have HD2:=H_ (WnD.app HN3.out HM.out hown hgrow hne (fun b hb=>(hfr b hb).imp id (fun e=>by rw [e];simp)))
    clear hown hgrow hne hfr d1 d2 d3 d4 d5 HOWN HN3 ha9
    go_wp2_with fail
    go_roundw
    case rel=>exact ⟨k-1,_,by go_num,by rw [List.length_append];simp;omega,HD2⟩
    case measure=>simp [intOf];omega
   go_wp2_with fail
   have HS1:=H_ (HN.out.ws.src.alloc (.cells (List.map Value.string [⟨#[100,105,115,107]⟩,⟨#[110,101,116]⟩,⟨#[117,115,101,114,115]⟩]).toArray 9))
   have HT1:=H_ (strs_new w7 [⟨#[100,105,115,107]⟩,⟨#[110,101,116]⟩,⟨#[117,115,101,114,115]⟩] 100 9 (by decide))
   have HN1:=H_ (HN.out.below ((Below.refl w7.heap.size w7).alloc (Nat.le_refl _) (.cells (List.map Value.string [⟨#[100,105,115,107]⟩,⟨#[110,101,116]⟩,⟨#[117,115,101,114,115]⟩]).toArray 9)))
   refine (pick_any ao len cap g w7.heap.size 3 100 _ (by omega) (by omega) (by have:=HN.out.box.1.1;have:=HN.out.vl;omega) HS1.out HT1.out).mono ?_
   rintro e w8 ⟨⟨T,rfl,hT⟩,hS,hg⟩
   replace HN:=H_ (HN1.out.step hS hg)
   have HTT:=H_ hT
   clear hS hg HS1 HT1 HN1 hT
   obtain ⟨⟨vl,vk⟩,vf⟩:=id HN.out.box
   have x1:w8.cell? ⟨V,1,none⟩=some (.string y.m):=vk 1 (by simp)
   have f1:=vf 1 (by simp)
   clear vk vf
   have HM2:Hid (Sm 13 {y with m:=T}):=H_ ⟨HM.out.a,HTT.out,HM.out.tl,HM.out.ts,HM.out.hl⟩
   have HN2:=H_ (HN.out.name (T:=T))
   obtain ⟨w9,hw9⟩:∃z,z=w8.setCell ⟨V,1,none⟩ (.string T):=⟨_,rfl⟩
   rw [←hw9] at HN2
   have HW9:=H_ hw9
   obtain ⟨⟨vl,vk⟩,vf⟩:=id HN.out.box
   have x0:w8.cell? ⟨V,0,none⟩=some (.string y.a):=vk 0 (by simp)
   have x2:w8.cell? ⟨V,2,none⟩=some (.int .i64 y.mo):=vk 2 (by simp)
   have x3:w8.cell? ⟨V,3,none⟩=some (.int .i64 y.ev):=vk 3 (by simp)
   have x4:w8.cell? ⟨V,4,none⟩=some (.int .i64 y.su):=vk 4 (by simp)
   have x5:w8.cell? ⟨V,5,none⟩=some (.int .i64 y.mx):=vk 5 (by simp)
   have x6:w8.cell? ⟨V,6,none⟩=some (.slice ta y.ts.length tc):=vk 6 (by simp)
   have x7:w8.cell? ⟨V,7,none⟩=some (.slice ha y.hs.length hc):=vk 7 (by simp)
   clear vk vf hw9 HN HM
   have ha9:=(Below.refl (w9).heap.size (w9)).alloc (Nat.le_refl _) (.cells #[.string y.a,.string T,.int .i64 y.mo,.int .i64 y.ev,.int .i64 y.su,.int .i64 y.mx,.slice ta y.ts.length tc,.slice ha y.hs.length hc] 74)
   have HN3:=H_ (HN2.out.below ha9)
   have d1:∀(i:Nat) u,([.string y.a,.string T,.int .i64 y.mo,.int .i64 y.ev,.int .i64 y.su,.int .i64 y.mx,.slice ta y.ts.length tc,.slice ha y.hs.length hc]:List Value)[i]? = some u→((w9).alloc (.cells #[.string y.a,.string T,.int .i64 y.mo,.int .i64 y.ev,.int .i64 y.su,.int .i64 y.mx,.slice ta y.ts.length tc,.slice ha y.hs.length hc] 74)).cell? ((⟨(w9).heap.size,0,none⟩:Addr).add i)=some u:=fun i u hu=>by
    have hB:=(WinR.BlkW.new (w9) [.string y.a,.string T,.int .i64 y.mo,.int .i64 y.ev,.int .i64 y.su,.int .i64 y.mx,.slice ta y.ts.length tc,.slice ha y.hs.length hc] 74).1.2 i (by exact (List.getElem?_eq_some_iff.1 hu).1)
    rw [Addr.add_lit,Nat.zero_add]
    rw [hu] at hB
    exact hB
   have d2:∀u∈([.string y.a,.string T,.int .i64 y.mo,.int .i64 y.ev,.int .i64 y.su,.int .i64 y.mx,.slice ta y.ts.length tc,.slice ha y.hs.length hc]:List Value),u.oneCell'=true:=fun u hu=>by
    simp only [List.mem_cons,List.not_mem_nil,or_false] at hu
    rcases hu with rfl|rfl|rfl|rfl|rfl|rfl|rfl|rfl<;>rfl
   have d3:ps.length+1≤maxLen:=by unfold maxLen;omega
   have d4:(ps.length+1)*112≤140737488355328:=by omega
   have d5:w.heap.size≤((w9).alloc (.cells #[.string y.a,.string T,.int .i64 y.mo,.int .i64 y.ev,.int .i64 y.su,.int .i64 y.mx,.slice ta y.ts.length tc,.slice ha y.hs.length hc] 74)).heap.size:=HN3.out.ws.gr.size
   have HOWN:=H_ HN3.out.ws.own
   have hs9:w9.heap.size=w8.heap.size:=by rw [HW9.out];simp
   rw [hs9] at d1
   clear hs9
   go_wp2_with (at_builtin;rw [←HW9.out];refine RowG.wpList_append_fresh _ rfl _ _ 38 rfl w.heap.size 74 i0 (.agg #[.string ⟨#[]⟩,.string ⟨#[]⟩,.int .i64 0,.int .i64 0,.int .i64 0,.int .i64 0,.slice none 0 0,.slice none 0 0]) 8 112 Tryz.underlying38 hi hz0 hz1 hz2 rfl (by decide) _ _ _ rfl HOWN.out ⟨(w8).heap.size,0,none⟩ 1 1 (by decide) [.string y.a,.string T,.int .i64 y.mo,.int .i64 y.ev,.int .i64 y.su,.int .i64 y.mx,.slice ta y.ts.length tc,.slice ha y.hs.length hc] rfl rfl d1 d2 d3 d4 d5 ?_)
   intro v' w10 hown hgrow hne hfr
   have HD2:=H_ (WnD.app HN3.out HM2.out hown hgrow hne (fun b hb=>(hfr b hb).imp id (fun e=>by rw [e];simp)))
   clear hown hgrow hne hfr d1 d2 d3 d4 d5 HOWN HN3 ha9
   go_wp2_with fail
   go_roundw
   case rel=>exact ⟨k-1,_,by go_num,by rw [List.length_append];simp;omega,HD2⟩
   case measure=>simp [intOf];omega
  ·have hlt2:¬(0:Int)<(k:Int):=by omega
   have ho:=HD.out.own
   obtain ⟨wo,wc,rfl,hm⟩:=RowG.own_made (z:=WP.zero) WP.len ho
   have HR:=H_ (wns_of hm.rws (fun p hp=>⟨(HD.out.rd p hp).1,(HD.out.rd p hp).2.1⟩))
   have HR2:=H_ (fun (k:Nat) (W':World) (hk:k<w.heap.size) (hg:wr.grownBy W' (some k))=>wns_of (RowG.Rws.grown hm.rws hg (.inr (fun b off e q=>by subst e;have h1:=(ho.lt b rfl).1;simp only [Option.some.injEq] at q;omega))) (fun p hp=>⟨((HD.out.rd p hp).kept hg hk).1,((HD.out.rd p hp).kept hg hk).2.1⟩))
   have HSM:=H_ HD.out.sm
   have HSR:=H_ HD.out.src
   have HGR:=H_ HD.out.gr
   clear ho hm HD
   generalize hpl:ps.length=n at *
   go_wp2_with fail
   go_ret
   exact ⟨wo,wc,ps,by rw [hpl];rfl,by omega,HR.out,HR2.out,HSM.out,HSR.out,HGR.out⟩
end DrawR
end Go.Proofs.YtcilbmhkhllmjaaGreatDoor
