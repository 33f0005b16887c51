/-
  Small facts that the other texts use: what a call hands back, read as one equation. No condition.
  The draws' source: a number that is drawn lies below its bound, whatever the bytes; drawing writes the source's own block alone. The condition: the bytes are at most 1048576.
  The draws' source, further: texts, edges, and the source itself out of bytes: what is drawn lies within its bounds; drawing writes the source's own block alone. The condition: the bytes are at most 1048576.
  A drawn text of some, and a text changed a little: some text, no longer than one byte more; drawing writes the source's own block alone. The condition: the bytes are at most 1048576.
  Arithmetic alone: leap years, the days of months and years, and which year and month a day lies in. No condition.
  Leap years, and the days of the week: either side tells the same. No condition.
  The days of a month, and whether a date is right: either side tells the same. The condition: the program's table stands in its variable.
  Whether a date is right: either side tells the same. The condition: the program's table stands in its variable.
  A date's day: either side tells the same. The condition: the program's table stands in its variable.
  What the program calls a name is what the model calls one, of every text of at most 1048576 bytes. No condition.
-/
import Derived.Test.YteejpnkmnmoebaaDoorRows
import Derived.WalkKit
import Derived.ProofKit
import Derived.OpenShut
import Derived.ShutString
import Derived.Below
import Derived.WalkSpells
import Derived.WalkLawsBesides
import Derived.Lib.BufferOwn
import Derived.Maps.Range
import Derived.Laws.BytesArg
import Derived.BigRegion
import Derived.Deep.QuietTactic
import Derived.BigQuiet
import Derived.Deep.RegionWith
import Derived.Lib.ConvBytes
import Derived.Deep.RegionHeld3
import Derived.Deep.DrawnRows
namespace Go.Proofs.YteejpnkmnmoebaaDoor
theorem SL {α:Type}:(∀(l:List α) (i:Nat) (x:α),l.toArray.setIfInBounds i x=(l.set i x).toArray)∧(∀(x:α) (xs:List α) (b:α),(x::xs).set 0 b=b::xs)∧(∀(x:α) (xs:List α) (n:Nat) (b:α),(x::xs).set (n+1) b=x::xs.set n b) :=
 ⟨fun _ _ _=>List.setIfInBounds_toArray ..,fun _ _ _=>List.set_cons_zero ..,fun _ _ _ _=>List.set_cons_succ ..⟩
theorem tk {P:Program} {ops:Array Oper} {Q:Exit→Act→World→Prop} {md:Region.Mode} {S:World→Prop} {v:Value} {fuel:Nat} {listed listed':Array Bool} {a a':Act} {w:World} (i:Nat) (oi:Oper)
 (h:wpAnyH P md ops Q S fuel listed' a' w)
 (hi:ops[i]? = some oi:=by exact rfl) (hs:Region.noSelect ops=true:=by kernel_rfl) (hf:Region.free md ops listed i=true:=by kernel_rfl) (hr:(Region.ready md ops listed).contains i=true:=by kernel_rfl)
 (hw:Region.wanted oi (yielded ops a.tmps)=true:=by rfl) (hS:S w:=by assumption)
 (hy:∀w,S w→(execOp a.eval oi).run P w=.ok (.value v) w:=by (intro w hSw;(try dsimp only at hSw);go_simp)<;>with_reducible rfl)
 (ha:a.put oi.dst v=a':=by first|(simp only [Act.put,SL];done)|(simp only [Act.put,SL];rfl)|rfl) (hl:listed.setIfInBounds i true=listed':=by first|(simp only [SL];done)|(simp only [SL];rfl)|rfl)
 (hQ:∀c a w,Q (.panic c) (a.put oi.dst v) w→Q (.panic c) a w:=by exact fun _ _ _ h=>h):wpAnyH P md ops Q S (fuel+1) listed a w:=by
 subst ha
 subst hl
 exact wpAnyH_take hi hs hf hr hQ (.inl ⟨hw,hy⟩) hS h
theorem rd {P:Program} {ops:Array Oper} {Q:Exit→Act→World→Prop} {md:Region.Mode} {S:World→Prop} {fuel:Nat} {listed:Array Bool} {a:Act} {w:World} (i:Nat) (o:Oper)
 (h:∀K':Act→World→Prop,Shut (∀a w,S w→(S w→wpAnyH P md ops Q S fuel (listed.setIfInBounds i true) a w)→K' a w)→if Region.wanted o (yielded ops a.tmps)=true then Oper.wp P o a w K' Q else K' (a.put o.dst undef) w)
 (hr:Region.ready md ops listed=[i]:=by kernel_rfl) (ho:ops[i]? = some o:=by exact rfl):wpAnyH P md ops Q S (fuel+1) listed a w :=
 wpAnyH_ready hr (by simp) (AllReadyH.cons ho h AllReadyH.nil)
end Go.Proofs.YteejpnkmnmoebaaDoor
namespace Go.Proofs.YteejpnkmnmoebaaDoor
open Go.RowKit
theorem ret_bool {a b:Bool} (h:a=b):Ending.returned (.bool a)=.returned (.bool b):=by rw [h]
theorem ret_int {k:IntKind} {a b:Int} (h:a=b):Ending.returned (.int k a)=.returned (.int k b):=by rw [h]
theorem bcell {W w1:World} (hb:Below W.heap.size W w1):(∀b o,b<W.heap.size→w1.cell? ⟨b,o,none⟩=W.cell? ⟨b,o,none⟩)∧(∀b o,b<W.heap.size→w1.frozen? ⟨b,o,none⟩=W.frozen? ⟨b,o,none⟩) :=
 ⟨fun b o h=>hb.cell (p:=⟨b,o,none⟩) h,fun b o h=>hb.frozen (p:=⟨b,o,none⟩) h⟩
theorem bel_alloc {w w1:World} {o:Obj} (h:Below (w.alloc o).heap.size (w.alloc o) w1):Below w.heap.size w w1 :=
 ((Below.refl _ _).alloc (Nat.le_refl _) _).trans (h.mono (by simp))
end Go.Proofs.YteejpnkmnmoebaaDoor
namespace Go.Proofs.YteejpnkmnmoebaaDoor
open Go.ChangeShapes Go.WideShapes Go.ChangeAt Go.RowKit
set_option linter.unusedVariables false
namespace DrawR
theorem set_twice (W:World) (a:Addr) (x y:Value):(W.setCell a x).setCell a y=W.setCell a y:=by
 unfold World.setCell
 congr 1
 apply Array.ext
 ·simp
 ·intro i h1 h2
  simp only [Array.getElem_modify]
  by_cases h:a.block=i
  ·simp only [h,if_true]
   cases W.heap[i]'(by simpa using h2)<;>simp
   by_cases hs:a.spot.isSome=true<;>simp [hs]
  ·simp [h]
def Src (ao:Option Addr) (len cap g:Nat) (w:World):Prop :=
 len≤1048576∧(∃(k:Nat) (mix size:Int),k≤len∧0≤mix∧mix≤18446744073709551615∧0≤size∧size≤12 ∧
  w.heap[g]? = some (.cells #[.slice ao len cap,.int .i64 (k:Nat),.int .u64 mix,.int .i64 size] 73 (0,0))) ∧
 (len=0∨∃ab aoff,ao=some ⟨ab,aoff,none⟩∧ab<g∧∀i,i<len→∃z:Int,w.cell? ⟨ab,aoff+i,none⟩=some (.int .u8 z)∧0≤z∧z≤255)
theorem u64wrap (n:Int):IntKind.u64.wrap n=n % 18446744073709551616:=by simp [IntKind.wrap,IntKind.bits,IntKind.signed]
theorem xor_bd (x y:Int):0≤bits .xor .u64 x y∧bits .xor .u64 x y≤18446744073709551615:=by
 show 0≤IntKind.u64.wrap _∧IntKind.u64.wrap _≤_
 rw [u64wrap];omega
theorem draw_bd (X most:Int) (h1:1<most) (h2:most≤9223372036854775807):0≤wrap64 ((IntKind.u64.wrap X).tmod most)∧wrap64 ((IntKind.u64.wrap X).tmod most)<most:=by
 rw [u64wrap]
 obtain ⟨y,hy⟩:∃y,y=X % 18446744073709551616:=⟨_,rfl⟩
 have h0:0≤y:=by rw [hy];exact Int.emod_nonneg _ (by omega)
 rw [←hy,Int.tmod_eq_emod_of_nonneg h0]
 have a:=Int.emod_nonneg y (show most≠0 by omega)
 have b:=Int.emod_lt_of_pos y (show 0<most by omega)
 simp only [wrap64]
 omega
def Drew (ao:Option Addr) (len cap g:Nat) (w:World) (most:Int) (e:Ending) (w':World):Prop :=
 ∃v:Int,e=.returned (.int .i64 v)∧0≤v∧(most≤1→v=0)∧(1<most→v<most)∧Src ao len cap g w'∧w.grownBy w' (some g)
theorem block_after {w:World} {g:Nat} {c0 c1 c2 c3 x y:Value} {T:TypeId} (n:Nat) (hg:w.heap[g]? = some (.cells #[c0,c1,c2,c3] T (0,0))) :
 (((w.drewN n).setCell ⟨g,1,none⟩ x).setCell ⟨g,2,none⟩ y).heap[g]? = some (.cells #[c0,x,y,c3] T (0,0)):=by
 have h1:(w.drewN n).heap[g]? = some (.cells #[c0,c1,c2,c3] T (0,0)):=hg
 rw [Lib.heap_setCell_same (Lib.heap_setCell_same h1 x) y]
 rfl
theorem block_after2 {w:World} {g:Nat} {c0 c1 c2 c3 y:Value} {T:TypeId} (n:Nat) (hg:w.heap[g]? = some (.cells #[c0,c1,c2,c3] T (0,0))) :
 ((w.drewN n).setCell ⟨g,2,none⟩ y).heap[g]? = some (.cells #[c0,c1,y,c3] T (0,0)):=by
 have h1:(w.drewN n).heap[g]? = some (.cells #[c0,c1,c2,c3] T (0,0)):=hg
 rw [Lib.heap_setCell_same h1 y]
 rfl
theorem grown_drew {w w':World} {row:Option Nat} (h:w.grownBy w' row):w.grownBy w'.drew row:=⟨h.os,h.tape,h.output,h.size,h.block⟩
theorem grown_drewN (w:World) (n:Nat) (row:Option Nat):w.grownBy (w.drewN n) row:=⟨rfl,rfl,rfl,Nat.le_refl _,fun _ _ _=>rfl⟩
theorem src_after {ao:Option Addr} {len cap g:Nat} {w w':World} (h:Src ao len cap g w) (hg:w.grownBy w' (some g)) {k:Nat} {mix size:Int} (hk:k≤len) (h1:0≤mix∧mix≤18446744073709551615) (h2:0≤size∧size≤12)
 (hb:w'.heap[g]? = some (.cells #[.slice ao len cap,.int .i64 (k:Nat),.int .u64 mix,.int .i64 size] 73 (0,0))):Src ao len cap g w':=by
 refine ⟨h.1,⟨k,mix,size,hk,h1.1,h1.2,h2.1,h2.2,hb⟩,?_⟩
 rcases h.2.2 with h0|⟨ab,aoff,e1,e2,e3⟩
 ·exact .inl h0
 ·refine .inr ⟨ab,aoff,e1,e2,fun i hi=>?_⟩
  obtain ⟨z,a,b,c⟩:=e3 i hi
  exact ⟨z,hg.cell a (by simp;omega),b,c⟩
set_option maxRecDepth 100000 in
set_option maxHeartbeats 4000000 in
theorem n_any (ao:Option Addr) (len cap g:Nat) (most:Int) (w:World) (hm2:most≤9223372036854775807) (hS:Src ao len cap g w) :
 Calls Tryd.prog 19 #[.pointer (some ⟨g,0,none⟩),.int .i64 most] w fun e w'=>Drew ao len cap g w most e w':=by
 by_cases hm:most≤1
 ·have HS:Hid (Src ao len cap g w):=hS
  clear hS
  go_enter Tryd.func19,Tryd.ntmps19
  go_wp2
  go_ret
  exact ⟨0,rfl,by omega,fun _=>rfl,fun h=>by omega,HS.out,World.grownBy.refl _ _⟩
 have HS:Hid (Src ao len cap g w):=hS
 obtain ⟨hlen,⟨k,mix,size,hk,hx1,hx2,hs1,hs2,hg⟩,hcode⟩:=hS
 have HZ:Hid (0≤size∧size≤12):=⟨hs1,hs2⟩
 have HK:Hid (k≤len):=hk
 have c0:w.cell? ⟨g,0,none⟩=some (.slice ao len cap):=by rw [cell_of_row w g 0 _ _ _ hg];rfl
 have c1:w.cell? ⟨g,1,none⟩=some (.int .i64 (k:Nat)):=by rw [cell_of_row w g 1 _ _ _ hg];rfl
 have c2:w.cell? ⟨g,2,none⟩=some (.int .u64 mix):=by rw [cell_of_row w g 2 _ _ _ hg];rfl
 have f1:w.frozen? ⟨g,1,none⟩=false:=by simp [World.frozen?,hg]
 have f2:w.frozen? ⟨g,2,none⟩=false:=by simp [World.frozen?,hg]
 have HG:Hid (w.heap[g]? = some (.cells #[.slice ao len cap,.int .i64 (k:Nat),.int .u64 mix,.int .i64 size] 73 (0,0))):=hg
 have hss:∀(W:World) (x y:Value),(W.setCell ⟨g,2,none⟩ x).setCell ⟨g,2,none⟩ y=W.setCell ⟨g,2,none⟩ y:=fun W x y=>set_twice W _ x y
 have HM:Hid (1<most):=show _ from (by omega:1<most)
 clear hg hs1 hs2
 by_cases hk2:(k:Int)<(len:Int)
 ·rcases hcode with h0|⟨ab,aoff,rfl,hab,hcell⟩
  ·omega
  obtain ⟨z,hz,hz1,hz2⟩:=hcell k (by omega)
  clear hcell
  go_enter Tryd.func19,Tryd.ntmps19
  go_wp2
  go_quiet (fail)
  go_wp2
  go_quiet (fail)
  go_wp2
  go_region
  go_wp2
  go_region
  go_wp2
  go_region
  go_wp2
  go_ret
  refine ⟨_,rfl,(draw_bd _ _ HM.out hm2).1,fun h=>by have:=HM.out;omega,fun _=>(draw_bd _ _ HM.out hm2).2,?_,?_⟩
  ·refine src_after HS.out ?_ (k:=k+1) (show k+1≤len by omega) (xor_bd _ _) HZ.out (block_after _ HG.out)
   exact grown_drew (grown_drew (grown_drew (Lib.grownBy_setB (Lib.grownBy_setB (grown_drewN w _ _) 1 _) 2 _)))
  ·exact grown_drew (grown_drew (grown_drew (Lib.grownBy_setB (Lib.grownBy_setB (grown_drewN w _ _) 1 _) 2 _)))
 ·go_enter Tryd.func19,Tryd.ntmps19
  go_wp2
  go_quiet (fail)
  go_wp2
  go_region
  go_wp2
  go_region
  go_wp2
  go_region
  go_wp2
  go_ret
  refine ⟨_,rfl,(draw_bd _ _ HM.out hm2).1,fun h=>by have:=HM.out;omega,fun _=>(draw_bd _ _ HM.out hm2).2,?_,?_⟩
  ·refine src_after HS.out ?_ (k:=k) HK.out (xor_bd _ _) HZ.out (block_after2 _ HG.out)
   exact grown_drew (grown_drew (Lib.grownBy_setB (grown_drewN w _ _) 2 _))
  ·exact grown_drew (grown_drew (Lib.grownBy_setB (grown_drewN w _ _) 2 _))
theorem one_any (ao:Option Addr) (len cap g:Nat) (most:Int) (w:World) (hm2:most≤9223372036854775807) (hS:Src ao len cap g w) :
 Calls Tryd.prog 33 #[.pointer (some ⟨g,0,none⟩),.int .i64 most] w fun e w'=>(∃b:Bool,e=.returned (.bool b))∧Src ao len cap g w'∧w.grownBy w' (some g):=by
 have h1:=n_any ao len cap g most w hm2 hS
 clear hS
 go_enter Tryd.func33,Tryd.ntmps33
 go_wp2_with (go_at_call 19;refine h1.mono ?_;rintro e w1 ⟨v,rfl,hv0,hv1,hv2,hS1,hg1⟩)
 go_ret
 exact ⟨⟨_,rfl⟩,hS1,hg1⟩
end DrawR
namespace DrawR
theorem Src.kept {ao:Option Addr} {len cap g:Nat} {w w':World} {row:Option Nat} (h:Src ao len cap g w) (hg:w.grownBy w' row) (hr:∀k,row=some k→g<k):Src ao len cap g w':=by
 obtain ⟨h1,⟨k,mix,size,a,b,c,d,e,f⟩,h3⟩:=h
 have hlt:g<w.heap.size:=(Array.getElem?_eq_some_iff.1 f).1
 refine ⟨h1,⟨k,mix,size,a,b,c,d,e,?_⟩,?_⟩
 ·rw [hg.block g hlt (fun e=>by have:=hr g e.symm;omega)];exact f
 ·rcases h3 with h0|⟨ab,aoff,e1,e2,e3⟩
  ·exact .inl h0
  ·refine .inr ⟨ab,aoff,e1,e2,fun i hi=>?_⟩
   obtain ⟨z,a,b,c⟩:=e3 i hi
   exact ⟨z,hg.cell a (fun e=>by have:=hr ab e.symm;omega),b,c⟩
theorem Src.lt {ao:Option Addr} {len cap g:Nat} {w:World} (h:Src ao len cap g w):g<w.heap.size:=by
 obtain ⟨h1,⟨k,mix,size,a,b,c,d,e,f⟩,h3⟩:=h
 exact (Array.getElem?_eq_some_iff.1 f).1
theorem Src.alloc {ao:Option Addr} {len cap g:Nat} {w:World} (h:Src ao len cap g w) (o:Obj):Src ao len cap g (w.alloc o) :=
 h.kept (World.grownBy_alloc w o none) (fun k e=>by cases e)
theorem Trydinfo5:(Tryd.prog.info? 5).map (fun i=>(i.zero,i.size,i.bytes))=some (some (.int .u8 0),1,1):=by kernel_rfl
theorem H_ {p:Prop} (h:p):Hid p:=h
def Bytes (ao:Option Addr) (len:Nat) (w:World):Prop :=
 len=0∨∃ab aoff,ao=some ⟨ab,aoff,none⟩∧ab<w.heap.size∧∀i,i<len→∃z:Int,w.cell? ⟨ab,aoff+i,none⟩=some (.int .u8 z)∧0≤z∧z≤255
theorem Bytes.below {ao:Option Addr} {len:Nat} {w w':World} (h:Bytes ao len w) (hb:Below w.heap.size w w'):Bytes ao len w':=by
 rcases h with h0|⟨ab,aoff,e1,e2,e3⟩
 ·exact .inl h0
 ·refine .inr ⟨ab,aoff,e1,Nat.lt_of_lt_of_le e2 hb.size,fun i hi=>?_⟩
  obtain ⟨z,a,b,c⟩:=e3 i hi
  exact ⟨z,(hb.cell (p:=⟨ab,aoff+i,none⟩) e2).trans a,b,c⟩
theorem wrap_bd64 (x:Int):0≤IntKind.u64.wrap x∧IntKind.u64.wrap x≤18446744073709551615:=by rw [u64wrap];omega
theorem block_mix {w:World} {g:Nat} {c0 c1 c2 c3 y:Value} {T:TypeId} (hg:w.heap[g]? = some (.cells #[c0,c1,c2,c3] T (0,0))) :
 (w.setCell ⟨g,2,none⟩ y).heap[g]? = some (.cells #[c0,c1,y,c3] T (0,0)):=by
 rw [Lib.heap_setCell_same hg y];rfl
theorem block_size {w:World} {g:Nat} {c0 c1 c2 c3 y:Value} {T:TypeId} (hg:w.heap[g]? = some (.cells #[c0,c1,c2,c3] T (0,0))) :
 (w.setCell ⟨g,3,none⟩ y).heap[g]? = some (.cells #[c0,c1,c2,y] T (0,0)):=by
 rw [Lib.heap_setCell_same hg y];rfl
theorem src_mk {ao:Option Addr} {len cap:Nat} {w w':World} {mix size:Int} (hlen:len≤1048576) (hm:0≤mix∧mix≤18446744073709551615) (hs:0≤size∧size≤12)
 (hg:w'.heap[w.heap.size]? = some (.cells #[.slice ao len cap,.int .i64 0,.int .u64 mix,.int .i64 size] 73 (0,0))) (hB:Bytes ao len w) (hb:Below w.heap.size w w'):Src ao len cap w.heap.size w':=by
 refine ⟨hlen,⟨0,mix,size,by omega,hm.1,hm.2,hs.1,hs.2,hg⟩,?_⟩
 rcases hB with h0|⟨ab,aoff,e1,e2,e3⟩
 ·exact .inl h0
 ·refine .inr ⟨ab,aoff,e1,e2,fun i hi=>?_⟩
  obtain ⟨z,a,b,c⟩:=e3 i hi
  exact ⟨z,(hb.cell (p:=⟨ab,aoff+i,none⟩) e2).trans a,b,c⟩
set_option maxRecDepth 100000 in
set_option maxHeartbeats 4000000 in
theorem source_any (ao:Option Addr) (len cap:Nat) (w:World) (hlen:len≤1048576) (hB:Bytes ao len w) :
 Calls Tryd.prog 13 #[.slice ao len cap] w fun e w'=>e=.returned (.pointer (some ⟨w.heap.size,0,none⟩))∧Src ao len cap w.heap.size w'∧Below w.heap.size w w':=by
 have HB:=H_ hB
 clear hB
 have HG0:Hid ((w.alloc (Obj.cells #[.slice ao len cap,.int .i64 0,.int .u64 88172645463325252,.int .i64 0] 73)).heap[w.heap.size]? = some (.cells #[.slice ao len cap,.int .i64 0,.int .u64 88172645463325252,.int .i64 0] 73 (0,0))):=heap_alloc_new w _
 have HB0:Hid (Below w.heap.size w (w.alloc (Obj.cells #[.slice ao len cap,.int .i64 0,.int .u64 88172645463325252,.int .i64 0] 73))):=(Below.refl _ _).alloc (Nat.le_refl _) _
 go_enter Tryd.func13,Tryd.ntmps13
 go_wp2
 go_loopw [4] (fun i wr=>∃(k:Nat) (mix:Int),k≤len∧k≤64∧i=.int .i64 k∧0≤mix∧mix≤18446744073709551615∧Hid (wr.heap[w.heap.size]? = some (.cells #[.slice ao len cap,.int .i64 0,.int .u64 mix,.int .i64 0] 73 (0,0)))∧Hid (Below w.heap.size w wr)) (fun i _=>64-(intOf i).toNat)
 case atStart=>exact ⟨0,_,by omega,by omega,rfl,by omega,by omega,HG0,HB0⟩
 case round =>
  obtain ⟨k,mix,hk1,hk2,rfl,hm1,hm2,HG,HL⟩:=hrel
  clear HG0 HB0
  have c2:wr.cell? ⟨w.heap.size,2,none⟩=some (.int .u64 mix):=by rw [cell_of_row wr w.heap.size 2 _ _ _ HG.out];rfl
  have f2:wr.frozen? ⟨w.heap.size,2,none⟩=false:=by simp [World.frozen?,HG.out]
  have c3:wr.cell? ⟨w.heap.size,3,none⟩=some (.int .i64 0):=by rw [cell_of_row wr w.heap.size 3 _ _ _ HG.out];rfl
  have f3:wr.frozen? ⟨w.heap.size,3,none⟩=false:=by simp [World.frozen?,HG.out]
  by_cases hlt:k<len∧k<64
  ·obtain ⟨h1,h2⟩:=hlt
   have h3:(k:Int)<(len:Int):=by omega
   have h4:(k:Int)<64:=by omega
   rcases HB.out with h0|⟨ab,aoff,rfl,hab,hcell⟩
   ·omega
   obtain ⟨z,hz,hz1,hz2⟩:=hcell k h1
   have hz':wr.cell? ⟨ab,aoff+k,none⟩=some (.int .u8 z):=(HL.out.cell (p:=⟨ab,aoff+k,none⟩) hab).trans hz
   clear hcell hz c3 f3
   go_wp2
   go_region
   go_wp2
   go_roundw
   case rel=>exact ⟨k+1,_,by omega,by omega,by go_num,(wrap_bd64 _).1,(wrap_bd64 _).2,H_ (block_mix HG.out),H_ ((HL.out.setCell (Nat.le_refl _) _).drew)⟩
   case measure=>simp [intOf];omega
  ·have hnot:¬(k:Int)<(len:Int)∨((k:Int)<(len:Int)∧¬(k:Int)<64):=by omega
   have hdiv:(0:Int)≤(len:Int) / 20:=by omega
   clear hlt
   have hss:∀(W:World) (x y:Value),(W.setCell ⟨w.heap.size,3,none⟩ x).setCell ⟨w.heap.size,3,none⟩ y=W.setCell ⟨w.heap.size,3,none⟩ y:=fun W x y=>set_twice W _ x y
   by_cases h12:12<(len:Int) / 20
   all_goals
    rcases hnot with q1|⟨q1,q2⟩
    all_goals
     first
      | (exfalso;omega)
      | (
       go_wp2
       go_ret
       first
        | exact ⟨rfl,src_mk hlen ⟨hm1,hm2⟩ (size:=12) ⟨by omega,by omega⟩ (block_size HG.out) HB.out (HL.out.setCell (Nat.le_refl _) _),HL.out.setCell (Nat.le_refl _) _⟩
        | exact ⟨rfl,src_mk hlen ⟨hm1,hm2⟩ (size:=(len:Int) / 20) ⟨by omega,by omega⟩ (block_size HG.out) HB.out (HL.out.setCell (Nat.le_refl _) _),HL.out.setCell (Nat.le_refl _) _⟩)
def IsRow (k:IntKind) (w:World) (a:Option Addr) (len cap:Nat) (zs:List Int):Prop :=
 (a=none∧len=0∧cap=0∧zs=[]) ∨
 ∃x,a=some x∧len≤cap∧cap≤maxLen∧zs.length=cap∧(∀i,i<zs.length→w.cell? (x.add i)=some (.int k (zs.getD i 0)))∧∀n∈zs,(Lit.int k n).wf=true
theorem IsRow.bytes {w:World} {a:Option Addr} {len cap:Nat} {zs:List Int} (h:IsRow .u8 w a len cap zs):Bytes a len w:=by
 rcases h with ⟨_,h0,_⟩|⟨x,rfl,hl,hm,hz,hcell,hwz⟩
 ·exact .inl h0
 ·by_cases h0:len=0
  ·exact .inl h0
  ·obtain ⟨b,off,spot⟩:=x
   have hc:=hcell 0 (by omega)
   have hspot:spot=none:=by simpa [Addr.add] using World.cell?_spot hc
   subst hspot
   refine .inr ⟨b,off,rfl,?_,fun i hi=>?_⟩
   ·have:=World.block_lt_of_cell? w _ hc
    simpa [Addr.add] using this
   ·have hi2:i<zs.length:=by omega
    have h1:=hcell i hi2
    have e:(⟨b,off,none⟩:Addr).add i=⟨b,off+i,none⟩:=by simp [Addr.add]
    rw [e] at h1
    have hw:=hwz (zs.getD i 0) (by rw [List.getD,List.getElem?_eq_getElem hi2];exact List.getElem_mem hi2)
    have hb:=bounds_u8 hw
    exact ⟨_,h1,by omega,by omega⟩
theorem IsRow.len {k:IntKind} {w:World} {a:Option Addr} {len cap:Nat} {zs:List Int} (h:IsRow k w a len cap zs):len≤maxLen:=by
 rcases h with ⟨_,h0,_⟩|⟨x,_,hl,hm,_⟩
 ·omega
 ·omega
end DrawR
namespace DrawR
def Strs (b n K:Nat) (w:World):Prop:=b<w.heap.size∧∀j,j<n→∃T:ByteArray,w.cell? ⟨b,j,none⟩=some (.string T)∧T.size≤K
theorem Strs.grown {b n K:Nat} {w w':World} {row:Option Nat} (h:Strs b n K w) (hg:w.grownBy w' row) (hne:some b≠row):Strs b n K w' :=
 ⟨by have:=hg.size;have:=h.1;omega,fun j hj=>by obtain ⟨T,h1,h2⟩:=h.2 j hj;exact ⟨T,hg.cell (a:=⟨b,j,none⟩) h1 hne,h2⟩⟩
def StrOut (K:Nat) (ao:Option Addr) (len cap g:Nat) (w:World) (e:Ending) (w':World):Prop:=(∃T:ByteArray,e=.returned (.string T)∧T.size≤K)∧Src ao len cap g w'∧w.grownBy w' (some g)
set_option maxRecDepth 100000 in
set_option maxHeartbeats 4000000 in
theorem pick_any (ao:Option Addr) (len cap g b n K:Nat) (w:World) (hn:2≤n) (hn2:n≤100) (hbg:b≠g) (hS:Src ao len cap g w) (hT:Strs b n K w) :
 Calls Tryd.prog 34 #[.pointer (some ⟨g,0,none⟩),.slice (some ⟨b,0,none⟩) n n] w fun e w'=>StrOut K ao len cap g w e w':=by
 have HS:=H_ hS
 have HT:=H_ hT
 have hgl:=hS.lt
 have hn3:(2:Int)≤(n:Int):=by omega
 have hn4:(n:Int)≤100:=by omega
 clear hS hT
 go_enter Tryd.func34,Tryd.ntmps34
 go_wp2_with fail
 refine (n_any ao len cap g n _ (by omega) HS.out).mono ?_
 rintro e w1 ⟨v,rfl,v0,_,v2,hS,hg⟩
 have v3:v<n:=v2 (by omega)
 obtain ⟨j,rfl⟩:∃j:Nat,v=j:=⟨v.toNat,by omega⟩
 obtain ⟨T,hc,hK⟩:=(HT.out.grown hg (by simp;exact hbg)).2 j (by omega)
 have HS1:=H_ hS
 have HG1:=H_ hg
 have HK:=H_ hK
 clear hS hg v2 hK
 go_wp2
 go_ret
 exact ⟨⟨T,rfl,HK.out⟩,HS1.out,HG1.out⟩
end DrawR
end Go.Proofs.YteejpnkmnmoebaaDoor
namespace Go.Proofs.YteejpnkmnmoebaaDoor
namespace DateM
def leapB (y:Int):Bool:=decide (y % 4=0∧(y % 100≠0∨y % 400=0))
def yd (y:Int):Int:=if leapB y=true then 366 else 365
def md (y m:Int):Int:=if m=2 then (if leapB y=true then 29 else 28) else if m=4∨m=6∨m=9∨m=11 then 30 else 31
def mdays (y m:Int):Int:=if 1970≤y∧y≤2200∧1≤m∧m≤12 then md y m else 0
def ys:Nat→Int
 | 0=>0
 | k+1=>ys k+yd (1970+(k:Int))
def ms (y:Int):Nat→Int
 | 0=>0
 | k+1=>ms y k+md y ((k:Int)+1)
theorem yd_bd (y:Int):365≤yd y∧yd y≤366:=by unfold yd;split<;>omega
theorem md_bd (y m:Int):28≤md y m∧md y m≤31:=by unfold md;split<;>(try split)<;>(try split)<;>omega
theorem ys_succ (k:Nat):ys (k+1)=ys k+yd (1970+(k:Int)):=rfl
theorem ms_succ (y:Int) (k:Nat):ms y (k+1)=ms y k+md y ((k:Int)+1):=rfl
theorem ys_bd (k:Nat):365*(k:Int)≤ys k∧ys k≤366*(k:Int):=by
 induction k with
 | zero=>simp [ys]
 | succ k ih=>have:=yd_bd (1970+(k:Int));rw [ys_succ];omega
theorem ms_bd (y:Int) (k:Nat):28*(k:Int)≤ms y k∧ms y k≤31*(k:Int):=by
 induction k with
 | zero=>simp [ms]
 | succ k ih=>have:=md_bd y ((k:Int)+1);rw [ms_succ];omega
theorem ms_all (y:Int):ms y 12=yd y:=by
 simp only [ms,md,yd]
 cases leapB y<;>decide
theorem ys_mono {j k:Nat} (h:j≤k):ys j+365*((k:Int)-j)≤ys k:=by
 induction k with
 | zero =>
  obtain rfl:j=0:=by omega
  simp
 | succ k ih =>
  by_cases e:j=k+1
  ·subst e;simp
  ·have:=ih (by omega)
   have:=yd_bd (1970+(k:Int))
   rw [ys_succ];omega
theorem ms_mono (y:Int) {j k:Nat} (h:j≤k):ms y j+28*((k:Int)-j)≤ms y k:=by
 induction k with
 | zero =>
  obtain rfl:j=0:=by omega
  simp
 | succ k ih =>
  by_cases e:j=k+1
  ·subst e;simp
  ·have:=ih (by omega)
   have:=md_bd y ((k:Int)+1)
   rw [ms_succ];omega
theorem year_is (d:Int) (h:0≤d):∃k:Nat,ys k≤d∧d<ys (k+1):=by
 obtain ⟨n,rfl⟩:∃n:Nat,d=n:=⟨d.toNat,by omega⟩
 induction n with
 | zero=>exact ⟨0,by simp [ys],by have:=ys_bd 1;simp at this ⊢;omega⟩
 | succ n ih =>
  obtain ⟨k,h1,h2⟩:=ih (by omega)
  by_cases e:((n+1:Nat):Int)<ys (k+1)
  ·exact ⟨k,by omega,e⟩
  ·refine ⟨k+1,by omega,?_⟩
   have:=yd_bd (1970+((k+1:Nat):Int))
   rw [ys_succ (k+1)];omega
theorem month_is (y d:Int) (h:0≤d) (h2:d<yd y):∃k:Nat,k<12∧ms y k≤d∧d<ms y (k+1):=by
 have key:∀j:Nat,j≤12→ms y j≤d∨∃k:Nat,k<12∧ms y k≤d∧d<ms y (k+1):=by
  intro j
  induction j with
  | zero=>intro _;left;simp [ms];exact h
  | succ j ih =>
   intro hj
   rcases ih (by omega) with h1|h1
   ·by_cases e:d<ms y (j+1)
    ·exact .inr ⟨j,by omega,h1,e⟩
    ·exact .inl (by omega)
   ·exact .inr h1
 rcases key 12 (Nat.le_refl _) with h1|h1
 ·rw [ms_all] at h1;omega
 ·exact h1
def rightB (y m d:Int):Bool:=decide (1≤d∧d≤mdays y m)
theorem right_iff (y m d:Int):rightB y m d=true↔1970≤y∧y≤2200∧1≤m∧m≤12∧1≤d∧d≤md y m:=by
 unfold rightB mdays
 simp only [decide_eq_true_eq]
 split<;>omega
def num (y m d:Int):Int:=d-1+ys (y-1970).toNat+ms y (m-1).toNat
end DateM
end Go.Proofs.YteejpnkmnmoebaaDoor
namespace Go.Proofs.YteejpnkmnmoebaaDoor
open Go.ChangeShapes Go.WideShapes Go.ChangeAt Go.RowKit
set_option linter.unusedVariables false
namespace DateR
open DateM
theorem H_ {p:Prop} (h:p):Hid p:=h
theorem tmod_iff (y k:Int):y.tmod k=0↔y % k=0:=⟨fun h=>Int.emod_eq_zero_of_dvd (Int.dvd_of_tmod_eq_zero h),fun h=>Int.tmod_eq_zero_of_dvd (Int.dvd_of_emod_eq_zero h)⟩
theorem leap_a (y:Int) (h1:y.tmod 4=0) (h2:y.tmod 100=0):(y.tmod 400==0)=leapB y:=by
 rw [tmod_iff] at h1 h2
 unfold leapB
 rw [Bool.eq_iff_iff,beq_iff_eq,decide_eq_true_eq,tmod_iff]
 omega
theorem leap_b (y:Int) (h1:y.tmod 4=0) (h2:¬y.tmod 100=0):true=leapB y:=by
 rw [tmod_iff] at h1 h2
 exact (decide_eq_true ⟨h1,.inl h2⟩).symm
theorem leap_c (y:Int) (h1:¬y.tmod 4=0):false=leapB y:=by
 rw [tmod_iff] at h1
 exact (decide_eq_false fun h=>h1 h.1).symm
theorem leap_d (y:Int) (h1:¬y.tmod 4=0):(y.tmod 400==0)=leapB y:=by
 rw [tmod_iff] at h1
 unfold leapB
 rw [Bool.eq_iff_iff,beq_iff_eq,decide_eq_true_eq,tmod_iff]
 omega
theorem impl_leap (y:Int) (w:World):Calls Tryd.prog 94 #[.int .i64 y] w fun e w'=>e=.returned (.bool (leapB y))∧w'=w:=by
 go_enter Tryd.func94,Tryd.ntmps94
 go_wp2
 ·go_ret
  exact ⟨ret_bool (leap_a y ‹_› ‹_›),rfl⟩
 ·go_ret
  exact ⟨ret_bool (leap_b y ‹_› ‹_›),rfl⟩
 ·go_ret
  exact ⟨ret_bool (leap_d y ‹_›),rfl⟩
theorem spec_leap (y:Int) (w:World):Calls Tryd.prog 90 #[.int .i64 y] w fun e w'=>e=.returned (.bool (leapB y))∧w'=w:=by
 go_enter Tryd.func90,Tryd.ntmps90
 go_wp2
 ·go_ret
  exact ⟨ret_bool (leap_a y ‹_› ‹_›),rfl⟩
 ·go_ret
  exact ⟨ret_bool (leap_b y ‹_› ‹_›),rfl⟩
 ·go_ret
  exact ⟨ret_bool (leap_c y ‹_›),rfl⟩
def wd (d:Int):Int:=if 0≤d∧d≤100000 then (d+3) % 7 else -1
end DateR
namespace DateR
open DateM
def tab:List Int:=[31,28,31,30,31,30,31,31,30,31,30,31]
def Laid (w:World):Prop:=0<w.heap.size∧∀k:Nat,k<12→w.cell? ⟨0,k,none⟩=some (.int .i64 (tab.getD k 0))
theorem Laid.below {w w':World} (h:Laid w) (hb:Below w.heap.size w w'):Laid w' :=
 ⟨by have:=hb.size;have:=h.1;omega,fun k hk=>by rw [hb.cell (p:=⟨0,k,none⟩) h.1];exact h.2 k hk⟩
theorem bel_drewN {B:Nat} {a w:World} (h:Below B a w) (n:Nat):Below B a (w.drewN n):=⟨h.os,h.tape,h.output,h.size,h.block⟩
theorem Laid.drewN {w:World} (h:Laid w) (n:Nat):Laid (w.drewN n):=⟨by simpa using h.1,fun k hk=>by simpa using h.2 k hk⟩
theorem within_any (n low high:Int) (w:World) :
 Calls Tryd.prog 66 #[.int .i64 n,.int .i64 low,.int .i64 high] w fun e w'=>e=.returned (.bool (decide (low≤n∧n≤high)))∧w'=w:=by
 by_cases h1:low≤n
 ·go_enter Tryd.func66,Tryd.ntmps66
  go_wp2
  go_ret
  exact ⟨ret_bool (by simp [h1]),rfl⟩
 ·go_enter Tryd.func66,Tryd.ntmps66
  go_wp2
  go_ret
  exact ⟨ret_bool (by rw [decide_eq_false (show ¬low≤n by omega)];rfl),rfl⟩
theorem tab_md (y:Int) (k:Nat) (h:k<12) (h2:k=1→leapB y=false):tab.getD k 0=md y ((k:Int)+1):=by
 match k,h,h2 with
 | 0,_,_=>rfl
 | 1,_,h2=>unfold md;rw [h2 rfl];rfl
 | 2,_,_=>rfl
 | 3,_,_=>rfl
 | 4,_,_=>rfl
 | 5,_,_=>rfl
 | 6,_,_=>rfl
 | 7,_,_=>rfl
 | 8,_,_=>rfl
 | 9,_,_=>rfl
 | 10,_,_=>rfl
 | 11,_,_=>rfl
theorem tab_name (w:World) (k:Nat) (hk:k<12) (hL:Laid w):∃X:Int,w.cell? ⟨0,k,none⟩=some (.int .i64 X)∧Hid (X=tab.getD k 0):=⟨_,hL.2 k hk,rfl⟩
theorem md_2 (y:Int):md y 2=if leapB y=true then 29 else 28:=rfl
theorem impl_md_in (y:Int) (k:Nat) (hk:k<12) (y1:1970≤y) (y2:y≤2200) (w:World) (hL:Laid w) :
 Calls Tryd.prog 95 #[.int .i64 y,.int .i64 ((k:Int)+1)] w fun e w'=>e=.returned (.int .i64 (md y ((k:Int)+1)))∧w'=w:=by
 obtain ⟨X,hc,HX⟩:=tab_name w k hk hL
 have h0:=hL.1
 have k1:(1:Int)≤(k:Int)+1:=by omega
 have k2:(k:Int)+1≤12:=by omega
 have HK:=H_ hk
 clear hL
 by_cases e:k=1
 ·subst e
  cases hl:leapB y
  ·have hi:=fun w=>impl_leap y w
   rw [hl] at hi
   have HM:Hid (X=md y 2):=by
    show X=md y 2
    rw [HX.out,md_2,hl];rfl
   clear hl
   go_enter Tryd.func95,Tryd.ntmps95
   go_wp2_with (first|(go_at_call 66;go_in)|(go_at_call 94;refine (hi _).mono ?_;rintro e w' ⟨rfl,rfl⟩))
   go_ret
   exact ⟨ret_int HM.out,rfl⟩
  ·have hi:=fun w=>impl_leap y w
   rw [hl] at hi
   have HM:Hid (29=md y 2):=by
    show 29=md y 2
    rw [md_2,hl];rfl
   clear hl
   go_enter Tryd.func95,Tryd.ntmps95
   go_wp2_with (first|(go_at_call 66;go_in)|(go_at_call 94;refine (hi _).mono ?_;rintro e w' ⟨rfl,rfl⟩))
   go_ret
   exact ⟨ret_int HM.out,rfl⟩
 ·have ne:¬(k:Int)+1=2:=by omega
  have nf:((k:Int)+1==2)=false:=by simpa using ne
  have HM:=H_ (HX.out.trans (tab_md y k hk fun h=>absurd h e))
  clear e hk
  go_enter Tryd.func95,Tryd.ntmps95
  go_wp2_with (first|(go_at_call 66;go_in)|(go_at_call 94;refine (impl_leap y _).mono ?_;rintro e w' ⟨rfl,rfl⟩))
  go_ret
  exact ⟨ret_int HM.out,rfl⟩
theorem md_key (y m:Int) (h:¬(1970≤y∧y≤2200∧1≤m∧m≤12)):(¬1970≤y)∨(1970≤y∧¬y≤2200)∨(1970≤y∧y≤2200∧((¬1≤m)∨(1≤m∧¬m≤12))):=by omega
theorem impl_md_out (y m:Int) (h:¬(1970≤y∧y≤2200∧1≤m∧m≤12)) (w:World) :
 Calls Tryd.prog 95 #[.int .i64 y,.int .i64 m] w fun e w'=>e=.returned (.int .i64 0)∧w'=w:=by
 rcases md_key y m h with h1|⟨h1,h2⟩|⟨h1,h2,h3|⟨h3,h4⟩⟩
 all_goals
  clear h
  go_enter Tryd.func95,Tryd.ntmps95
  go_wp2
  go_ret
  exact ⟨rfl,rfl⟩
theorem impl_md (y m:Int) (w:World) (hL:Laid w) :
 Calls Tryd.prog 95 #[.int .i64 y,.int .i64 m] w fun e w'=>e=.returned (.int .i64 (mdays y m))∧w'=w:=by
 unfold mdays
 by_cases h:1970≤y∧y≤2200∧1≤m∧m≤12
 ·rw [if_pos h]
  obtain ⟨k,rfl⟩:∃k:Nat,m=(k:Int)+1:=⟨(m-1).toNat,by omega⟩
  exact impl_md_in y k (by omega) h.1 h.2.1 w hL
 ·rw [if_neg h]
  exact impl_md_out y m h w
theorem tab_at (k:Nat) (h:k<12):([Value.int IntKind.i64 31,Value.int IntKind.i64 28,Value.int IntKind.i64 31,Value.int IntKind.i64 30,Value.int IntKind.i64 31,Value.int IntKind.i64 30,Value.int IntKind.i64 31,Value.int IntKind.i64 31,Value.int IntKind.i64 30,Value.int IntKind.i64 31,Value.int IntKind.i64 30,Value.int IntKind.i64 31]:List Value)[k]=.int .i64 (tab.getD k 0):=by
 match k,h with
 | 0,_=>rfl
 | 1,_=>rfl
 | 2,_=>rfl
 | 3,_=>rfl
 | 4,_=>rfl
 | 5,_=>rfl
 | 6,_=>rfl
 | 7,_=>rfl
 | 8,_=>rfl
 | 9,_=>rfl
 | 10,_=>rfl
 | 11,_=>rfl
theorem spec_md_in (y:Int) (k:Nat) (hk:k<12) (y1:1970≤y) (y2:y≤2200) (w:World) :
 Calls Tryd.prog 85 #[.int .i64 y,.int .i64 ((k:Int)+1)] w fun e w'=>e=.returned (.int .i64 (md y ((k:Int)+1)))∧Below w.heap.size w w':=by
 have k1:(1:Int)≤(k:Int)+1:=by omega
 have k2:(k:Int)+1≤12:=by omega
 by_cases e:k=1
 ·subst e
  cases hl:leapB y
  ·have hi:=fun w=>spec_leap y w
   rw [hl] at hi
   have HM:Hid (28=md y 2):=by
    show 28=md y 2
    rw [md_2,hl];rfl
   clear hl
   go_enter Tryd.func85,Tryd.ntmps85
   go_wp2_with (first|(go_at_call 84;go_in)|(go_at_call 27;go_in)|(go_at_call 90;refine (hi _).mono ?_;rintro e w' ⟨rfl,rfl⟩))
   go_ret
   exact ⟨ret_int HM.out,(Below.refl _ _).alloc (Nat.le_refl _) _⟩
  ·have hi:=fun w=>spec_leap y w
   rw [hl] at hi
   have HM:Hid (29=md y 2):=by
    show 29=md y 2
    rw [md_2,hl];rfl
   clear hl
   go_enter Tryd.func85,Tryd.ntmps85
   go_wp2_with (first|(go_at_call 84;go_in)|(go_at_call 27;go_in)|(go_at_call 90;refine (hi _).mono ?_;rintro e w' ⟨rfl,rfl⟩))
   go_ret
   exact ⟨ret_int HM.out,Below.refl _ _⟩
 ·have ne:¬(k:Int)+1=2:=by omega
  have nf:((k:Int)+1==2)=false:=by simpa using ne
  have HM:=H_ (tab_md y k hk fun h=>absurd h e)
  have HK:=H_ hk
  clear e
  go_enter Tryd.func85,Tryd.ntmps85
  go_wp2_with (first|(go_at_call 84;go_in)|(go_at_call 27;go_in)|(go_at_call 90;refine (spec_leap y _).mono ?_;rintro e w' ⟨rfl,rfl⟩))
  go_ret
  exact ⟨(congrArg Ending.returned (tab_at k HK.out)).trans (ret_int HM.out),(Below.refl _ _).alloc (Nat.le_refl _) _⟩
theorem spec_md_out (y m:Int) (h:¬(1970≤y∧y≤2200∧1≤m∧m≤12)) (w:World) :
 Calls Tryd.prog 85 #[.int .i64 y,.int .i64 m] w fun e w'=>e=.returned (.int .i64 0)∧w'=w:=by
 rcases md_key y m h with h1|⟨h1,h2⟩|⟨h1,h2,h3|⟨h3,h4⟩⟩
 all_goals
  clear h
  go_enter Tryd.func85,Tryd.ntmps85
  go_wp2
  go_ret
  exact ⟨rfl,rfl⟩
theorem spec_md (y m:Int) (w:World) :
 Calls Tryd.prog 85 #[.int .i64 y,.int .i64 m] w fun e w'=>e=.returned (.int .i64 (mdays y m))∧Below w.heap.size w w':=by
 unfold mdays
 by_cases h:1970≤y∧y≤2200∧1≤m∧m≤12
 ·rw [if_pos h]
  obtain ⟨k,rfl⟩:∃k:Nat,m=(k:Int)+1:=⟨(m-1).toNat,by omega⟩
  exact spec_md_in y k (by omega) h.1 h.2.1 w
 ·rw [if_neg h]
  exact (spec_md_out y m h w).mono fun e w' ⟨h1,h2⟩=>⟨h1,h2 ▸ Below.refl _ _⟩
def date (y m d:Int):Value:=.agg #[.int .i64 y,.int .i64 m,.int .i64 d]
end DateR
namespace DateR
open DateM
theorem right_cut (y m d X:Int) (hX:X=mdays y m):(decide (1970≤y∧y≤2200)=false∧rightB y m d=false)∨(decide (1970≤y∧y≤2200)=true∧decide (1≤m∧m≤12)=false∧rightB y m d=false)∨(decide (1970≤y∧y≤2200)=true∧decide (1≤m∧m≤12)=true∧decide (1≤d∧d≤X)=rightB y m d):=by
 have hr:=right_iff y m d
 by_cases h1:1970≤y∧y≤2200
 ·by_cases h2:1≤m∧m≤12
  ·exact .inr (.inr ⟨decide_eq_true h1,decide_eq_true h2,by rw [hX];rfl⟩)
  ·refine .inr (.inl ⟨decide_eq_true h1,decide_eq_false h2,?_⟩)
   cases h:rightB y m d
   ·rfl
   ·have:=hr.1 h;exact absurd ⟨this.2.2.1,this.2.2.2.1⟩ h2
 ·refine .inl ⟨decide_eq_false h1,?_⟩
  cases h:rightB y m d
  ·rfl
  ·have:=hr.1 h;exact absurd ⟨this.1,this.2.1⟩ h1
theorem is_any (n low high:Int) (w:World) :
 Calls Tryd.prog 27 #[.int .i64 n,.int .i64 low,.int .i64 high] w fun e w'=>e=.returned (.bool (decide (low≤n∧n≤high)))∧w'=w:=by
 by_cases h1:low≤n
 ·go_enter Tryd.func27,Tryd.ntmps27
  go_wp2
  go_ret
  exact ⟨ret_bool (by simp [h1]),rfl⟩
 ·go_enter Tryd.func27,Tryd.ntmps27
  go_wp2
  go_ret
  exact ⟨ret_bool (by rw [decide_eq_false (show ¬low≤n by omega)];rfl),rfl⟩
theorem year_any (n:Int) (w:World) :
 Calls Tryd.prog 84 #[.int .i64 n] w fun e w'=>e=.returned (.bool (decide (1970≤n∧n≤2200)))∧w'=w:=by
 go_enter Tryd.func84,Tryd.ntmps84
 go_wp2_with (go_at_call 27;refine (is_any _ _ _ _).mono ?_;rintro e w' ⟨rfl,rfl⟩)
 go_ret
 exact ⟨ret_bool (by simp),rfl⟩
def Box (w:World) (B:Nat) (y m d:Int) (w':World):Prop:=Below B w w'∧B<w'.heap.size∧w'.cell? ⟨B,0,none⟩=some (.int .i64 y)∧w'.cell? ⟨B,1,none⟩=some (.int .i64 m)∧w'.cell? ⟨B,2,none⟩=some (.int .i64 d)
theorem Box.below {w w1 w2:World} {B:Nat} {y m d:Int} (h:Box w B y m d w1) (hb:Below w1.heap.size w1 w2):Box w B y m d w2 :=
 ⟨h.1.trans (hb.mono (by have:=h.2.1;omega)),by have:=hb.size;have:=h.2.1;omega,by rw [hb.cell (p:=⟨B,0,none⟩) h.2.1];exact h.2.2.1,by rw [hb.cell (p:=⟨B,1,none⟩) h.2.1];exact h.2.2.2.1,by rw [hb.cell (p:=⟨B,2,none⟩) h.2.1];exact h.2.2.2.2⟩
set_option maxHeartbeats 8000000 in
theorem spec_right (y m d:Int) (w:World) :
 Calls Tryd.prog 86 #[date y m d] w fun e w'=>e=.returned (.bool (rightB y m d))∧Below w.heap.size w w':=by
 unfold date
 obtain ⟨X,hX⟩:∃X,X=mdays y m:=⟨_,rfl⟩
 have key:=right_cut y m d X hX
 have HI:=H_ (fun w=>spec_md y m w)
 rw [←hX] at HI
 clear hX
 generalize rightB y m d=r at key ⊢
 have HB0:=H_ ((((Below.refl w.heap.size w).alloc (Nat.le_refl _) (Obj.cells #[.int .i64 y,.int .i64 m,.int .i64 d] 101))).drew)
 have key2:∃q1 q2:Bool,decide (1970≤y∧y≤2200)=q1∧decide (1≤m∧m≤12)=q2∧Hid ((q1=false∧r=false)∨(q1=true∧q2=false∧r=false)∨(q1=true∧q2=true∧decide (1≤d∧d≤X)=r)):=⟨_,_,rfl,rfl,key⟩
 clear key
 obtain ⟨q1,q2,h1,h2,H3⟩:=key2
 cases q1
 ·go_enter Tryd.func86,Tryd.ntmps86
  go_wp2
  go_quiet ((first|(go_at_call 84;exact Calls.quiet_of_same (year_any _ _))|(go_at_call 27;exact Calls.quiet_of_same (is_any _ _ _ _))))
  go_wp2
  go_ret
  exact ⟨ret_bool (by rcases H3.out with h|h|h<;>simp_all),bel_drewN ((Below.refl _ _).alloc (Nat.le_refl _) _) _⟩
 cases q2
 ·go_enter Tryd.func86,Tryd.ntmps86
  go_wp2
  go_quiet ((first|(go_at_call 84;exact Calls.quiet_of_same (year_any _ _))|(go_at_call 27;exact Calls.quiet_of_same (is_any _ _ _ _))))
  go_wp2
  go_ret
  exact ⟨ret_bool (by rcases H3.out with h|h|h<;>simp_all),bel_drewN ((Below.refl _ _).alloc (Nat.le_refl _) _) _⟩
 ·go_enter Tryd.func86,Tryd.ntmps86
  go_wp2
  go_region_held3 (fun w'=>Below w.heap.size w w'∧w.heap.size<w'.heap.size∧w'.cell? ⟨w.heap.size,0,none⟩=some (.int .i64 y)∧w'.cell? ⟨w.heap.size,1,none⟩=some (.int .i64 m)∧w'.cell? ⟨w.heap.size,2,none⟩=some (.int .i64 d)) (first|assumption|(refine ⟨HB0.out,?_⟩;go_keep;done)|(exact Box.below (w:=w) (B:=w.heap.size) (y:=y) (m:=m) (d:=d) (by assumption) hb))
   (first|(go_at_call 84;refine (year_any _ _).mono ?_;rintro e w' ⟨rfl,rfl⟩)|(go_at_call 27;refine (is_any _ _ _ _).mono ?_;rintro e w' ⟨rfl,rfl⟩)|(go_at_call 85;refine (HI.out _).mono ?_;rintro e w' ⟨rfl,hb⟩))
  go_wp2
  rename_i hS
  go_ret
  exact ⟨ret_bool (by rcases H3.out with h|h|h<;>simp_all),hS.1⟩
end DateR
namespace DateR
open DateM
theorem impl_yd (y:Int) (w:World):Calls Tryd.prog 92 #[.int .i64 y] w fun e w'=>e=.returned (.int .i64 (yd y))∧w'=w:=by
 have hi:=fun w=>impl_leap y w
 unfold yd
 cases hl:leapB y
 all_goals
  rw [hl] at hi
  clear hl
  go_enter Tryd.func92,Tryd.ntmps92
  go_wp2_with (go_at_call 94;refine (hi _).mono ?_;rintro e w' ⟨rfl,rfl⟩)
  go_ret
  exact ⟨rfl,rfl⟩
theorem spec_yd (y:Int) (w:World):Calls Tryd.prog 83 #[.int .i64 y] w fun e w'=>e=.returned (.int .i64 (yd y))∧w'=w:=by
 have hi:=fun w=>spec_leap y w
 unfold yd
 cases hl:leapB y
 all_goals
  rw [hl] at hi
  clear hl
  go_enter Tryd.func83,Tryd.ntmps83
  go_wp2_with (go_at_call 90;refine (hi _).mono ?_;rintro e w' ⟨rfl,rfl⟩)
  go_ret
  exact ⟨rfl,rfl⟩
theorem add_year (D:Int) (k:Nat) (h1:0≤D) (h2:D≤30) (hk:k≤230):wrap64 (D+ys k+yd (1970+(k:Int)))=D+ys (k+1):=by
 have a:=ys_bd k
 have b:=yd_bd (1970+(k:Int))
 rw [ys_succ]
 unfold wrap64
 omega
theorem add_month (E y:Int) (k:Nat) (h1:0≤E) (h2:E≤90000) (hk:k<12) (y1:1970≤y) (y2:y≤2200):wrap64 (E+ms y k+mdays y ((k:Int)+1))=E+ms y (k+1):=by
 have a:=ms_bd y k
 have b:=md_bd y ((k:Int)+1)
 have c:mdays y ((k:Int)+1)=md y ((k:Int)+1):=if_pos (by omega)
 rw [c,ms_succ]
 unfold wrap64
 omega
theorem day_parts (y m d:Int) (h:rightB y m d=true):∃K M:Nat,K≤230∧M≤11∧y-1970=(K:Int)∧m-1=(M:Int)∧1≤d∧d≤31∧Hid (num y m d=d-1+ys K+ms y M)∧1970≤y∧y≤2200∧1≤m∧m≤12:=by
 obtain ⟨y1,y2,m1,m2,d1,d2⟩:=(right_iff y m d).1 h
 have b:=md_bd y m
 refine ⟨(y-1970).toNat,(m-1).toNat,by omega,by omega,by omega,by omega,d1,by omega,rfl,y1,y2,m1,m2⟩
set_option maxHeartbeats 4000000 in
theorem spec_dayof_in (y m d:Int) (w:World) (h:rightB y m d=true) :
 Calls Tryd.prog 77 #[date y m d] w fun e w'=>e=.returned (.int .i64 (num y m d))∧Below w.heap.size w w':=by
 obtain ⟨K,M,hK,hM,eK,eM,d1,d2,HN,y1,y2,m1,m2⟩:=day_parts y m d h
 have eY:y=1970+(K:Int):=by omega
 have eM2:m=(M:Int)+1:=by omega
 have hr:=fun w=>spec_right y m d w
 rw [h] at hr
 have HB0:=H_ ((Below.refl w.heap.size w).alloc (Nat.le_refl _) (Obj.cells #[.int .i64 y,.int .i64 m,.int .i64 d] 101))
 clear h eK eM
 subst eY eM2
 unfold date at *
 go_enter Tryd.func77,Tryd.ntmps77
 go_wp2_with fail
 refine (hr _).mono ?_
 rintro e w1 ⟨rfl,hb1⟩
 have g0:=hb1.cell (p:=⟨w.heap.size,0,none⟩) (by simp)
 have g1:=hb1.cell (p:=⟨w.heap.size,1,none⟩) (by simp)
 have g2:=hb1.cell (p:=⟨w.heap.size,2,none⟩) (by simp)
 have hsz:w.heap.size<w1.heap.size:=by have:=hb1.size;simp at this;omega
 simp [go_sem] at g0 g1 g2
 have HB:=H_ (HB0.out.trans (hb1.mono (by simp)))
 clear hb1 HB0
 go_wp2_with fail
 go_loop [3,4] (fun x z=>∃k:Nat,k≤K∧z=.int .i64 (1970+(k:Int))∧x=.int .i64 (d-1+ys k)) (fun _ z=>K+1970-(intOf z).toNat)
 case atStart=>exact ⟨0,by omega,rfl,by simp [ys]⟩
 case round =>
  obtain ⟨k,hk,rfl,rfl⟩:=hrel
  by_cases hlt:k<K
  ·have hs:=H_ (add_year (d-1) k (by omega) (by omega) (by omega))
   have hk2:(k:Int)≤230:=by omega
   have hlt2:(1970:Int)+k<1970+K:=by omega
   go_wp2_with (go_at_call 83;refine (spec_yd _ _).mono ?_;rintro e w' ⟨rfl,rfl⟩)
   go_round
   case rel=>exact ⟨k+1,by omega,by go_num,by rw [hs.out]⟩
   case measure=>simp [intOf];omega
  ·obtain rfl:k=K:=by omega
   obtain ⟨E,hE⟩:∃E,E=d-1+ys k:=⟨_,rfl⟩
   have hE2:0≤E∧E≤90000:=by have:=ys_bd k;omega
   rw [←hE] at HN ⊢
   clear hE
   go_wp2_with fail
   go_loopw [3,5] (fun x z wr=>∃j:Nat,j≤M∧z=.int .i64 ((j:Int)+1)∧x=.int .i64 (E+ms (1970+(k:Int)) j)∧Hid (Below w1.heap.size w1 wr)) (fun _ z _=>M+1-(intOf z).toNat)
   case atStart=>exact ⟨0,by omega,rfl,by simp [ms],Below.refl _ _⟩
   case round =>
    obtain ⟨j,hj,rfl,rfl,HR⟩:=hrel
    have q0:=(HR.out.cell (p:=⟨w.heap.size,0,none⟩) hsz).trans g0
    have q1:=(HR.out.cell (p:=⟨w.heap.size,1,none⟩) hsz).trans g1
    by_cases hlt2:j<M
    ·have hs:=H_ (add_month E (1970+(k:Int)) j hE2.1 hE2.2 (by omega) y1 y2)
     have hk2:(j:Int)+1≤12:=by omega
     have hlt3:(j:Int)+1<(M:Int)+1:=by omega
     go_wp2_with (go_at_call 85;refine (spec_md _ _ _).mono ?_;rintro e w' ⟨rfl,hb⟩)
     have HR2:=H_ (HR.out.trans (hb.mono HR.out.size))
     clear hb
     go_roundw
     case rel=>exact ⟨j+1,by omega,by go_num,by rw [hs.out],HR2⟩
     case measure=>simp [intOf];omega
    ·obtain rfl:j=M:=by omega
     go_wp2_with fail
     go_ret
     exact ⟨ret_int HN.out.symm,HB.out.trans (HR.out.mono HB.out.size)⟩
theorem spec_dayof (y m d:Int) (w:World) :
 Calls Tryd.prog 77 #[date y m d] w fun e w'=>e=.returned (.int .i64 (if rightB y m d=true then num y m d else -1))∧Below w.heap.size w w':=by
 cases h:rightB y m d
 ·have hr:=fun w=>spec_right y m d w
  rw [h] at hr
  clear h
  unfold date at *
  go_enter Tryd.func77,Tryd.ntmps77
  go_wp2_with (go_at_call 86;refine (hr _).mono ?_;rintro e w1 ⟨rfl,hb1⟩)
  go_ret
  exact ⟨rfl,bel_alloc hb1⟩
 ·rw [if_pos rfl]
  exact spec_dayof_in y m d w h
end DateR
end Go.Proofs.YteejpnkmnmoebaaDoor
namespace Go.Proofs.YteejpnkmnmoebaaDoor
open Go.ChangeShapes Go.WideShapes Go.ChangeAt Go.RowKit
open Go.ChangeMaps (open_string shut_string)
namespace NameR
def okAt (i:Nat) (c:Int):Bool:=decide ((97≤c∧c≤122)∨(i≠0∧((48≤c∧c≤57)∨c=95)))
def upTo (s:ByteArray) (k:Nat):Prop:=∀i (h:i<s.size),i<k→okAt i (s[i].toNat:Int)=true
def upToDec (s:ByteArray) (k:Nat):Decidable (upTo s k):=inferInstanceAs (Decidable (∀i (h:i<s.size),i<k→okAt i (s[i].toNat:Int)=true))
def nameB (s:ByteArray):Bool:=@decide (1≤s.size∧s.size≤20∧upTo s s.size) (@instDecidableAnd _ _ _ (@instDecidableAnd _ _ _ (upToDec s s.size)))
theorem name_size {s:ByteArray} (h:s.size<1∨20<s.size):nameB s=false:=by
 unfold nameB;simp;intro h1 h2;omega
theorem name_no {s:ByteArray} {k:Nat} (h:k<s.size) (hb:okAt k (s[k].toNat:Int)=false):nameB s=false:=by
 unfold nameB;simp;intro _ _ hu;have:=hu k h h;simp [hb] at this
theorem name_yes {s:ByteArray} (h1:1≤s.size) (h2:s.size≤20) (hu:upTo s s.size):nameB s=true:=by
 unfold nameB;simp;exact ⟨h1,h2,hu⟩
theorem upTo_zero (s:ByteArray):upTo s 0:=fun _ _ h=>absurd h (by omega)
theorem upTo_succ {s:ByteArray} {k:Nat} (hu:upTo s k) (h:k<s.size) (hb:okAt k (s[k].toNat:Int)=true):upTo s (k+1):=by
 intro i hi hk
 by_cases e:i=k
 ·subst e;exact hb
 ·exact hu i hi (by omega)
set_option maxHeartbeats 2000000 in
theorem spec_any (s:ByteArray) (w:World) (hs:s.size≤1048576) :
 Calls Tryd.prog 25 #[.string s] w fun e w'=>e=.returned (.bool (nameB s))∧w'=w:=by
 by_cases h1:s.size<1
 ·have hn:=name_size (s:=s) (.inl h1)
  rw [hn]
  go_enter Tryd.func25,Tryd.ntmps25
  go_wp2
  go_ret
  exact ⟨rfl,rfl⟩
 by_cases h2:20<s.size
 ·have hn:=name_size (s:=s) (.inr h2)
  rw [hn]
  go_enter Tryd.func25,Tryd.ntmps25
  go_wp2
  go_ret
  exact ⟨rfl,rfl⟩
 go_enter Tryd.func25,Tryd.ntmps25
 go_wp2
 go_loop [3,4] (fun i _=>∃k:Nat,k≤s.size∧i=.int .i64 k∧upTo s k) (fun i _=>s.size-(intOf i).toNat)
 case atStart=>exact ⟨0,Nat.zero_le _,rfl,upTo_zero s⟩
 case round =>
  obtain ⟨k,hk,rfl,hu⟩:=hrel
  by_cases hlt:k<s.size
  ·have hno:=name_no (s:=s) hlt
   have hyes:=upTo_succ hu hlt
   have HN:Hid (okAt k (s[k].toNat:Int)=false→nameB s=false):=hno
   have HY:Hid (okAt k (s[k].toNat:Int)=true→upTo s (k+1)):=hyes
   clear hno hyes hu
   by_cases hk0:k=0
   ·subst hk0
    rcases (show ((s[0].toNat:Int)<48)∨(48≤(s[0].toNat:Int)∧(s[0].toNat:Int)≤57)∨(57<(s[0].toNat:Int)∧(s[0].toNat:Int)<95)∨(95≤(s[0].toNat:Int)∧(s[0].toNat:Int)≤95)∨(95<(s[0].toNat:Int)∧(s[0].toNat:Int)<97)∨(97≤(s[0].toNat:Int)∧(s[0].toNat:Int)≤122)∨122<(s[0].toNat:Int) from by omega) with hc|hc|hc|hc|hc|hc|hc
    all_goals
     (first|have a0:(97:Int)≤(s[0].toNat:Int):=by omega|have a0:¬(97:Int)≤(s[0].toNat:Int):=by omega)
     (first|have a1:(s[0].toNat:Int)≤122:=by omega|have a1:¬(s[0].toNat:Int)≤122:=by omega)
     (first|have a2:(48:Int)≤(s[0].toNat:Int):=by omega|have a2:¬(48:Int)≤(s[0].toNat:Int):=by omega)
     (first|have a3:(s[0].toNat:Int)≤57:=by omega|have a3:¬(s[0].toNat:Int)≤57:=by omega)
     (first|have a5:((s[0].toNat:Int) != 95)=true:=by simp;omega|have a5:((s[0].toNat:Int) != 95)=false:=by simp;omega)
     (first|have a6:((s[0].toNat:Int)==95)=true:=by simp;omega|have a6:((s[0].toNat:Int)==95)=false:=by simp;omega)
     go_wp2
     first
      | (go_ret;exact ⟨ret_bool (HN.out (by unfold okAt;simp;omega)).symm,rfl⟩)
      | (
       go_round
       case rel=>exact ⟨1,by omega,by go_num,HY.out (by unfold okAt;simp;omega)⟩
       case measure=>simp [intOf];omega)
   ·rcases (show ((s[k].toNat:Int)<48)∨(48≤(s[k].toNat:Int)∧(s[k].toNat:Int)≤57)∨(57<(s[k].toNat:Int)∧(s[k].toNat:Int)<95)∨(95≤(s[k].toNat:Int)∧(s[k].toNat:Int)≤95)∨(95<(s[k].toNat:Int)∧(s[k].toNat:Int)<97)∨(97≤(s[k].toNat:Int)∧(s[k].toNat:Int)≤122)∨122<(s[k].toNat:Int) from by omega) with hc|hc|hc|hc|hc|hc|hc
    all_goals
     (first|have a0:(97:Int)≤(s[k].toNat:Int):=by omega|have a0:¬(97:Int)≤(s[k].toNat:Int):=by omega)
     (first|have a1:(s[k].toNat:Int)≤122:=by omega|have a1:¬(s[k].toNat:Int)≤122:=by omega)
     (first|have a2:(48:Int)≤(s[k].toNat:Int):=by omega|have a2:¬(48:Int)≤(s[k].toNat:Int):=by omega)
     (first|have a3:(s[k].toNat:Int)≤57:=by omega|have a3:¬(s[k].toNat:Int)≤57:=by omega)
     (first|have a5:((s[k].toNat:Int) != 95)=true:=by simp;omega|have a5:((s[k].toNat:Int) != 95)=false:=by simp;omega)
     (first|have a6:((s[k].toNat:Int)==95)=true:=by simp;omega|have a6:((s[k].toNat:Int)==95)=false:=by simp;omega)
     have a7:((k:Int)==0)=false:=by simp;omega
     go_wp2
     first
      | (go_ret;exact ⟨ret_bool (HN.out (by unfold okAt;simp;omega)).symm,rfl⟩)
      | (
       go_round
       case rel=>exact ⟨k+1,by omega,by go_num,HY.out (by unfold okAt;simp;omega)⟩
       case measure=>simp [intOf];omega)
  ·go_wp2
   go_ret
   have:k=s.size:=by omega
   subst this
   exact ⟨ret_bool (name_yes (by omega) (by omega) hu).symm,rfl⟩
set_option maxHeartbeats 2000000 in
theorem impl_any (s:ByteArray) (w:World) (hs:s.size≤1048576) :
 Calls Tryd.prog 64 #[.string s] w fun e w'=>e=.returned (.bool (nameB s))∧w'=w:=by
 by_cases h1:s.size<1
 ·have hn:=name_size (s:=s) (.inl h1)
  rw [hn]
  go_enter Tryd.func64,Tryd.ntmps64
  go_wp2
  go_ret
  exact ⟨rfl,rfl⟩
 by_cases h2:20<s.size
 ·have hn:=name_size (s:=s) (.inr h2)
  rw [hn]
  go_enter Tryd.func64,Tryd.ntmps64
  go_wp2
  go_ret
  exact ⟨rfl,rfl⟩
 go_enter Tryd.func64,Tryd.ntmps64
 go_wp2
 go_loop [3,4,5] (fun i _ _=>∃k:Nat,k≤s.size∧i=.int .i64 k∧upTo s k) (fun i _ _=>s.size-(intOf i).toNat)
 case atStart=>exact ⟨0,Nat.zero_le _,rfl,upTo_zero s⟩
 case round =>
  obtain ⟨k,hk,rfl,hu⟩:=hrel
  by_cases hlt:k<s.size
  ·have hno:=name_no (s:=s) hlt
   have hyes:=upTo_succ hu hlt
   have HN:Hid (okAt k (s[k].toNat:Int)=false→nameB s=false):=hno
   have HY:Hid (okAt k (s[k].toNat:Int)=true→upTo s (k+1)):=hyes
   clear hno hyes hu
   by_cases hk0:k=0
   ·subst hk0
    rcases (show ((s[0].toNat:Int)<48)∨(48≤(s[0].toNat:Int)∧(s[0].toNat:Int)≤57)∨(57<(s[0].toNat:Int)∧(s[0].toNat:Int)<95)∨(95≤(s[0].toNat:Int)∧(s[0].toNat:Int)≤95)∨(95<(s[0].toNat:Int)∧(s[0].toNat:Int)<97)∨(97≤(s[0].toNat:Int)∧(s[0].toNat:Int)≤122)∨122<(s[0].toNat:Int) from by omega) with hc|hc|hc|hc|hc|hc|hc
    all_goals
     (first|have a0:(97:Int)≤(s[0].toNat:Int):=by omega|have a0:¬(97:Int)≤(s[0].toNat:Int):=by omega)
     (first|have a1:(s[0].toNat:Int)≤122:=by omega|have a1:¬(s[0].toNat:Int)≤122:=by omega)
     (first|have a2:(48:Int)≤(s[0].toNat:Int):=by omega|have a2:¬(48:Int)≤(s[0].toNat:Int):=by omega)
     (first|have a3:(s[0].toNat:Int)≤57:=by omega|have a3:¬(s[0].toNat:Int)≤57:=by omega)
     (first|have a5:((s[0].toNat:Int) != 95)=true:=by simp;omega|have a5:((s[0].toNat:Int) != 95)=false:=by simp;omega)
     (first|have a6:((s[0].toNat:Int)==95)=true:=by simp;omega|have a6:((s[0].toNat:Int)==95)=false:=by simp;omega)
     go_wp2
     first
      | (go_ret;exact ⟨ret_bool (HN.out (by unfold okAt;simp;omega)).symm,rfl⟩)
      | (
       go_round
       case rel=>exact ⟨1,by omega,by go_num,HY.out (by unfold okAt;simp;omega)⟩
       case measure=>simp [intOf];omega)
   ·rcases (show ((s[k].toNat:Int)<48)∨(48≤(s[k].toNat:Int)∧(s[k].toNat:Int)≤57)∨(57<(s[k].toNat:Int)∧(s[k].toNat:Int)<95)∨(95≤(s[k].toNat:Int)∧(s[k].toNat:Int)≤95)∨(95<(s[k].toNat:Int)∧(s[k].toNat:Int)<97)∨(97≤(s[k].toNat:Int)∧(s[k].toNat:Int)≤122)∨122<(s[k].toNat:Int) from by omega) with hc|hc|hc|hc|hc|hc|hc
    all_goals
     (first|have a0:(97:Int)≤(s[k].toNat:Int):=by omega|have a0:¬(97:Int)≤(s[k].toNat:Int):=by omega)
     (first|have a1:(s[k].toNat:Int)≤122:=by omega|have a1:¬(s[k].toNat:Int)≤122:=by omega)
     (first|have a2:(48:Int)≤(s[k].toNat:Int):=by omega|have a2:¬(48:Int)≤(s[k].toNat:Int):=by omega)
     (first|have a3:(s[k].toNat:Int)≤57:=by omega|have a3:¬(s[k].toNat:Int)≤57:=by omega)
     (first|have a5:((s[k].toNat:Int) != 95)=true:=by simp;omega|have a5:((s[k].toNat:Int) != 95)=false:=by simp;omega)
     (first|have a6:((s[k].toNat:Int)==95)=true:=by simp;omega|have a6:((s[k].toNat:Int)==95)=false:=by simp;omega)
     have a7:((k:Int)==0)=false:=by simp;omega
     go_wp2
     first
      | (go_ret;exact ⟨ret_bool (HN.out (by unfold okAt;simp;omega)).symm,rfl⟩)
      | (
       go_round
       case rel=>exact ⟨k+1,by omega,by go_num,HY.out (by unfold okAt;simp;omega)⟩
       case measure=>simp [intOf];omega)
  ·go_wp2
   go_ret
   have:k=s.size:=by omega
   subst this
   exact ⟨ret_bool (name_yes (by omega) (by omega) hu).symm,rfl⟩
end NameR
end Go.Proofs.YteejpnkmnmoebaaDoor
