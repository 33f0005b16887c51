/-
  Documents: what is read of one, the law's own copies, and two held against each other. The condition: at most 1048576 lines.
-/
import Derived.Test.YtnceeaccbcfopaaGreatDoorT49
namespace Go.Proofs.YtnceeaccbcfopaaGreatDoor
open Go.ChangeShapes Go.WideShapes Go.ChangeAt Go.RowKit
set_option linter.unusedVariables false
namespace LinR
open RowG
def szF (L0:Int) (es:List N):Int:=if (es.length:Int)+szL es≤L0 then L0-(es.length:Int)-szL es else -1
set_option maxHeartbeats 4000000 in
theorem szs_from (L0:Int) (h0:0≤L0) (h1:L0≤1048576) (ao:Option Addr) (cap:Nat) (es:List N) (w:World) (hm:es.length≤maxLen) (hI:Lis ao es w) (hw:∀e∈es,e.i.size≤maxLen) :
 Calls Tryz.prog 102 #[.slice ao es.length cap,.int .i64 L0] w fun e w'=>e=.returned (.int .i64 (szF L0 es))∧Below w.heap.size w w':=by
 obtain ⟨len,hlen⟩:∃len,len=es.length:=⟨_,rfl⟩
 rw [←hlen] at hm ⊢
 have HZ:=H_ hlen
 have HI:=H_ hI
 have HW:=H_ hw
 have HR:Hid (szF L0 es=if (es.length:Int)+szL es≤L0 then L0-(es.length:Int)-szL es else -1):=rfl
 generalize szF L0 es=R at *
 unfold maxLen at hm
 clear hI hw hlen
 by_cases hbig:L0<len
 ·have hl2:(L0:Int)-(len:Int)<0:=by omega
  have HN:Hid (R=-1):=H_ (by rw [HR.out,if_neg];have:=szL_nn es;have:=HZ.out;omega)
  go_enter Tryz.func102,Tryz.ntmps102
  go_wp2_with fail
  go_ret
  exact ⟨ret_int HN.out.symm,Below.refl _ _⟩
 have hl:(len:Int)≤L0:=by omega
 have hl2:¬(L0:Int)-(len:Int)<0:=by omega
 go_enter Tryz.func102,Tryz.ntmps102
 go_wp2_with fail
 go_loopw [5,1] (fun x y w'=>∃(j:Nat) (L:Int),j≤len∧x=.int .i64 j∧y=.int .i64 L∧0≤L∧L≤1048576∧Hid (L=L0-(len:Int)-szL (es.take j))∧Hid (Below w.heap.size w w')) (fun x y w'=>len-(intOf x).toNat)
 case atStart=>exact ⟨0,L0-(len:Int),Nat.zero_le _,rfl,rfl,by omega,by omega,H_ (by simp [szL]),H_ (Below.refl _ _)⟩
 case round =>
  obtain ⟨j,L,hj,rfl,rfl,l0,l1,HL,HB⟩:=hrel
  by_cases hlt:j<len
  ·obtain ⟨b,off,rfl,hbl,c0,c1⟩:=(HI.out.below HB.out).at j (by have:=HZ.out;omega)
   have HS:=H_ (szL_take es j (by have:=HZ.out;omega))
   have q1:=HW.out _ (getD_mem (z:=N.zero) es j (by have:=HZ.out;omega))
   generalize es.getD j N.zero=E1 at *
   obtain ⟨i,n⟩:=E1
   have HS:Hid (szL (es.take (j+1))=szL (es.take j)+(i.size:Int)):=HS
   have HC:=H_ (fun w=>sz_any i n L q1 l0 l1 w)
   have hlt2:(j:Int)<(len:Int):=by omega
   clear q1
   by_cases hs:(i.size:Int)≤L
   ·rw [if_pos hs] at HC
    have HN:Hid (L-(i.size:Int)=L0-(len:Int)-szL (es.take (j+1))):=H_ (by rw [HS.out,HL.out];omega)
    have r0:0≤L-(i.size:Int):=by omega
    have r1:L-(i.size:Int)≤1048576:=by omega
    generalize L-(i.size:Int)=L2 at *
    clear hs
    go_wp2_with fail
    refine (HC.out _).mono ?_
    rintro e w1 ⟨rfl,hb⟩
    have HB1:=H_ (HB.out.trans (hb.mono HB.out.size))
    clear hb HB c0 c1
    have r2:¬L2<0:=by omega
    go_wp2_with fail
    go_roundw
    case rel=>exact ⟨j+1,L2,by omega,by go_num,rfl,r0,r1,HN,HB1⟩
    case measure=>simp [intOf];omega
   ·rw [if_neg hs] at HC
    have HN:Hid (R=-1):=H_ (by rw [HR.out,if_neg];have:=szL_le es (j+1);have:=HS.out;have:=HL.out;have:=HZ.out;omega)
    go_wp2_with fail
    refine (HC.out _).mono ?_
    rintro e w1 ⟨rfl,hb⟩
    have HB1:=H_ (HB.out.trans (hb.mono HB.out.size))
    clear hb HB c0 c1
    go_wp2_with fail
    go_ret
    exact ⟨ret_int HN.out.symm,HB1.out⟩
  ·obtain rfl:j=len:=by omega
   have HN:Hid (R=L):=H_ (by
    have e:=HL.out
    rw [List.take_of_length_le (by have:=HZ.out;omega)] at e
    rw [HR.out,if_pos (by have:=HZ.out;omega)];have:=HZ.out;omega)
   go_wp2_with fail
   go_ret
   exact ⟨ret_int HN.out.symm,HB.out⟩
theorem szL_memF {es:List N} {e:N} (h:e∈es):(e.i.size:Int)≤szL es:=by
 induction es with
 | nil=>cases h
 | cons x es ih =>
  have hn:=szL_nn es
  have hx:szL (x::es)=(x.i.size:Int)+szL es:=by simp [szL]
  rcases List.mem_cons.1 h with rfl|h
  ·omega
  ·have:=ih h;omega
end LinR
namespace DocR
open LinR RowG
open CatR (Blk Blk.new)
open EvtR (Pt)
structure D where
 a:ByteArray
 mo:Int
 sq:Int
 ls:List N
def dcells (x:D) (la:Option Addr) (lc:Nat):Array Value:=#[.string x.a,.int .i64 x.mo,.int .i64 x.sq,.slice la x.ls.length lc]
def IsD (v:Value) (x:D) (W:World):Prop:=∃la lc,v=.agg (dcells x la lc)∧Lis la x.ls W
theorem IsD.below {v:Value} {x:D} {w w':World} (h:IsD v x w) (hb:Below w.heap.size w w'):IsD v x w':=by
 obtain ⟨la,lc,e,hL⟩:=h
 exact ⟨la,lc,e,hL.below hb⟩
def D.In (x:D):Prop:=x.a.size≤maxLen∧x.ls.length≤maxLen∧∀e∈x.ls,e.i.size≤maxLen
def dszR (L0:Int) (x:D):Int:=if (x.a.size:Int)≤L0 then szF (L0-(x.a.size:Int)) x.ls else -1
def D.Sm (x:D):Prop:=x.a.size≤1048576∧x.ls.length≤1048576∧∀e∈x.ls,e.i.size≤1048576
theorem dsz_small {L0:Int} {x:D} (hL:L0≤1048576) (h:¬dszR L0 x<0):x.Sm∧dszR L0 x≤L0:=by
 unfold dszR szF at *
 have hn:=szL_nn x.ls
 by_cases q:(x.a.size:Int)≤L0
 ·rw [if_pos q] at h ⊢
  by_cases q2:(x.ls.length:Int)+szL x.ls≤L0-(x.a.size:Int)
  ·rw [if_pos q2]
   exact ⟨⟨by omega,by omega,fun e he=>by have:=szL_memF he;omega⟩,by omega⟩
  ·rw [if_neg q2] at h;exact absurd (by omega) h
 ·rw [if_neg q] at h;exact absurd (by omega) h
set_option maxHeartbeats 4000000 in
theorem szD_in (a:ByteArray) (mo sq:Int) (la:Option Addr) (ll lc:Nat) (L0 R:Int) (w:World) (h0:0≤L0) (h1:L0≤1048576) (ha:a.size≤maxLen)
 (hs:(a.size:Int)≤L0→∀W,Below w.heap.size w W→Calls Tryz.prog 102 #[.slice la ll lc,.int .i64 (L0-(a.size:Int))] W fun e w'=>e=.returned (.int .i64 R)∧Below W.heap.size W w') :
 Calls Tryz.prog 50 #[.agg #[.string a,.int .i64 mo,.int .i64 sq,.slice la ll lc],.int .i64 L0] w fun e w'=>e=.returned (.int .i64 (if (a.size:Int)≤L0 then (if R<0 then -1 else R) else -1))∧Below w.heap.size w w':=by
 unfold maxLen at ha
 have HB0:Hid (Below w.heap.size w (w.alloc (.cells #[.string a,.int .i64 mo,.int .i64 sq,.slice la ll lc] 99))):=H_ ((Below.refl _ _).alloc (Nat.le_refl _) _)
 by_cases q:(a.size:Int)≤L0
 ·rw [if_pos q]
  have q2:¬L0-(a.size:Int)<0:=by omega
  have HS:=H_ (hs q)
  have b1:0≤L0-(a.size:Int):=by omega
  have b2:L0-(a.size:Int)≤1048576:=by omega
  clear hs q
  by_cases hr:R<0
  all_goals
   first|rw [if_pos hr]|rw [if_neg hr]
   go_enter Tryz.func50,Tryz.ntmps50
   go_wp2_with fail
   refine (HS.out _ HB0.out).mono ?_
   rintro e w1 ⟨rfl,hb1⟩
   have HB1:=H_ (HB0.out.trans (hb1.mono HB0.out.size))
   clear hb1
   go_wp2_with fail
   go_ret
   exact ⟨rfl,HB1.out⟩
 ·rw [if_neg q]
  have q2:L0-(a.size:Int)<0:=by omega
  clear hs q
  go_enter Tryz.func50,Tryz.ntmps50
  go_wp2_with fail
  go_ret
  exact ⟨rfl,HB0.out⟩
theorem szD_any (x:D) (la:Option Addr) (lc:Nat) (L0:Int) (w:World) (h0:0≤L0) (h1:L0≤1048576) (hin:x.In) (hL:Lis la x.ls w) :
 Calls Tryz.prog 50 #[.agg (dcells x la lc),.int .i64 L0] w fun e w'=>e=.returned (.int .i64 (dszR L0 x))∧Below w.heap.size w w':=by
 have h:=szD_in x.a x.mo x.sq la x.ls.length lc L0 (szF (L0-(x.a.size:Int)) x.ls) w h0 h1 hin.1 (fun q W hW=>szs_from _ (by omega) (by omega) la lc x.ls W hin.2.1 (hL.below hW) hin.2.2)
 have e:(if szF (L0-(x.a.size:Int)) x.ls<0 then -1 else szF (L0-(x.a.size:Int)) x.ls)=szF (L0-(x.a.size:Int)) x.ls:=by
  unfold szF
  have:=szL_nn x.ls
  split
  ·rw [if_neg (by omega)]
  ·rw [if_pos (by omega)]
 rw [e] at h
 exact h
def MadeD (base:Nat) (x:D) (v:Value) (w:World):Prop:=∃la lc,v=.agg (dcells x la lc)∧MadeG 2 N.cells N.zero base la x.ls w
theorem MadeD.below {base:Nat} {x:D} {v:Value} {w w':World} (h:MadeD base x v w) (hb:Below w.heap.size w w'):MadeD base x v w':=by
 obtain ⟨la,lc,hv,h1⟩:=h
 exact ⟨la,lc,hv,h1.below hb⟩
theorem MadeD.low {base base':Nat} {x:D} {v:Value} {w:World} (h:MadeD base x v w) (hb:base'≤base):MadeD base' x v w:=by
 obtain ⟨la,lc,hv,h1⟩:=h
 exact ⟨la,lc,hv,h1.low hb⟩
theorem MadeD.is {base:Nat} {x:D} {v:Value} {w:World} (h:MadeD base x v w):IsD v x w:=by
 obtain ⟨la,lc,hv,h1⟩:=h
 exact ⟨la,lc,hv,h1.rws⟩
set_option maxRecDepth 100000 in
set_option maxHeartbeats 8000000 in
theorem toD_in (a:ByteArray) (mo sq:Int) (la:Option Addr) (lc:Nat) (ls:List N) (w:World) (hl:ls.length≤1048576) (hL:Lis la ls w) :
 Calls Tryz.prog 69 #[.agg #[.string a,.int .i64 mo,.int .i64 sq,.slice la ls.length lc]] w fun e w'=>∃v,e=.returned v∧MadeD w.heap.size ⟨a,mo,sq,ls⟩ v w'∧Below w.heap.size w w':=by
 have H1:=H_ (fun W (hW:Below w.heap.size w W)=>toLis_any la lc ls W hl (hL.below hW))
 have HF:Hid (∀W g1,w.heap.size≤g1→MadeG 2 N.cells N.zero g1 (some ⟨g1,0,none⟩) ls W→MadeD w.heap.size ⟨a,mo,sq,ls⟩ (.agg #[.string a,.int .i64 mo,.int .i64 sq,.slice (some ⟨g1,0,none⟩) ls.length ls.length]) W):=H_ (fun W g1 l1 m1=>⟨_,_,rfl,m1.low l1⟩)
 generalize MadeD w.heap.size ⟨a,mo,sq,ls⟩=M at *
 obtain ⟨ll,hll⟩:∃ll,ll=ls.length:=⟨_,rfl⟩
 have HLL:=H_ hll
 rw [←hll] at hl H1 HF ⊢
 clear hL hll
 have HB0:Hid (Below w.heap.size w (((w.alloc (.cells #[.string a,.int .i64 mo,.int .i64 sq,.slice la ll lc] 99)).alloc (.cells #[.string ⟨#[]⟩,.int .i64 0,.int .i64 0,.slice none 0 0] 122)).alloc (.cells #[.string a,.int .i64 mo,.int .i64 sq,.slice none 0 0] 122))):=H_ ((((Below.refl _ _).alloc (Nat.le_refl _) _).alloc (by simp) _).alloc (by simp;omega) _)
 have HX0:=H_ (((BlkW.new w [.string a,.int .i64 mo,.int .i64 sq,.slice la ll lc] 99).below ((Below.refl _ _).alloc (Nat.le_refl _) (Obj.cells #[.string ⟨#[]⟩,.int .i64 0,.int .i64 0,.slice none 0 0] 122))).below ((Below.refl _ _).alloc (Nat.le_refl _) (Obj.cells #[.string a,.int .i64 mo,.int .i64 sq,.slice none 0 0] 122)))
 have HY0:=H_ ((BlkW.new (w.alloc (.cells #[.string a,.int .i64 mo,.int .i64 sq,.slice la ll lc] 99)) [.string ⟨#[]⟩,.int .i64 0,.int .i64 0,.slice none 0 0] 122).below ((Below.refl _ _).alloc (Nat.le_refl _) (Obj.cells #[.string a,.int .i64 mo,.int .i64 sq,.slice none 0 0] 122)))
 have HZ0:=H_ (BlkW.new ((w.alloc (.cells #[.string a,.int .i64 mo,.int .i64 sq,.slice la ll lc] 99)).alloc (.cells #[.string ⟨#[]⟩,.int .i64 0,.int .i64 0,.slice none 0 0] 122)) [.string a,.int .i64 mo,.int .i64 sq,.slice none 0 0] 122)
 have e1:(w.alloc (.cells #[.string a,.int .i64 mo,.int .i64 sq,.slice la ll lc] 99)).heap.size=w.heap.size+1:=by simp
 have e2:((w.alloc (.cells #[.string a,.int .i64 mo,.int .i64 sq,.slice la ll lc] 99)).alloc (.cells #[.string ⟨#[]⟩,.int .i64 0,.int .i64 0,.slice none 0 0] 122)).heap.size=w.heap.size+1+1:=by simp
 rw [e1] at HY0
 rw [e2] at HZ0
 clear e1 e2
 go_enter Tryz.func69,Tryz.ntmps69
 go_wp2_with fail
 refine (H1.out _ HB0.out).mono ?_
 rintro e w1 ⟨rfl,hT1,hP1,hb1⟩
 have HM1:=H_ (show MadeG 2 N.cells N.zero _ _ ls w1 from ⟨hT1,.inr ⟨_,rfl,Nat.le_refl _,HLL.out ▸ hP1⟩⟩)
 obtain ⟨g1,hg1⟩:∃g1,g1=(((w.alloc (.cells #[.string a,.int .i64 mo,.int .i64 sq,.slice la ll lc] 99)).alloc (.cells #[.string ⟨#[]⟩,.int .i64 0,.int .i64 0,.slice none 0 0] 122)).alloc (.cells #[.string a,.int .i64 mo,.int .i64 sq,.slice none 0 0] 122)).heap.size:=⟨_,rfl⟩
 have HG1:Hid (w.heap.size+3=g1):=H_ (by rw [hg1];simp)
 rw [←hg1] at HM1 ⊢
 clear hg1
 have HY1:=H_ (HY0.out.below hb1)
 have HZ1:=H_ (HZ0.out.below hb1)
 have HB1:=H_ (HB0.out.trans (hb1.mono HB0.out.size))
 clear hT1 hP1 hb1 HX0 HY0 HZ0 HB0
 obtain ⟨⟨zl,zk⟩,zf⟩:=HZ1.out
 have z0:w1.cell? ⟨w.heap.size+1+1,0,none⟩=some (.string a):=zk 0 (by simp)
 have f0:w1.frozen? ⟨w.heap.size+1+1,0,none⟩=false:=zf 0 (by simp)
 have z1:w1.cell? ⟨w.heap.size+1+1,1,none⟩=some (.int .i64 mo):=zk 1 (by simp)
 have f1:w1.frozen? ⟨w.heap.size+1+1,1,none⟩=false:=zf 1 (by simp)
 have z2:w1.cell? ⟨w.heap.size+1+1,2,none⟩=some (.int .i64 sq):=zk 2 (by simp)
 have f2:w1.frozen? ⟨w.heap.size+1+1,2,none⟩=false:=zf 2 (by simp)
 have z3:w1.cell? ⟨w.heap.size+1+1,3,none⟩=some (.slice none 0 0):=zk 3 (by simp)
 have f3:w1.frozen? ⟨w.heap.size+1+1,3,none⟩=false:=zf 3 (by simp)
 obtain ⟨⟨yl,yk⟩,yf⟩:=HY1.out
 have y0:w1.cell? ⟨w.heap.size+1,0,none⟩=some (.string ⟨#[]⟩):=yk 0 (by simp)
 have q0:w1.frozen? ⟨w.heap.size+1,0,none⟩=false:=yf 0 (by simp)
 have y1:w1.cell? ⟨w.heap.size+1,1,none⟩=some (.int .i64 0):=yk 1 (by simp)
 have q1:w1.frozen? ⟨w.heap.size+1,1,none⟩=false:=yf 1 (by simp)
 have y2:w1.cell? ⟨w.heap.size+1,2,none⟩=some (.int .i64 0):=yk 2 (by simp)
 have q2:w1.frozen? ⟨w.heap.size+1,2,none⟩=false:=yf 2 (by simp)
 have y3:w1.cell? ⟨w.heap.size+1,3,none⟩=some (.slice none 0 0):=yk 3 (by simp)
 have q3:w1.frozen? ⟨w.heap.size+1,3,none⟩=false:=yf 3 (by simp)
 clear zk zf yk yf HY1 HZ1
 have HN1:Hid (∀b off,(some ⟨g1,0,none⟩:Option Addr)=some ⟨b,off,none⟩→∀g,g≤w.heap.size+1+1→b≠g):=H_ (fun b off e g hg=>by simp at e;have:=HG1.out;omega)
 go_wp2_with fail
 refine bodyPost_ret (v:=.agg #[.string a,.int .i64 mo,.int .i64 sq,.slice (some ⟨g1,0,none⟩) ll ll]) (by simp [results,Tryz.results69,go_sem,y0,y1,y2,y3]) rfl ⟨_,rfl,HF.out _ g1 (by have:=HG1.out;omega) ?_,?_⟩
 ·exact (MadeG.put (MadeG.put (MadeG.put (MadeG.put (MadeG.put HM1.out _ _ _ (.inr (fun b off e=>HN1.out b off e _ (by omega)))) _ _ _ (.inr (fun b off e=>HN1.out b off e _ (by omega)))) _ _ _ (.inr (fun b off e=>HN1.out b off e _ (by omega)))) _ _ _ (.inr (fun b off e=>HN1.out b off e _ (by omega)))) _ _ _ (.inr (fun b off e=>HN1.out b off e _ (by omega))))
 ·exact (((((HB1.out.setCell (by simp;omega) _).setCell (by simp) _).setCell (by simp) _).setCell (by simp) _).setCell (by simp) _)
theorem toD_any (v:Value) (x:D) (w:World) (hl:x.ls.length≤1048576) (h:IsD v x w) :
 Calls Tryz.prog 69 #[v] w fun e w'=>∃v',e=.returned v'∧MadeD w.heap.size x v' w'∧Below w.heap.size w w':=by
 obtain ⟨la,lc,rfl,hL⟩:=h
 exact toD_in x.a x.mo x.sq la lc x.ls w hl hL
set_option maxRecDepth 100000 in
set_option maxHeartbeats 8000000 in
theorem eqD_in (a:ByteArray) (mo sq:Int) (la:Option Addr) (ll lc:Nat) (la':Option Addr) (lc':Nat) (w:World)
 (h1:∀W,Below w.heap.size w W→Calls Tryz.prog 139 #[.slice la ll lc,.slice la' ll lc'] W fun e w'=>e=.returned (.bool true)∧Below W.heap.size W w') :
 Calls Tryz.prog 81 #[.agg #[.string a,.int .i64 mo,.int .i64 sq,.slice la ll lc],.agg #[.string a,.int .i64 mo,.int .i64 sq,.slice la' ll lc']] w fun e w'=>e=.returned (.bool true)∧Below w.heap.size w w':=by
 have H1:=H_ h1
 have HB0:Hid (Below w.heap.size w ((w.alloc (.cells #[.string a,.int .i64 mo,.int .i64 sq,.slice la ll lc] 122)).alloc (.cells #[.string a,.int .i64 mo,.int .i64 sq,.slice la' ll lc'] 122))):=H_ (((Below.refl _ _).alloc (Nat.le_refl _) _).alloc (by simp) _)
 clear h1
 go_enter Tryz.func81,Tryz.ntmps81
 go_wp2_with fail
 refine (H1.out _ HB0.out).mono ?_
 rintro e w1 ⟨rfl,hb1⟩
 have HB1:=H_ (HB0.out.trans (hb1.mono HB0.out.size))
 clear hb1
 go_wp2_with fail
 go_ret
 exact ⟨rfl,HB1.out⟩
theorem eqD_any (v v':Value) (x:D) (w:World) (hl:x.ls.length≤1048576) (h:IsD v x w) (h':IsD v' x w) :
 Calls Tryz.prog 81 #[v,v'] w fun e w'=>e=.returned (.bool true)∧Below w.heap.size w w':=by
 obtain ⟨la,lc,rfl,hL⟩:=h
 obtain ⟨la',lc',rfl,hL'⟩:=h'
 exact eqD_in x.a x.mo x.sq la x.ls.length lc la' lc' w (fun W hW=>eqLis_any la la' lc lc' x.ls W hl (hL.below hW) (hL'.below hW))
end DocR
end Go.Proofs.YtnceeaccbcfopaaGreatDoor
