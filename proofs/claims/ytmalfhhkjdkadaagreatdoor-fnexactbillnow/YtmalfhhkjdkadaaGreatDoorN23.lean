/-
  Periods as keys of a map. The conditions: accounts of at most 1048576 bytes, months that are numbers of 64 bits.
  Lists of documents: read, sized, copied and held against each other by the law. The condition: at most 1048576 documents.
  Lists of documents: the law's own copies, and two lists held against each other. The condition: at most 1048576 documents, each of at most 1048576 lines.
  Sizes of lists of entries and of documents, whatever is left; lists of sources: sizes, the law's own copies. The condition: sizes of at most 1048576.
-/
import Derived.DeepKeys4
import Derived.Maps.OwnSet
import Derived.Deep.RegionWith
import Derived.Test.YtmalfhhkjdkadaaGreatDoorN22
namespace Go.Proofs.YtmalfhhkjdkadaaGreatDoor
open Go.ChangeShapes Go.WideShapes Go.ChangeAt Go.RowKit
set_option linter.unusedVariables false
namespace LedR
open LinR RowG LtR NetR DocR
theorem laidOut:laidOutB Tryz.prog=true:=by kernel_rfl
theorem k1:(70:TypeId)<Tryz.prog.types.size:=of_decide_eq_true (by kernel_rfl)
theorem k2:Tryz.prog.keyTypeAt 2 70=true:=by kernel_rfl
theorem ten:2+1≤10000:=by omega
theorem lawP:WideMaps.KeyLaw Tryz.prog 70:=by
 have h:=@deep_law_laid Tryz.prog laidOut 2 ten 70 k1 k2
 refine h ?_
 rw [Tryz.underlying70]
theorem keyedP:Maps.Keyed Tryz.prog 70:=Maps.Keyed.of_law lawP
theorem hkt:Tryz.prog.keyType 70=true:=by kernel_rfl
theorem hc:Tryz.prog.cellsOf 70=2:=by kernel_rfl
theorem hcs:Tryz.prog.cellsOf 9=1:=by kernel_rfl
theorem hci:Tryz.prog.cellsOf 2=1:=by kernel_rfl
theorem tsz:1≤Tryz.prog.types.size:=of_decide_eq_true (by kernel_rfl)
def kP (a:ByteArray) (m:Int):Lit:=.string (keyBytes [.string a.data.toList,.int .i64 m])
def Good (a:ByteArray) (m:Int):Prop:=a.size≤1048576∧(Lit.int .i64 m).wf=true
theorem keyP_gen {P:Program} {k:TypeId} {f0 f1:Field} (hu:P.underlying k=some (.struct #[f0,f1])) (u0:P.underlying f0.type=some .string) (u1:P.underlying f1.type=some (.int .i64)) (hc:P.cellsOf k=2) (c0:P.cellsOf f0.type=1) (c1:P.cellsOf f1.type=1) (o0:f0.offset=0) (o1:f1.offset=1) (n0:(f0.name != "_")=true) (n1:(f1.name != "_")=true) (hkt:P.keyType k=true) (hn:1≤P.types.size)
 {a:ByteArray} {m:Int} (hs:a.size≤maxLen) (hm:(Lit.int .i64 m).wf=true):keyOf P k (.agg #[.string a,.int .i64 m])=some (kP a m):=by
 have hf:(Value.agg #[.string a,.int .i64 m]).formed P k=true:=by simp [Value.formed,hu,hc]
 obtain ⟨n,hn⟩:∃n,P.types.size=n+1:=⟨P.types.size-1,by omega⟩
 have e:P.keyLits (P.types.size+1) k [.string a,.int .i64 m]=some [.string a.data.toList,.int .i64 m]:=by
  rw [hn]
  simp [Program.keyLits,hu,u0,u1,hs,hm,hc,n0,n1,o0,o1,c0,c1]
 unfold keyOf
 rw [hu]
 simp [hkt,hf,Value.cells,e,kP]
theorem keyP {a:ByteArray} {m:Int} (h:Good a m):keyOf Tryz.prog 70 (.agg #[.string a,.int .i64 m])=some (kP a m) :=
 keyP_gen Tryz.underlying70 Tryz.underlying9 Tryz.underlying2 hc hcs hci rfl rfl rfl rfl hkt tsz (Nat.le_trans h.1 (by unfold maxLen;omega)) h.2
theorem kP_inj {a a':ByteArray} {m m':Int} (h:Good a m) (h':Good a' m') (e:kP a m=kP a' m'):a=a'∧m=m':=by
 have:=keyedP.inj (keyP h) (by rw [e];exact keyP h')
 simpa using this
theorem kP_key (a:ByteArray) (m:Int):WideAt.IsKeyLit (kP a m):=by
 unfold kP
 first|trivial|exact rfl|(simp [WideAt.IsKeyLit])
def RV (v:Value):Option (DataW Value × List MemPlace):=some (.held v,[])
theorem zeroR (w:World):(zeroValue 226).run Tryz.prog w=.ok (.agg #[.int .i64 0,.map none]) w:=by kernel_rfl
def Dcs (ao:Option Addr) (ds:List D) (w:World):Prop:=ds.length=0∨∃b off,ao=some ⟨b,off,none⟩∧b<w.heap.size∧∀j,j<ds.length→∃la lc,w.cell? ⟨b,off+j*4,none⟩=some (.string (ds.getD j D.zero).a)∧w.cell? ⟨b,off+j*4+1,none⟩=some (.int .i64 (ds.getD j D.zero).mo)∧w.cell? ⟨b,off+j*4+2,none⟩=some (.int .i64 (ds.getD j D.zero).sq)∧w.cell? ⟨b,off+j*4+3,none⟩=some (.slice la (ds.getD j D.zero).ls.length lc)∧Lis la (ds.getD j D.zero).ls w
theorem Dcs.below {ao:Option Addr} {ds:List D} {w w':World} (h:Dcs ao ds w) (hb:Below w.heap.size w w'):Dcs ao ds w':=by
 rcases h with h0|⟨b,off,rfl,hl,h⟩
 ·exact .inl h0
 ·refine .inr ⟨b,off,rfl,by have:=hb.size;omega,fun j hj=>?_⟩
  obtain ⟨la,lc,c0,c1,c2,c3,hL⟩:=h j hj
  have f:=fun x=>hb.cell (p:=⟨b,x,none⟩) hl
  exact ⟨la,lc,(f _).trans c0,(f _).trans c1,(f _).trans c2,(f _).trans c3,hL.below hb⟩
theorem Dcs.at {ao:Option Addr} {ds:List D} {w:World} (h:Dcs ao ds w) (j:Nat) (hj:j<ds.length):∃b off la lc,ao=some ⟨b,off,none⟩∧b<w.heap.size∧w.cell? ⟨b,off+j*4,none⟩=some (.string (ds.getD j D.zero).a)∧w.cell? ⟨b,off+j*4+1,none⟩=some (.int .i64 (ds.getD j D.zero).mo)∧w.cell? ⟨b,off+j*4+2,none⟩=some (.int .i64 (ds.getD j D.zero).sq)∧w.cell? ⟨b,off+j*4+3,none⟩=some (.slice la (ds.getD j D.zero).ls.length lc)∧Lis la (ds.getD j D.zero).ls w:=by
 rcases h with h0|⟨b,off,rfl,hl,h⟩
 ·omega
 ·obtain ⟨la,lc,r⟩:=h j hj
  exact ⟨b,off,la,lc,rfl,hl,r⟩
def RowsM (rb M:Nat) (ds:List D) (W:World):Prop:=∃(Dm:DataW Value) (f:ByteArray→Int→Nat),W.ownsMap Tryz.prog 70 RV rb M Dm ∧
 (∀kl,Maps.has Dm kl=true→∃a m,Good a m∧kl=kP a m∧cnt ds a m≠0) ∧
 (∀a m,cnt ds a m≠0→Good a m∧(∀z,Dm.atKey (kP a m) z=.held (.agg #[.int .i64 (cnt ds a m:Nat),.map (some (f a m))]))∧rb<f a m∧f a m<W.heap.size∧∃Dn M',M'≤6*ds.length∧W.ownsMap Tryz.prog 9 (plainElem (H:=Value) Tryz.prog 2) (f a m) M' Dn∧NetM Dn (net ds a m)) ∧
 (∀a m a' m',cnt ds a m≠0→cnt ds a' m'≠0→f a m=f a' m'→a=a'∧m=m')
theorem rows_nil (w:World):RowsM w.heap.size 0 [] (w.alloc (.map #[] 0)) :=
 ⟨.map [],fun _ _=>0,World.ownsMap_made w _ _ _,fun kl h=>by rw [Maps.has_eq] at h;simp at h,fun a m h=>absurd rfl h,fun a m _ _ h=>absurd rfl h⟩
theorem RowsM.kept {rb M:Nat} {ds:List D} {W W':World} (h:RowsM rb M ds W) (hb:Below W.heap.size W W'):RowsM rb M ds W':=by
 obtain ⟨Dm,f,h1,h2,h3,h4⟩:=h
 refine ⟨Dm,f,omap_below h1 hb,h2,fun a m hc=>?_,h4⟩
 obtain ⟨g,p1,p2,p3,Dn,M',p4,p5,p6⟩:=h3 a m hc
 exact ⟨g,p1,p2,by have:=hb.size;omega,Dn,M',p4,omap_below p5 hb,p6⟩
end LedR
end Go.Proofs.YtmalfhhkjdkadaaGreatDoor
namespace Go.Proofs.YtmalfhhkjdkadaaGreatDoor
open Go.ChangeShapes Go.WideShapes Go.ChangeAt Go.RowKit Go.Deep
set_option linter.unusedVariables false
namespace LedR
open LinR RowG LtR NetR DocR
open EvtR (Pt cell_put cell_far)
def IsDcs (w:World) (ao:Option Addr) (ds:List D):Prop:=ds.length≤maxLen∧Dcs ao ds w∧∀d∈ds,d.In∧(Lit.int .i64 d.mo).wf=true
section
variable {J:Type} {enc:TypeId × Value→J} {P:Program} {w:World} {base:Nat} {spare:Nat→Bool} {held:Bool}
theorem doc_wf {t:TypeId} {f0 f1 f2 f3:Field} {fuel:Nat} {cs:List Value} {x:DataW J × List MemPlace} (hs:P.underlying t=some (.struct #[f0,f1,f2,f3])) (hone:oneCellFields P #[f0,f1,f2,f3]=true) (hC:P.cellsOf t=4) (u1:P.underlying f1.type=some (.int .i64))
 (h:DataW.trod enc P w base spare held fuel t cs=some x) (y:D) (la:Option Addr) (lc:Nat) (e:cs=(dcells y la lc).toList):(Lit.int .i64 y.mo).wf=true:=by
 obtain ⟨xs,n,_,_,hl,hlen,hf⟩:=DataW.trod_struct hs h
 obtain ⟨c0,c1,c2,c3,rfl⟩:=lst4 (hl.trans hC)
 obtain ⟨y0,y1,y2,y3,rfl⟩:=lst4 (show xs.length=4 from hlen)
 obtain ⟨o1,k1⟩:=hone_of hone 1 f1 rfl
 have h1:=hf 1 f1 rfl
 simp [o1,k1] at h1
 obtain ⟨p,e1,_,hw⟩:=DataW.trod_int u1 h1
 simp only [List.cons.injEq,and_true] at e1
 simp [dcells] at e
 rw [e1] at e
 have:=e.2.1
 simp at this
 rw [←this]
 exact hw
theorem docs_open {t e te:TypeId} {f0 f1 f2 f3 g0 g1:Field} {fuel:Nat} {ao:Option Addr} {len cap:Nat} {x:DataW J × List MemPlace} (ht:P.underlying t=some (.slice e)) (hs:P.underlying e=some (.struct #[f0,f1,f2,f3])) (hone:oneCellFields P #[f0,f1,f2,f3]=true) (hC:P.cellsOf e=4)
 (u0:P.underlying f0.type=some .string) (u1:P.underlying f1.type=some (.int .i64)) (u2:P.underlying f2.type=some (.int .i64)) (u3:P.underlying f3.type=some (.slice te))
 (hs2:P.underlying te=some (.struct #[g0,g1])) (hone2:oneCellFields P #[g0,g1]=true) (hC2:P.cellsOf te=2) (v0:P.underlying g0.type=some .string) (v1:P.underlying g1.type=some (.int .i64))
 (h:DataW.trod enc P w base spare held fuel t [.slice ao len cap]=some x):∃ds,ds.length=len∧IsDcs w ao ds:=by
 rcases DataW.trod_slice ht h with ⟨hcs,_⟩|⟨a,len',cap',elems,rest,n,_,hcs,_,hb,hl,hm,hlen,hel,_,_⟩
 ·simp only [List.cons.injEq,Value.slice.injEq,and_true] at hcs
  obtain ⟨rfl,rfl,rfl⟩:=hcs
  exact ⟨[],rfl,Nat.zero_le _,.inl rfl,fun e he=>by cases he⟩
 ·simp only [List.cons.injEq,Value.slice.injEq,and_true] at hcs
  obtain ⟨rfl,rfl,rfl⟩:=hcs
  have key:∀i,i<len→∃(X:D) (la:Option Addr) (lc:Nat),X.In∧(Lit.int .i64 X.mo).wf=true∧Lis la X.ls w∧w.cells? base (a.add (i*4)) 4=some (dcells X la lc).toList:=by
   intro i hi
   have h1:=hel i hi
   rw [hC,List.getElem?_eq_getElem (by omega)] at h1
   cases hc:w.cells? base (a.add (i*4)) 4 with
   | none=>rw [hc] at h1;simp at h1
   | some cs =>
    rw [hc] at h1
    simp only [Option.bind_some] at h1
    obtain ⟨X,la,lc,rfl,q1,q2⟩:=doc_open hs hone hC u0 u1 u2 u3 hs2 hone2 hC2 v0 v1 h1
    exact ⟨X,la,lc,q1,doc_wf hs hone hC u1 h1 X la lc rfl,q2,rfl⟩
  have:∃f:Nat→D,∀i,i<len→(f i).In∧(Lit.int .i64 (f i).mo).wf=true∧∃la lc,Lis la (f i).ls w∧w.cells? base (a.add (i*4)) 4=some (dcells (f i) la lc).toList:=by
   refine ⟨fun i=>if hi:i<len then Classical.choose (key i hi) else D.zero,fun i hi=>?_⟩
   simp only [hi,dif_pos]
   obtain ⟨la,lc,q1,q2,q3,q4⟩:=Classical.choose_spec (key i hi)
   exact ⟨q1,q2,la,lc,q3,q4⟩
  obtain ⟨f,hf⟩:=this
  refine ⟨(List.range len).map f,by simp,by simp;omega,?_,fun e he=>?_⟩
  ·by_cases h0:len=0
   ·exact .inl (by simpa using h0)
   ·obtain ⟨b,off,spot⟩:=a
    obtain ⟨_,_,la0,lc0,_,hc00⟩:=hf 0 (by omega)
    have hc0:=LinR.cells_at hc00 0 (by omega)
    have hspot:spot=none:=by
     have:w.cell? ⟨b,off,spot⟩=some (.string (f 0).a):=by simpa [Addr.add,dcells] using hc0
     exact World.cell?_spot this
    subst hspot
    refine .inr ⟨b,off,rfl,?_,fun j hj=>?_⟩
    ·have:w.cell? ⟨b,off,none⟩=some (.string (f 0).a):=by simpa [Addr.add,dcells] using hc0
     exact World.block_lt_of_cell? w _ this
    ·have hj:j<len:=by simpa using hj
     have e:((List.range len).map f).getD j D.zero=f j:=by simp [List.getD,hj]
     rw [e]
     obtain ⟨_,_,la,lc,hL,hcc⟩:=hf j hj
     have g:=fun k (hk:k<4)=>LinR.cells_at hcc k hk
     have ad:∀k,((⟨b,off,none⟩:Addr).add (j*4)).add k=⟨b,off+j*4+k,none⟩:=by
      intro k
      unfold Addr.add
      split<;>split<;>simp_all
     simp only [ad] at g
     exact ⟨la,lc,g 0 (by omega),g 1 (by omega),g 2 (by omega),g 3 (by omega),hL⟩
  ·simp only [List.mem_map,List.mem_range] at he
   obtain ⟨i,hi,rfl⟩:=he
   exact ⟨(hf i hi).1,(hf i hi).2.1⟩
end
def dsS:Int→List D→Int
 | l,[]=>l
 | l,d::ds=>if dszR l d<0 then -1 else dsS (dszR l d) ds
theorem dsS_small:∀{ds:List D} {l:Int},l≤1048576→¬dsS l ds<0→∀d∈ds,d.Sm
 | [],l,_,_,d,h=>by cases h
 | x::ds,l,hl,h,d,hd=>by
  rw [dsS] at h
  by_cases q:dszR l x<0
  ·rw [if_pos q] at h;exact absurd (by omega) h
  ·rw [if_neg q] at h
   obtain ⟨h1,h2⟩:=dsz_small hl q
   rcases List.mem_cons.1 hd with rfl|hd
   ·exact h1
   ·exact dsS_small (by omega) h d hd
def szDR (ds:List D):Int:=if (1048576:Int)-(ds.length:Int)<0 then -1 else dsS (1048576-(ds.length:Int)) ds
theorem szDR_small {ds:List D} (h:¬szDR ds<0):ds.length≤1048576∧∀d∈ds,d.Sm:=by
 unfold szDR at h
 by_cases q:(1048576:Int)-(ds.length:Int)<0
 ·rw [if_pos q] at h;exact absurd (by omega) h
 ·rw [if_neg q] at h
  exact ⟨by omega,dsS_small (by omega) h⟩
theorem drop_more (ds:List D) (k:Nat) (h:k<ds.length):ds.drop k=ds.getD k D.zero::ds.drop (k+1):=by
 rw [List.drop_eq_getElem_cons h]
 simp [List.getD,h]
set_option maxRecDepth 100000 in
set_option maxHeartbeats 4000000 in
theorem szDs (ao:Option Addr) (cap:Nat) (ds:List D) (w:World) (h:IsDcs w ao ds) :
 Calls Tryz.prog 17 #[.slice ao ds.length cap,.int .i64 1048576] w fun e w'=>e=.returned (.int .i64 (szDR ds))∧Below w.heap.size w w':=by
 obtain ⟨hm,hI,hin⟩:=h
 have HI:=hid_intro hI
 have HIn:=hid_intro hin
 have HR:Hid (szDR ds=if (1048576:Int)-(ds.length:Int)<0 then -1 else dsS (1048576-(ds.length:Int)) ds):=rfl
 obtain ⟨len,hl⟩:∃len,len=ds.length:=⟨_,rfl⟩
 rw [←hl] at hm HR ⊢
 have HL:=hid_intro hl
 generalize szDR ds=R at *
 unfold maxLen at hm
 clear hI hin hl
 by_cases hbig:1048576<len
 ·have hl2:(1048576:Int)-(len:Int)<0:=by omega
  have HN:Hid (R=-1):=hid_intro (by rw [HR.out,if_pos hl2])
  go_enter Tryz.func17,Tryz.ntmps17
  go_wp2_with fail
  go_ret
  exact ⟨ret_int HN.out.symm,Below.refl _ _⟩
 have hl2:¬(1048576:Int)-(len:Int)<0:=by omega
 have HN:Hid (R=dsS (1048576-(len:Int)) ds):=hid_intro (by rw [HR.out,if_neg hl2])
 go_enter Tryz.func17,Tryz.ntmps17
 go_wp2_with fail
 go_loopw [5,1] (fun x y wr=>∃(j:Nat) (L:Int),j≤len∧x=.int .i64 j∧y=.int .i64 L∧0≤L∧L≤1048576∧Hid (R=dsS L (ds.drop j))∧Hid (Below w.heap.size w wr)) (fun x _ _=>len-(intOf x).toNat)
 case atStart=>exact ⟨0,1048576-(len:Int),by omega,rfl,rfl,by omega,by omega,HN,hid_intro (Below.refl _ _)⟩
 case round =>
  obtain ⟨j,L,hj,rfl,rfl,l0,l1,HD,HB⟩:=hrel
  by_cases hlt:j<len
  ·have hlt2:(j:Int)<(len:Int):=by omega
   have hkl:j<ds.length:=by have:=HL.out;omega
   obtain ⟨b,off,la,lc,rfl,hbl,c0,c1,c2,c3,hLi⟩:=(HI.out.below HB.out).at j hkl
   have HC:=hid_intro (szD_any (ds.getD j D.zero) la lc L wr l0 l1 (HIn.out _ (getD_mem (z:=D.zero) ds j hkl)).1 hLi)
   rw [drop_more ds j hkl] at HD
   have HSM:Hid (¬dszR L (ds.getD j D.zero)<0→dszR L (ds.getD j D.zero)≤1048576):=hid_intro (fun h=>by have:=(dsz_small l1 h).2;omega)
   generalize ds.getD j D.zero=X at *
   obtain ⟨xa,xm,xs,xl⟩:=X
   have HD2:Hid (R=if dszR L ⟨xa,xm,xs,xl⟩<0 then -1 else dsS (dszR L ⟨xa,xm,xs,xl⟩) (ds.drop (j+1))):=HD
   unfold dcells at HC
   dsimp only at c0 c1 c2 c3 HC
   generalize dszR L ⟨xa,xm,xs,xl⟩=L2 at *
   generalize xl.length=ll at *
   clear hLi HD
   by_cases hs:L2<0
   ·have HN2:Hid (R=-1):=hid_intro (by rw [HD2.out,if_pos hs])
    go_wp2_with fail
    refine HC.out.mono ?_
    rintro e w1 ⟨rfl,hb⟩
    have HB1:=hid_intro (HB.out.trans (hb.mono HB.out.size))
    clear hb
    go_wp2_with fail
    go_ret
    exact ⟨ret_int HN2.out.symm,HB1.out⟩
   ·have HN2:Hid (R=dsS L2 (ds.drop (j+1))):=hid_intro (by rw [HD2.out,if_neg hs])
    have hs2:=HSM.out hs
    go_wp2_with fail
    refine HC.out.mono ?_
    rintro e w1 ⟨rfl,hb⟩
    have HB1:=hid_intro (HB.out.trans (hb.mono HB.out.size))
    clear hb
    go_wp2_with fail
    go_roundw
    case rel=>exact ⟨j+1,L2,by omega,by go_num,rfl,by omega,hs2,HN2,HB1⟩
    case measure=>simp [intOf];omega
  ·have hlt2:¬(j:Int)<(len:Int):=by omega
   obtain rfl:j=len:=by omega
   have HN2:Hid (R=L):=hid_intro (by rw [HD.out,List.drop_of_length_le (by have:=HL.out;omega)];rfl)
   go_wp2_with fail
   go_ret
   exact ⟨ret_int HN2.out.symm,HB.out⟩
end LedR
namespace LedR
open LinR RowG LtR NetR DocR
open EvtR (Pt cell_put cell_far)
theorem infoD:(Tryz.prog.info? 133).map (fun i=>(i.zero,i.size,i.bytes))=some (some (.agg #[.string ⟨#[]⟩,.int .i64 0,.int .i64 0,.slice none 0 0]),4,56):=by kernel_rfl
theorem pt_any {p q n o:Nat} {W:World} {v:Value} (h:Pt p n W):Pt p n (W.setCell ⟨q,o,none⟩ v):=by
 by_cases e:p=q
 ·subst e;exact h.set _ _
 ·have eb:(W.setCell ⟨q,o,none⟩ v).heap[p]? = W.heap[p]?:=by
   simp only [World.setCell]
   rw [Array.getElem?_modify,if_neg (fun e2=>e e2.symm)]
  exact ⟨by have:=h.lt;simpa using this,fun x hx=>by obtain ⟨u,hu⟩:=h.has x hx;exact ⟨u,(World.cell?_of_block (a:=⟨p,x,none⟩) eb).trans hu⟩,fun x hx=>(World.frozen?_of_block (a:=⟨p,x,none⟩) eb).trans (h.free x hx)⟩
theorem ne_of {la:Option Addr} {n g:Nat} {W:World} (h:n=0∨∃g',la=some ⟨g',0,none⟩∧g<g'∧g'<W.heap.size∧Pt g' (n*2) W):n=0∨∀b off,la=some ⟨b,off,none⟩→b≠g :=
 h.imp id (fun ⟨g',e1,e2,_⟩ b off e3=>by rw [e1] at e3;simp at e3;omega)
theorem own_put {la:Option Addr} {n g q o:Nat} {W:World} {v:Value} (h:n=0∨∃g',la=some ⟨g',0,none⟩∧g<g'∧g'<W.heap.size∧Pt g' (n*2) W):n=0∨∃g',la=some ⟨g',0,none⟩∧g<g'∧g'<(W.setCell ⟨q,o,none⟩ v).heap.size∧Pt g' (n*2) (W.setCell ⟨q,o,none⟩ v) :=
 h.imp id (fun ⟨g',e1,e2,e3,e4⟩=>⟨g',e1,e2,by simpa using e3,pt_any e4⟩)
def DW (g k:Nat) (ds:List D) (W:World):Prop:=∀j,j<k→∃la lc,W.cell? ⟨g,j*4,none⟩=some (.string (ds.getD j D.zero).a)∧W.cell? ⟨g,j*4+1,none⟩=some (.int .i64 (ds.getD j D.zero).mo)∧W.cell? ⟨g,j*4+2,none⟩=some (.int .i64 (ds.getD j D.zero).sq)∧W.cell? ⟨g,j*4+3,none⟩=some (.slice la (ds.getD j D.zero).ls.length lc)∧Lis la (ds.getD j D.zero).ls W∧((ds.getD j D.zero).ls.length=0∨∃g',la=some ⟨g',0,none⟩∧g<g'∧g'<W.heap.size∧Pt g' ((ds.getD j D.zero).ls.length*2) W)
theorem DW.below {g k:Nat} {ds:List D} {W W':World} (h:DW g k ds W) (hg:g<W.heap.size) (hb:Below W.heap.size W W'):DW g k ds W':=by
 intro j hj
 obtain ⟨la,lc,c0,c1,c2,c3,hL,hn⟩:=h j hj
 have f:=fun x=>hb.cell (p:=⟨g,x,none⟩) hg
 exact ⟨la,lc,(f _).trans c0,(f _).trans c1,(f _).trans c2,(f _).trans c3,hL.below hb,hn.imp id (fun ⟨g',e1,e2,e3,e4⟩=>⟨g',e1,e2,by have:=hb.size;omega,e4.below hb⟩)⟩
theorem DW.put {g k o:Nat} {ds:List D} {W:World} (h:DW g k ds W) (ho:k*4≤o) (v:Value):DW g k ds (W.setCell ⟨g,o,none⟩ v):=by
 intro j hj
 obtain ⟨la,lc,c0,c1,c2,c3,hL,hn⟩:=h j hj
 exact ⟨la,lc,(cell_far _ _ (by omega) v).trans c0,(cell_far _ _ (by omega) v).trans c1,(cell_far _ _ (by omega) v).trans c2,(cell_far _ _ (by omega) v).trans c3,DocR.Rws.put hL g o v (ne_of hn),own_put hn⟩
theorem DW.more {g k n:Nat} {ds:List D} {W:World} (h:DW g k ds W) (hp:Pt g n W) (hk:k*4+3<n) (la:Option Addr) (lc:Nat) (hL:Lis la (ds.getD k D.zero).ls W) (hn:(ds.getD k D.zero).ls.length=0∨∃g',la=some ⟨g',0,none⟩∧g<g'∧g'<W.heap.size∧Pt g' ((ds.getD k D.zero).ls.length*2) W) :
 DW g (k+1) ds ((((W.setCell ⟨g,k*4,none⟩ (.string (ds.getD k D.zero).a)).setCell ⟨g,k*4+1,none⟩ (.int .i64 (ds.getD k D.zero).mo)).setCell ⟨g,k*4+2,none⟩ (.int .i64 (ds.getD k D.zero).sq)).setCell ⟨g,k*4+3,none⟩ (.slice la (ds.getD k D.zero).ls.length lc)):=by
 intro j hj
 by_cases e:j=k
 ·subst e
  have p1:=hp.set (j*4) (.string (ds.getD j D.zero).a)
  have p2:=p1.set (j*4+1) (.int .i64 (ds.getD j D.zero).mo)
  have p3:=p2.set (j*4+2) (.int .i64 (ds.getD j D.zero).sq)
  refine ⟨la,lc,?_,?_,?_,cell_put p3 _ hk _,DocR.Rws.put (DocR.Rws.put (DocR.Rws.put (DocR.Rws.put hL g _ _ (ne_of hn)) g _ _ (ne_of hn)) g _ _ (ne_of hn)) g _ _ (ne_of hn),own_put (own_put (own_put (own_put hn)))⟩
  ·rw [cell_far _ _ (by omega),cell_far _ _ (by omega),cell_far _ _ (by omega),cell_put hp _ (by omega)]
  ·rw [cell_far _ _ (by omega),cell_far _ _ (by omega),cell_put p1 _ (by omega)]
  ·rw [cell_far _ _ (by omega),cell_put p2 _ (by omega)]
 ·exact ((((h.put (by omega) _).put (by omega) _).put (by omega) _).put (by omega) _) j (by omega)
theorem DW.dcs {g:Nat} {ds:List D} {W:World} (h:DW g ds.length ds W) (hg:g<W.heap.size):Dcs (some ⟨g,0,none⟩) ds W:=.inr ⟨g,0,rfl,hg,fun j hj=>by
 obtain ⟨la,lc,c0,c1,c2,c3,hL,_⟩:=h j hj
 exact ⟨la,lc,by rw [Nat.zero_add];exact c0,by rw [Nat.zero_add];exact c1,by rw [Nat.zero_add];exact c2,by rw [Nat.zero_add];exact c3,hL⟩⟩
def DY (g top k:Nat) (ds:List D) (W:World):Prop:=∀j,j<k→∃la lc,W.cell? ⟨g,j*4+3,none⟩=some (.slice la (ds.getD j D.zero).ls.length lc)∧((ds.getD j D.zero).ls.length=0∨∃g',la=some ⟨g',0,none⟩∧g<g'∧g'<top∧Pt g' ((ds.getD j D.zero).ls.length*2) W)
theorem DW.dy {g k:Nat} {ds:List D} {W:World} (h:DW g k ds W):DY g W.heap.size k ds W:=fun j hj=>by
 obtain ⟨la,lc,_,_,_,c3,_,hn⟩:=h j hj
 exact ⟨la,lc,c3,hn⟩
set_option maxRecDepth 100000 in
set_option maxHeartbeats 4000000 in
theorem toDsM (ao:Option Addr) (cap:Nat) (ds:List D) (w:World) (hlen:ds.length≤1048576) (hSm:∀d∈ds,d.Sm) (hI:Dcs ao ds w) :
 Calls Tryz.prog 27 #[.slice ao ds.length cap] w fun e w'=>e=.returned (.slice (some ⟨w.heap.size,0,none⟩) ds.length ds.length)∧Dcs (some ⟨w.heap.size,0,none⟩) ds w'∧Below w.heap.size w w'∧Pt w.heap.size (ds.length*4) w'∧DW w.heap.size ds.length ds w':=by
 obtain ⟨i0,hi,hz0,hz1,hz2⟩:=info_parts infoD
 have HI:=hid_intro hI
 have HSm:=hid_intro hSm
 obtain ⟨len,hl⟩:∃len,len=ds.length:=⟨_,rfl⟩
 have HEND:Hid (∀W,DW w.heap.size len ds W→w.heap.size<W.heap.size→Dcs (some ⟨w.heap.size,0,none⟩) ds W):=hid_intro (fun W h hg=>by rw [hl] at h;exact h.dcs hg)
 rw [←hl] at hlen ⊢
 have HL:=hid_intro hl
 clear hI hl hSm
 go_enter Tryz.func27,Tryz.ntmps27
 go_wp2_with (at_make;refine wpList_make_full _ rfl _ _ 44 rfl w.heap.size 133 i0 (.agg #[.string ⟨#[]⟩,.int .i64 0,.int .i64 0,.slice none 0 0]) 4 Tryz.underlying44 hi hz0 hz1 .i64 .i64 _ _ len rfl rfl rfl rfl ?b2 ?b3 ?b4 ?_)
 case b2=>rw [hz2];omega
 case b3=>unfold maxLen;omega
 case b4=>exact Nat.le_refl _
 intro wm hown hgrow
 have HB0:Hid (Below w.heap.size w wm):=hid_intro ((Below.refl _ _).grown hgrow (Nat.le_refl _) (fun k e=>by cases e))
 have HP0:=hid_intro (row_fullL hown)
 clear hown hgrow hi hz0 hz1 hz2
 go_wp2_with fail
 go_loopw [4] (fun z wr=>∃k:Nat,k≤len∧z=.int .i64 k∧Hid (Below w.heap.size w wr)∧Hid (Pt w.heap.size (len*4) wr)∧Hid (DW w.heap.size k ds wr)) (fun z _=>len-(intOf z).toNat)
 case atStart=>exact ⟨0,by omega,rfl,HB0,HP0,hid_intro (fun j hj=>absurd hj (by omega))⟩
 case round =>
  obtain ⟨k,hk,rfl,HB,HP,HW⟩:=hrel
  by_cases hlt:k<len
  ·have hlt2:(k:Int)<(len:Int):=by omega
   have hkl:k<ds.length:=by have:=HL.out;omega
   obtain ⟨b,off,la,lc,rfl,hbl,c0,c1,c2,c3,hLi⟩:=(HI.out.below HB.out).at k hkl
   have hsm:=HSm.out _ (getD_mem (z:=D.zero) ds k hkl)
   have HC:=hid_intro (toD_any (.agg (dcells (ds.getD k D.zero) la lc)) (ds.getD k D.zero) wr hsm.2.1 ⟨la,lc,rfl,hLi⟩)
   have HMORE:=hid_intro (fun (W:World) (h:DW w.heap.size k ds W) (hp:Pt w.heap.size (len*4) W) la lc hL hn=>h.more hp (by omega) la lc hL hn)
   obtain ⟨X,hX⟩:∃X,X=ds.getD k D.zero:=⟨_,rfl⟩
   rw [←hX] at c0 c1 c2 c3 HC HMORE
   clear hX hsm hLi
   obtain ⟨xa,xm,xs,xl⟩:=X
   unfold dcells at HC
   dsimp only at c0 c1 c2 c3 HC HMORE
   have hsz0:=HP.out.lt
   go_wp2_with fail
   refine HC.out.mono ?_
   rintro e w1 ⟨v,rfl,⟨la1,lc1,rfl,hm⟩,hb⟩
   replace HW:=hid_intro (HW.out.below hsz0 hb)
   replace HP:=hid_intro (HP.out.below hb)
   replace HB:=hid_intro (HB.out.trans (hb.mono HB.out.size))
   have HM1:=hid_intro (HMORE.out w1 HW.out HP.out la1 lc1 hm.rws (hm.own.imp id (fun ⟨g',e1,e2,e3⟩=>⟨g',e1,by omega,e3.lt,e3⟩)))
   have HP1:=hid_intro ((((HP.out.set (k*4) (.string xa)).set (k*4+1) (.int .i64 xm)).set (k*4+2) (.int .i64 xs)).set (k*4+3) (.slice la1 xl.length lc1))
   have HB1:Hid (Below w.heap.size w ((((w1.setCell ⟨w.heap.size,k*4,none⟩ (.string xa)).setCell ⟨w.heap.size,k*4+1,none⟩ (.int .i64 xm)).setCell ⟨w.heap.size,k*4+2,none⟩ (.int .i64 xs)).setCell ⟨w.heap.size,k*4+3,none⟩ (.slice la1 xl.length lc1))):=hid_intro ((((HB.out.setCell (Nat.le_refl _) _).setCell (Nat.le_refl _) _).setCell (Nat.le_refl _) _).setCell (Nat.le_refl _) _)
   obtain ⟨v0,d0⟩:=HP.out.has (k*4) (by omega)
   obtain ⟨v1,d1⟩:=HP.out.has (k*4+1) (by omega)
   obtain ⟨v2,d2⟩:=HP.out.has (k*4+2) (by omega)
   obtain ⟨v3,d3⟩:=HP.out.has (k*4+3) (by omega)
   have z0:=HP.out.free (k*4) (by omega)
   have z1:=HP.out.free (k*4+1) (by omega)
   have z2:=HP.out.free (k*4+2) (by omega)
   have z3:=HP.out.free (k*4+3) (by omega)
   have hsz1:=HP.out.lt
   unfold dcells
   dsimp only
   clear hb hm c0 c1 c2 c3 HMORE hsz0
   generalize xl.length=ll at *
   go_wp2_with fail
   go_roundw
   case rel=>exact ⟨k+1,by omega,by go_num,HB1,HP1,HM1⟩
   case measure=>simp [intOf];omega
  ·have hlt2:¬(k:Int)<(len:Int):=by omega
   obtain rfl:k=len:=by omega
   go_wp2_with fail
   go_ret
   exact ⟨rfl,HEND.out _ HW.out HP.out.lt,HB.out,HP.out,HW.out⟩
theorem toDs (ao:Option Addr) (cap:Nat) (ds:List D) (w:World) (hlen:ds.length≤1048576) (hSm:∀d∈ds,d.Sm) (hI:Dcs ao ds w) :
 Calls Tryz.prog 27 #[.slice ao ds.length cap] w fun e w'=>e=.returned (.slice (some ⟨w.heap.size,0,none⟩) ds.length ds.length)∧Dcs (some ⟨w.heap.size,0,none⟩) ds w'∧Below w.heap.size w w' :=
 (toDsM ao cap ds w hlen hSm hI).mono fun e w' h=>⟨h.1,h.2.1,h.2.2.1⟩
set_option maxRecDepth 100000 in
set_option maxHeartbeats 4000000 in
theorem eqDs (ao bo:Option Addr) (cap cap':Nat) (ds:List D) (w:World) (hlen:ds.length≤1048576) (hSm:∀d∈ds,d.Sm) (hI:Dcs ao ds w) (hJ:Dcs bo ds w) :
 Calls Tryz.prog 35 #[.slice ao ds.length cap,.slice bo ds.length cap'] w fun e w'=>e=.returned (.bool true)∧Below w.heap.size w w':=by
 have HI:=hid_intro hI
 have HJ:=hid_intro hJ
 have HSm:=hid_intro hSm
 obtain ⟨len,hl⟩:∃len,len=ds.length:=⟨_,rfl⟩
 rw [←hl] at hlen ⊢
 have HL:=hid_intro hl
 clear hI hJ hl hSm
 go_enter Tryz.func35,Tryz.ntmps35
 go_wp2_with fail
 go_loopw [5] (fun z wr=>∃k:Nat,k≤len∧z=.int .i64 k∧Hid (Below w.heap.size w wr)) (fun z _=>len-(intOf z).toNat)
 case atStart=>exact ⟨0,by omega,rfl,hid_intro (Below.refl _ _)⟩
 case round =>
  obtain ⟨k,hk,rfl,HW⟩:=hrel
  by_cases hlt:k<len
  ·have hlt2:(k:Int)<(len:Int):=by omega
   have hkl:k<ds.length:=by have:=HL.out;omega
   obtain ⟨b,off,la,lc,rfl,_,c0,c1,c2,c3,hLi⟩:=(HI.out.below HW.out).at k hkl
   obtain ⟨b',off',la',lc',rfl,_,e0,e1,e2,e3,hLi'⟩:=(HJ.out.below HW.out).at k hkl
   have hsm:=HSm.out _ (getD_mem (z:=D.zero) ds k hkl)
   have HC:=hid_intro (eqD_any (.agg (dcells (ds.getD k D.zero) la lc)) (.agg (dcells (ds.getD k D.zero) la' lc')) (ds.getD k D.zero) wr.drew hsm.2.1 ⟨la,lc,rfl,hLi.below (Below.refl _ _).drew⟩ ⟨la',lc',rfl,hLi'.below (Below.refl _ _).drew⟩)
   generalize ds.getD k D.zero=X at *
   obtain ⟨xa,xm,xs,xl⟩:=X
   unfold dcells at HC
   dsimp only at c0 c1 c2 c3 e0 e1 e2 e3 HC
   clear hsm hLi hLi'
   generalize xl.length=ll at *
   go_wp2_with fail
   go_region_with (go_at_call 83;refine HC.out.mono ?_;rintro e w1 ⟨rfl,hb⟩)
   all_goals (
    have HB1:=hid_intro (HW.out.drew.trans (hb.mono HW.out.drew.size))
    clear hb c0 c1 c2 c3 e0 e1 e2 e3
    go_wp2_with fail
    go_roundw
    case rel=>exact ⟨k+1,by omega,by go_num,HB1⟩
    case measure=>simp [intOf];omega)
  ·have hlt2:¬(k:Int)<(len:Int):=by omega
   go_wp2_with fail
   go_ret
   exact ⟨rfl,HW.out⟩
end LedR
end Go.Proofs.YtmalfhhkjdkadaaGreatDoor
namespace Go.Proofs.YtmalfhhkjdkadaaGreatDoor
open Go.ChangeShapes Go.WideShapes Go.ChangeAt Go.RowKit
set_option linter.unusedVariables false
namespace CatR
open EvtR (Pt cell_put cell_far)
theorem infoSrc:(Tryz.prog.info? 128).map (fun i=>(i.zero,i.size,i.bytes))=some (some (.agg #[.string ⟨#[]⟩,.int .i64 0]),2,24):=by kernel_rfl
theorem szSr_any (a:ByteArray) (m left:Int) (ha:a.size≤maxLen) (h0:0≤left) (h1:left≤1048576) (w:World) :
 Calls Tryz.prog 45 #[.agg #[.string a,.int .i64 m],.int .i64 left] w fun e w'=>e=.returned (.int .i64 (if (a.size:Int)≤left then left-a.size else -1))∧Below w.heap.size w w':=by
 unfold maxLen at ha
 have HB:=hid_intro ((Below.refl w.heap.size w).alloc (Nat.le_refl _) (Obj.cells #[.string a,.int .i64 m] 87))
 by_cases h:(a.size:Int)≤left
 ·rw [if_pos h]
  have g:¬left-(a.size:Int)<0:=by omega
  go_enter Tryz.func45,Tryz.ntmps45
  go_wp2_with fail
  go_ret
  exact ⟨rfl,HB.out⟩
 ·rw [if_neg h]
  have g:left-(a.size:Int)<0:=by omega
  go_enter Tryz.func45,Tryz.ntmps45
  go_wp2_with fail
  go_ret
  exact ⟨rfl,HB.out⟩
set_option maxRecDepth 100000 in
set_option maxHeartbeats 4000000 in
theorem szSrs_any (ao:Option Addr) (len cap:Nat) (cs:List Cr) (left:Int) (w:World) (hm:len≤maxLen) (h0:0≤left) (h1:left≤1048576) (hI:Crs ao len cs w) (hin:∀i,i<len→(cs.getD i Cr.zero).a.size≤maxLen) :
 Calls Tryz.prog 14 #[.slice ao len cap,.int .i64 left] w fun e w'=>SzOut left (len≤1048576∧∀i,i<len→(cs.getD i Cr.zero).a.size≤1048576) e∧Below w.heap.size w w':=by
 have HI:=hid_intro hI
 have HN:=hid_intro hin
 clear hI hin
 unfold maxLen at hm
 by_cases hl:left-(len:Int)<0
 ·go_enter Tryz.func14,Tryz.ntmps14
  go_wp2_with fail
  go_ret
  exact ⟨⟨-1,rfl,.inl rfl⟩,Below.refl _ _⟩
 ·go_enter Tryz.func14,Tryz.ntmps14
  go_wp2_with fail
  go_loopw [5,1] (fun x y wr=>∃(j:Nat) (L:Int),j≤len∧x=.int .i64 j∧y=.int .i64 L∧0≤L∧L≤left∧Hid (∀i,i<j→(cs.getD i Cr.zero).a.size≤1048576)∧Hid (Below w.heap.size w wr)) (fun x y _=>len-(intOf x).toNat)
  case atStart=>exact ⟨0,left-(len:Int),Nat.zero_le _,rfl,rfl,by omega,by omega,hid_intro (fun i hi=>absurd hi (by omega)),hid_intro (Below.refl _ _)⟩
  case round =>
   obtain ⟨j,L,hj,rfl,rfl,l0,l1,HL,HB⟩:=hrel
   by_cases hlt:j<len
   ·obtain ⟨b,off,rfl,hbl,c0,c1⟩:=crs_at (HI.out.below HB.out) j hlt
    have q1:=HN.out j hlt
    have HM:=hid_intro (fun h=>small_moreC HL.out (k:=j) h)
    generalize (cs.getD j Cr.zero)=X at *
    obtain ⟨a,m⟩:=X
    simp only at c0 c1 q1 HM
    have HC:=hid_intro (fun w=>szSr_any a m L q1 l0 (by omega) w)
    have hlt2:(j:Int)<(len:Int):=by omega
    clear q1
    by_cases hs:(a.size:Int)≤L
    ·rw [if_pos hs] at HC
     have r0:0≤L-(a.size:Int):=by omega
     have r1:L-(a.size:Int)≤left:=by omega
     have HN1:=hid_intro (HM.out (by omega))
     generalize L-(a.size:Int)=L2 at *
     clear hs
     go_wp2_with fail
     refine (HC.out _).mono ?_
     rintro e w1 ⟨rfl,hb⟩
     have HB1:=hid_intro (HB.out.trans (hb.mono HB.out.size))
     clear hb c0 c1
     have r2:¬L2<0:=by omega
     go_wp2_with fail
     go_roundw
     case rel=>exact ⟨j+1,L2,by omega,by go_num,rfl,r0,r1,HN1,HB1⟩
     case measure=>simp [intOf];omega
    ·rw [if_neg hs] at HC
     go_wp2_with fail
     refine (HC.out _).mono ?_
     rintro e w1 ⟨rfl,hb⟩
     have HB1:=hid_intro (HB.out.trans (hb.mono HB.out.size))
     clear hb c0 c1
     go_wp2_with fail
     go_ret
     exact ⟨⟨-1,rfl,.inl rfl⟩,HB1.out⟩
   ·obtain rfl:j=len:=by omega
    go_wp2_with fail
    go_ret
    exact ⟨⟨L,rfl,.inr ⟨l0,l1,by omega,HL.out⟩⟩,HB.out⟩
theorem toSr_any (u:ByteArray) (p:Int) (w:World):Calls Tryz.prog 65 #[.agg #[.string u,.int .i64 p]] w fun e w'=>e=.returned (.agg #[.string u,.int .i64 p])∧Below w.heap.size w w':=by
 go_enter Tryz.func65,Tryz.ntmps65
 go_wp2_with fail
 refine bodyPost_ret (v:=.agg #[.string u,.int .i64 p]) (by simp [results,Tryz.results65,go_sem]) rfl ⟨rfl,?_⟩
 repeat' first|exact Below.refl _ _|apply Below.setCell|apply Below.alloc
 all_goals first|omega|(simp;done)|(simp;omega)
set_option maxRecDepth 100000 in
set_option maxHeartbeats 4000000 in
theorem toSrs_any (ao:Option Addr) (len cap:Nat) (ts:List Cr) (w:World) (hlen:len≤1048576) (hI:Crs ao len ts w) :
 Calls Tryz.prog 24 #[.slice ao len cap] w fun e w'=>e=.returned (.slice (some ⟨w.heap.size,0,none⟩) len len)∧Crs (some ⟨w.heap.size,0,none⟩) len ts w'∧Pt w.heap.size (len*2) w'∧Below w.heap.size w w':=by
 obtain ⟨i0,hi,hz0,hz1,hz2⟩:=info_parts infoSrc
 have HI:=hid_intro hI
 clear hI
 go_enter Tryz.func24,Tryz.ntmps24
 go_wp2_with (at_make;refine wpList_make_full _ rfl _ _ 41 rfl w.heap.size 128 i0 (.agg #[.string ⟨#[]⟩,.int .i64 0]) 2 Tryz.underlying41 hi hz0 hz1 .i64 .i64 _ _ len rfl rfl rfl rfl ?b2 ?b3 ?b4 ?_)
 case b2=>rw [hz2];omega
 case b3=>unfold maxLen;omega
 case b4=>exact Nat.le_refl _
 intro wm hown hgrow
 have HP:=hid_intro (row_full hown)
 have HB:Hid (Below w.heap.size w wm):=hid_intro ((Below.refl _ _).grown hgrow (Nat.le_refl _) (fun k e=>by cases e))
 clear hown hgrow hi hz0 hz1 hz2
 go_wp2_with fail
 go_loopw [4] (fun z wr=>∃k:Nat,k≤len∧z=.int .i64 k∧Hid (Below w.heap.size w wr)∧Hid (Pt w.heap.size (len*2) wr)∧Hid (∀i,i<k→CrAt wr w.heap.size (i*2) (ts.getD i Cr.zero))) (fun z _=>len-(intOf z).toNat)
 case atStart=>exact ⟨0,by omega,rfl,HB,HP,hid_intro (fun i hi=>absurd hi (by omega))⟩
 case round =>
  obtain ⟨k,hk,rfl,HB,HP,HA⟩:=hrel
  by_cases hlt:k<len
  ·have hlt2:(k:Int)<(len:Int):=by omega
   obtain ⟨b,off,rfl,hbl,c0,c1⟩:=crs_at (HI.out.below HB.out) k hlt
   have HS:=hid_intro (fun W hp ha=>crs_set (wr:=W) (g:=w.heap.size) (n:=len) (k:=k) (ts:=ts) hp hlt ha)
   generalize (ts.getD k Cr.zero)=X at *
   obtain ⟨u,p⟩:=X
   have HC:=hid_intro (fun w=>toSr_any u p w)
   have HS:Hid (∀W,Pt w.heap.size (len*2) W→(∀i,i<k→CrAt W w.heap.size (i*2) (ts.getD i Cr.zero))→Pt w.heap.size (len*2) ((W.setCell ⟨w.heap.size,k*2,none⟩ (.string u)).setCell ⟨w.heap.size,k*2+1,none⟩ (.int .i64 p))∧∀i,i<k+1→CrAt ((W.setCell ⟨w.heap.size,k*2,none⟩ (.string u)).setCell ⟨w.heap.size,k*2+1,none⟩ (.int .i64 p)) w.heap.size (i*2) (ts.getD i Cr.zero)):=HS
   go_wp2_with fail
   refine (HC.out _).mono ?_
   rintro e w1 ⟨rfl,hb⟩
   have HP1:=hid_intro (HP.out.below hb)
   have HA1:Hid (∀i,i<k→CrAt w1 w.heap.size (i*2) (ts.getD i Cr.zero)):=hid_intro (fun i hi=>(HA.out i hi).below HP.out.lt hb)
   have HB1:=hid_intro (HB.out.trans (hb.mono HB.out.size))
   have HS1:=hid_intro (HS.out _ HP1.out HA1.out)
   obtain ⟨v0,d0⟩:=HP1.out.has (k*2) (by omega)
   obtain ⟨v1,d1⟩:=HP1.out.has (k*2+1) (by omega)
   have z0:=HP1.out.free (k*2) (by omega)
   have z1:=HP1.out.free (k*2+1) (by omega)
   clear hb c0 c1
   go_wp2_with fail
   go_roundw
   case rel=>exact ⟨k+1,by omega,by go_num,hid_intro ((HB1.out.setCell (Nat.le_refl _) _).setCell (Nat.le_refl _) _),hid_intro HS1.out.1,hid_intro HS1.out.2⟩
   case measure=>simp [intOf];omega
  ·have hlt2:¬(k:Int)<(len:Int):=by omega
   obtain rfl:k=len:=by omega
   go_wp2_with fail
   go_ret
   exact ⟨rfl,⟨HI.out.1,.inr ⟨w.heap.size,0,rfl,HP.out.lt,fun j hj=>by rw [Nat.zero_add];exact HA.out j hj⟩⟩,HP.out,HB.out⟩
end CatR
namespace SeenR
open CatR (SzOut)
open RowG
set_option maxRecDepth 100000 in
set_option maxHeartbeats 4000000 in
theorem szEns (ao:Option Addr) (cap:Nat) (es:List N) (left:Int) (w:World) (hm:es.length≤maxLen) (h0:0≤left) (h1:left≤1048576) (hI:Ens ao es w) (hin:∀e∈es,e.i.size≤maxLen) :
 Calls Tryz.prog 15 #[.slice ao es.length cap,.int .i64 left] w fun e w'=>SzOut left (es.length≤1048576∧∀e∈es,e.i.size≤1048576) e∧Below w.heap.size w w':=by
 have HI:=hid_intro hI
 have HIn:=hid_intro hin
 have HEND:Hid (∀L:Int,es.length≤1048576→(∀i,i<es.length→(fun e:N=>e.i.size≤1048576) (es.getD i N.zero))→0≤L→L≤left→SzOut left (es.length≤1048576∧∀e∈es,e.i.size≤1048576) (.returned (.int .i64 L))):=hid_intro (fun L a b c d=>⟨L,rfl,.inr ⟨c,d,a,fun e he=>by
  obtain ⟨i,hi,rfl⟩:=List.getElem_of_mem he
  have:=b i hi
  rwa [show es.getD i N.zero=es[i] by simp [List.getD,hi]] at this⟩⟩)
 have HBAD:Hid (SzOut left (es.length≤1048576∧∀e∈es,e.i.size≤1048576) (.returned (.int .i64 (-1)))):=hid_intro ⟨-1,rfl,.inl rfl⟩
 generalize SzOut left (es.length≤1048576∧∀e∈es,e.i.size≤1048576)=PO at *
 obtain ⟨len,hl⟩:∃len,len=es.length:=⟨_,rfl⟩
 rw [←hl] at hm HEND ⊢
 have HL:=hid_intro hl
 unfold maxLen at hm
 clear hI hin hl
 by_cases hbig:left-(len:Int)<0
 ·go_enter Tryz.func15,Tryz.ntmps15
  go_wp2_with fail
  go_ret
  exact ⟨HBAD.out,Below.refl _ _⟩
 go_enter Tryz.func15,Tryz.ntmps15
 go_wp2_with fail
 go_loopw [5,1] (fun x y wr=>∃(j:Nat) (L:Int),j≤len∧x=.int .i64 j∧y=.int .i64 L∧0≤L∧L≤left∧Hid (∀i,i<j→(fun e:N=>e.i.size≤1048576) (es.getD i N.zero))∧Hid (Below w.heap.size w wr)) (fun x _ _=>len-(intOf x).toNat)
 case atStart=>exact ⟨0,left-(len:Int),by omega,rfl,rfl,by omega,by omega,hid_intro (fun i hi=>absurd hi (by omega)),hid_intro (Below.refl _ _)⟩
 case round =>
  obtain ⟨j,L,hj,rfl,rfl,l0,l1,HD,HB⟩:=hrel
  by_cases hlt:j<len
  ·have hlt2:(j:Int)<(len:Int):=by omega
   have hkl:j<es.length:=by have:=HL.out;omega
   obtain ⟨b,off,rfl,hbl,c0,c1,c2⟩:=(HI.out.below HB.out).at j hkl
   have hx:=HIn.out _ (RowG.getD_mem (z:=N.zero) es j hkl)
   have HMR:Hid ((fun e:N=>e.i.size≤1048576) (es.getD j N.zero)→∀i,i<j+1→(fun e:N=>e.i.size≤1048576) (es.getD i N.zero)):=hid_intro (fun h i hi=>by
    by_cases e:i=j
    ·subst e;exact h
    ·exact HD.out i (by omega))
   generalize hX:es.getD j N.zero=X at *
   clear hX
   obtain ⟨xi,xn,xs⟩:=X
   dsimp only at c0 c1 c2 hx HMR
   have HC:=hid_intro (sz_any xi xn xs L hx l0 (by omega) wr)
   have HSM:Hid (¬(if (xi.size:Int)≤L then L-(xi.size:Int) else -1)<0→0≤(if (xi.size:Int)≤L then L-(xi.size:Int) else -1)∧(if (xi.size:Int)≤L then L-(xi.size:Int) else -1)≤L∧xi.size≤1048576):=hid_intro (fun h=>by split at h<;>split<;>omega)
   generalize (if (xi.size:Int)≤L then L-(xi.size:Int) else -1)=L2 at *
   clear hx
   clear HD
   by_cases hs:L2<0
   ·go_wp2_with fail
    refine HC.out.mono ?_
    rintro e w1 ⟨rfl,hb⟩
    have HB1:=hid_intro (HB.out.trans (hb.mono HB.out.size))
    clear hb c0 c1 c2
    go_wp2_with fail
    go_ret
    exact ⟨HBAD.out,HB1.out⟩
   ·obtain ⟨s0,s1,s2⟩:=HSM.out hs
    have HS2:=hid_intro (HMR.out s2)
    clear s2
    go_wp2_with fail
    refine HC.out.mono ?_
    rintro e w1 ⟨rfl,hb⟩
    have HB1:=hid_intro (HB.out.trans (hb.mono HB.out.size))
    clear hb c0 c1 c2
    go_wp2_with fail
    go_roundw
    case rel=>exact ⟨j+1,L2,by omega,by go_num,rfl,s0,by omega,HS2,HB1⟩
    case measure=>simp [intOf];omega
  ·have hlt2:¬(j:Int)<(len:Int):=by omega
   obtain rfl:j=len:=by omega
   go_wp2_with fail
   go_ret
   exact ⟨HEND.out L (by omega) HD.out l0 l1,HB.out⟩
end SeenR
namespace LedR
open CatR (SzOut)
open DocR LinR RowG
set_option maxRecDepth 100000 in
set_option maxHeartbeats 4000000 in
theorem szDsL (ao:Option Addr) (cap:Nat) (es:List D) (left:Int) (w:World) (hm:es.length≤maxLen) (h0:0≤left) (h1:left≤1048576) (hI:Dcs ao es w) (hin:∀e∈es,e.In∧(Lit.int .i64 e.mo).wf=true) :
 Calls Tryz.prog 17 #[.slice ao es.length cap,.int .i64 left] w fun e w'=>SzOut left (es.length≤1048576∧∀e∈es,e.Sm) e∧Below w.heap.size w w':=by
 have HI:=hid_intro hI
 have HIn:=hid_intro hin
 have HEND:Hid (∀L:Int,es.length≤1048576→(∀i,i<es.length→(fun e:D=>e.Sm) (es.getD i D.zero))→0≤L→L≤left→SzOut left (es.length≤1048576∧∀e∈es,e.Sm) (.returned (.int .i64 L))):=hid_intro (fun L a b c d=>⟨L,rfl,.inr ⟨c,d,a,fun e he=>by
  obtain ⟨i,hi,rfl⟩:=List.getElem_of_mem he
  have:=b i hi
  rwa [show es.getD i D.zero=es[i] by simp [List.getD,hi]] at this⟩⟩)
 have HBAD:Hid (SzOut left (es.length≤1048576∧∀e∈es,e.Sm) (.returned (.int .i64 (-1)))):=hid_intro ⟨-1,rfl,.inl rfl⟩
 generalize SzOut left (es.length≤1048576∧∀e∈es,e.Sm)=PO at *
 obtain ⟨len,hl⟩:∃len,len=es.length:=⟨_,rfl⟩
 rw [←hl] at hm HEND ⊢
 have HL:=hid_intro hl
 unfold maxLen at hm
 clear hI hin hl
 by_cases hbig:left-(len:Int)<0
 ·go_enter Tryz.func17,Tryz.ntmps17
  go_wp2_with fail
  go_ret
  exact ⟨HBAD.out,Below.refl _ _⟩
 go_enter Tryz.func17,Tryz.ntmps17
 go_wp2_with fail
 go_loopw [5,1] (fun x y wr=>∃(j:Nat) (L:Int),j≤len∧x=.int .i64 j∧y=.int .i64 L∧0≤L∧L≤left∧Hid (∀i,i<j→(fun e:D=>e.Sm) (es.getD i D.zero))∧Hid (Below w.heap.size w wr)) (fun x _ _=>len-(intOf x).toNat)
 case atStart=>exact ⟨0,left-(len:Int),by omega,rfl,rfl,by omega,by omega,hid_intro (fun i hi=>absurd hi (by omega)),hid_intro (Below.refl _ _)⟩
 case round =>
  obtain ⟨j,L,hj,rfl,rfl,l0,l1,HD,HB⟩:=hrel
  by_cases hlt:j<len
  ·have hlt2:(j:Int)<(len:Int):=by omega
   have hkl:j<es.length:=by have:=HL.out;omega
   obtain ⟨b,off,la,lc,rfl,hbl,c0,c1,c2,c3,hLi⟩:=(HI.out.below HB.out).at j hkl
   have hx:=HIn.out _ (RowG.getD_mem (z:=D.zero) es j hkl)
   have HMR:Hid ((fun e:D=>e.Sm) (es.getD j D.zero)→∀i,i<j+1→(fun e:D=>e.Sm) (es.getD i D.zero)):=hid_intro (fun h i hi=>by
    by_cases e:i=j
    ·subst e;exact h
    ·exact HD.out i (by omega))
   generalize hX:es.getD j D.zero=X at *
   clear hX
   have HC:=hid_intro (szD_any X la lc L wr l0 (by omega) hx.1 hLi)
   have HSM:Hid (¬dszR L X<0→0≤dszR L X∧dszR L X≤L∧X.Sm):=hid_intro (fun h=>⟨by omega,(dsz_small (by omega) h).2,(dsz_small (by omega) h).1⟩)
   obtain ⟨xa,xm,xs,xl⟩:=X
   unfold dcells at HC
   dsimp only at c0 c1 c2 c3 HC
   generalize dszR L ⟨xa,xm,xs,xl⟩=L2 at *
   generalize xl.length=ll at *
   clear hLi hx
   clear HD
   by_cases hs:L2<0
   ·go_wp2_with fail
    refine HC.out.mono ?_
    rintro e w1 ⟨rfl,hb⟩
    have HB1:=hid_intro (HB.out.trans (hb.mono HB.out.size))
    clear hb c0 c1 c2 c3
    go_wp2_with fail
    go_ret
    exact ⟨HBAD.out,HB1.out⟩
   ·obtain ⟨s0,s1,s2⟩:=HSM.out hs
    have HS2:=hid_intro (HMR.out s2)
    clear s2
    go_wp2_with fail
    refine HC.out.mono ?_
    rintro e w1 ⟨rfl,hb⟩
    have HB1:=hid_intro (HB.out.trans (hb.mono HB.out.size))
    clear hb c0 c1 c2 c3
    go_wp2_with fail
    go_roundw
    case rel=>exact ⟨j+1,L2,by omega,by go_num,rfl,s0,by omega,HS2,HB1⟩
    case measure=>simp [intOf];omega
  ·have hlt2:¬(j:Int)<(len:Int):=by omega
   obtain rfl:j=len:=by omega
   go_wp2_with fail
   go_ret
   exact ⟨HEND.out L (by omega) HD.out l0 l1,HB.out⟩
end LedR
end Go.Proofs.YtmalfhhkjdkadaaGreatDoor
