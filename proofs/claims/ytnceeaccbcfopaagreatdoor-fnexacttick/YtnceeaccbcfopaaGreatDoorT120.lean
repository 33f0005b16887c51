/-
  Periods as keys of a map. The conditions: accounts of at most 1048576 bytes, months that are numbers of 64 bits.
-/
import Derived.DeepKeys4
import Derived.Maps.OwnSet
import Derived.Test.YtnceeaccbcfopaaGreatDoorT119
namespace Go.Proofs.YtnceeaccbcfopaaGreatDoor
open Go.ChangeShapes Go.WideShapes Go.ChangeAt Go.RowKit
set_option linter.unusedVariables false
namespace LedR
open LinR RowG LtR NetR DocR
theorem laidOut:laidOutB Tryz.prog=true:=by kernel_rfl
theorem k1:(231:TypeId)<Tryz.prog.types.size:=of_decide_eq_true (by kernel_rfl)
theorem k2:Tryz.prog.keyTypeAt 2 231=true:=by kernel_rfl
theorem ten:2+1≤10000:=by omega
theorem lawP:WideMaps.KeyLaw Tryz.prog 231:=by
 have h:=@deep_law_laid Tryz.prog laidOut 2 ten 231 k1 k2
 refine h ?_
 rw [Tryz.underlying231]
theorem keyedP:Maps.Keyed Tryz.prog 231:=Maps.Keyed.of_law lawP
theorem hkt:Tryz.prog.keyType 231=true:=by kernel_rfl
theorem hc:Tryz.prog.cellsOf 231=2:=by kernel_rfl
theorem hcs:Tryz.prog.cellsOf 9=1:=by kernel_rfl
theorem hci:Tryz.prog.cellsOf 2=1:=by kernel_rfl
theorem tsz:1≤Tryz.prog.types.size:=of_decide_eq_true (by kernel_rfl)
def kP (a:ByteArray) (m:Int):Lit:=.string (keyBytes [.string a.data.toList,.int .i64 m])
def Good (a:ByteArray) (m:Int):Prop:=a.size≤1048576∧(Lit.int .i64 m).wf=true
theorem keyP_gen {P:Program} {k:TypeId} {f0 f1:Field} (hu:P.underlying k=some (.struct #[f0,f1])) (u0:P.underlying f0.type=some .string) (u1:P.underlying f1.type=some (.int .i64)) (hc:P.cellsOf k=2) (c0:P.cellsOf f0.type=1) (c1:P.cellsOf f1.type=1) (o0:f0.offset=0) (o1:f1.offset=1) (n0:(f0.name != "_")=true) (n1:(f1.name != "_")=true) (hkt:P.keyType k=true) (hn:1≤P.types.size)
 {a:ByteArray} {m:Int} (hs:a.size≤maxLen) (hm:(Lit.int .i64 m).wf=true):keyOf P k (.agg #[.string a,.int .i64 m])=some (kP a m):=by
 have hf:(Value.agg #[.string a,.int .i64 m]).formed P k=true:=by simp [Value.formed,hu,hc]
 obtain ⟨n,hn⟩:∃n,P.types.size=n+1:=⟨P.types.size-1,by omega⟩
 have e:P.keyLits (P.types.size+1) k [.string a,.int .i64 m]=some [.string a.data.toList,.int .i64 m]:=by
  rw [hn]
  simp [Program.keyLits,hu,u0,u1,hs,hm,hc,n0,n1,o0,o1,c0,c1]
 unfold keyOf
 rw [hu]
 simp [hkt,hf,Value.cells,e,kP]
theorem keyP {a:ByteArray} {m:Int} (h:Good a m):keyOf Tryz.prog 231 (.agg #[.string a,.int .i64 m])=some (kP a m) :=
 keyP_gen Tryz.underlying231 Tryz.underlying9 Tryz.underlying2 hc hcs hci rfl rfl rfl rfl hkt tsz (Nat.le_trans h.1 (by unfold maxLen;omega)) h.2
theorem kP_inj {a a':ByteArray} {m m':Int} (h:Good a m) (h':Good a' m') (e:kP a m=kP a' m'):a=a'∧m=m':=by
 have:=keyedP.inj (keyP h) (by rw [e];exact keyP h')
 simpa using this
theorem kP_key (a:ByteArray) (m:Int):WideAt.IsKeyLit (kP a m):=by
 unfold kP
 first|trivial|exact rfl|(simp [WideAt.IsKeyLit])
def RV (v:Value):Option (DataW Value × List MemPlace):=some (.held v,[])
theorem zeroR (w:World):(zeroValue 235).run Tryz.prog w=.ok (.agg #[.int .i64 0,.map none]) w:=by kernel_rfl
def Dcs (ao:Option Addr) (ds:List D) (w:World):Prop:=ds.length=0∨∃b off,ao=some ⟨b,off,none⟩∧b<w.heap.size∧∀j,j<ds.length→∃la lc,w.cell? ⟨b,off+j*4,none⟩=some (.string (ds.getD j D.zero).a)∧w.cell? ⟨b,off+j*4+1,none⟩=some (.int .i64 (ds.getD j D.zero).mo)∧w.cell? ⟨b,off+j*4+2,none⟩=some (.int .i64 (ds.getD j D.zero).sq)∧w.cell? ⟨b,off+j*4+3,none⟩=some (.slice la (ds.getD j D.zero).ls.length lc)∧Lis la (ds.getD j D.zero).ls w
theorem Dcs.below {ao:Option Addr} {ds:List D} {w w':World} (h:Dcs ao ds w) (hb:Below w.heap.size w w'):Dcs ao ds w':=by
 rcases h with h0|⟨b,off,rfl,hl,h⟩
 ·exact .inl h0
 ·refine .inr ⟨b,off,rfl,by have:=hb.size;omega,fun j hj=>?_⟩
  obtain ⟨la,lc,c0,c1,c2,c3,hL⟩:=h j hj
  have f:=fun x=>hb.cell (p:=⟨b,x,none⟩) hl
  exact ⟨la,lc,(f _).trans c0,(f _).trans c1,(f _).trans c2,(f _).trans c3,hL.below hb⟩
theorem Dcs.at {ao:Option Addr} {ds:List D} {w:World} (h:Dcs ao ds w) (j:Nat) (hj:j<ds.length):∃b off la lc,ao=some ⟨b,off,none⟩∧b<w.heap.size∧w.cell? ⟨b,off+j*4,none⟩=some (.string (ds.getD j D.zero).a)∧w.cell? ⟨b,off+j*4+1,none⟩=some (.int .i64 (ds.getD j D.zero).mo)∧w.cell? ⟨b,off+j*4+2,none⟩=some (.int .i64 (ds.getD j D.zero).sq)∧w.cell? ⟨b,off+j*4+3,none⟩=some (.slice la (ds.getD j D.zero).ls.length lc)∧Lis la (ds.getD j D.zero).ls w:=by
 rcases h with h0|⟨b,off,rfl,hl,h⟩
 ·omega
 ·obtain ⟨la,lc,r⟩:=h j hj
  exact ⟨b,off,la,lc,rfl,hl,r⟩
def RowsM (rb M:Nat) (ds:List D) (W:World):Prop:=∃(Dm:DataW Value) (f:ByteArray→Int→Nat),W.ownsMap Tryz.prog 231 RV rb M Dm ∧
 (∀kl,Maps.has Dm kl=true→∃a m,Good a m∧kl=kP a m∧cnt ds a m≠0) ∧
 (∀a m,cnt ds a m≠0→Good a m∧(∀z,Dm.atKey (kP a m) z=.held (.agg #[.int .i64 (cnt ds a m:Nat),.map (some (f a m))]))∧rb<f a m∧f a m<W.heap.size∧∃Dn M',M'≤6*ds.length∧W.ownsMap Tryz.prog 9 (plainElem (H:=Value) Tryz.prog 2) (f a m) M' Dn∧NetM Dn (net ds a m)) ∧
 (∀a m a' m',cnt ds a m≠0→cnt ds a' m'≠0→f a m=f a' m'→a=a'∧m=m')
theorem rows_nil (w:World):RowsM w.heap.size 0 [] (w.alloc (.map #[] 0)) :=
 ⟨.map [],fun _ _=>0,World.ownsMap_made w _ _ _,fun kl h=>by rw [Maps.has_eq] at h;simp at h,fun a m h=>absurd rfl h,fun a m _ _ h=>absurd rfl h⟩
theorem RowsM.kept {rb M:Nat} {ds:List D} {W W':World} (h:RowsM rb M ds W) (hb:Below W.heap.size W W'):RowsM rb M ds W':=by
 obtain ⟨Dm,f,h1,h2,h3,h4⟩:=h
 refine ⟨Dm,f,omap_below h1 hb,h2,fun a m hc=>?_,h4⟩
 obtain ⟨g,p1,p2,p3,Dn,M',p4,p5,p6⟩:=h3 a m hc
 exact ⟨g,p1,p2,by have:=hb.size;omega,Dn,M',p4,omap_below p5 hb,p6⟩
end LedR
end Go.Proofs.YtnceeaccbcfopaaGreatDoor
