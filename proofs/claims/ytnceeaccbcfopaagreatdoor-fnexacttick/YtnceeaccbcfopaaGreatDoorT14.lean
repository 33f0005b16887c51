/-
  Lists of meters of one's own. No condition.
-/
import Derived.Test.YtnceeaccbcfopaaGreatDoorT13
namespace Go.Proofs.YtnceeaccbcfopaaGreatDoor
open Go.ChangeShapes Go.WideShapes Go.ChangeAt Go.RowKit
set_option linter.unusedVariables false
namespace CatR
open OwG
open RowG (MadeG Rws cellsAll H_)
open EvtR (Pt)
open DocR (BlkW)
def Ti.cells (t:Ti):List Value:=[.int .i64 t.u,.int .i64 t.p]
theorem Ti.len (t:Ti):t.cells.length=2:=rfl
def Cr.cells (t:Cr):List Value:=[.string t.a,.int .i64 t.m]
theorem Cr.len (t:Cr):t.cells.length=2:=rfl
structure MA where
 m:Me
 ta:Option Addr
 tc:Nat
def MA.v (x:MA):Value:=.slice x.ta x.m.ts.length x.tc
def MA.cells (x:MA):List Value:=[.string x.m.n,.int .i64 x.m.g,.bool x.m.wh,.int .i64 x.m.f,.int .i64 x.m.l,x.v]
theorem MA.len (x:MA):x.cells.length=6:=rfl
def MA.zero:MA:=⟨Me.zero,none,0⟩
def TnO (base:Nat) (x:MA) (W:World):Prop:=W.ownsRow base 248 2 x.v x.m.ts.length (cellsAll Ti.cells x.m.ts)
def AptM (x y:MA):Prop:=∀b,x.v.ownBlock=some b→y.v.ownBlock≠some b
def MsL (base lim:Nat) (v:Value) (ms:List Me) (W:World):Prop:=∃xs:List MA,xs.map MA.m=ms∧W.ownsRow base 150 6 v ms.length (cellsAll MA.cells xs)∧(∀x∈xs,TnO base x W)∧xs.Pairwise AptM∧∀x∈xs,∀b,x.v.ownBlock=some b→b<lim
def MsO (base:Nat) (v:Value) (ms:List Me) (W:World):Prop:=∃lim,MsL base lim v ms W
theorem MsO.lim {base:Nat} {v:Value} {ms:List Me} {W:World} (h:MsO base v ms W):MsL base W.heap.size v ms W:=by
 obtain ⟨lim,xs,h1,h2,h3,h4,_⟩:=h
 exact ⟨xs,h1,h2,h3,h4,fun x hx b hb=>((h3 x hx).lt b hb).2⟩
theorem mso_nil (base:Nat) (W:World):MsO base (.slice none 0 0) [] W:=⟨0,[],rfl,World.ownsRow_nil _ _ _ _,(fun x h=>absurd h (by simp)),List.Pairwise.nil,fun x h=>absurd h (by simp)⟩
theorem MsL.far {base lim g:Nat} {v:Value} {ms:List Me} {W W':World} (h:MsL base lim v ms W) (hg:W.grownBy W' (some g)) (hlt:g<base):MsL base lim v ms W':=by
 obtain ⟨xs,h1,h2,h3,h4,h5⟩:=h
 exact ⟨xs,h1,own_keepG h2 hg hlt,fun x hx=>own_keepG (h3 x hx) hg hlt,h4,h5⟩
theorem MsL.below {base lim:Nat} {v:Value} {ms:List Me} {W W':World} (h:MsL base lim v ms W) (hb:Below W.heap.size W W'):MsL base lim v ms W':=by
 obtain ⟨xs,h1,h2,h3,h4,h5⟩:=h
 exact ⟨xs,h1,RowG.own_below h2 hb,fun x hx=>RowG.own_below (h3 x hx) hb,h4,h5⟩
theorem MsO.far {base g:Nat} {v:Value} {ms:List Me} {W W':World} (h:MsO base v ms W) (hg:W.grownBy W' (some g)) (hlt:g<base):MsO base v ms W':=h.imp fun _ h=>h.far hg hlt
theorem MsO.below {base:Nat} {v:Value} {ms:List Me} {W W':World} (h:MsO base v ms W) (hb:Below W.heap.size W W'):MsO base v ms W':=h.imp fun _ h=>h.below hb
theorem MsO.low {base base':Nat} {v:Value} {ms:List Me} {W:World} (h:MsO base v ms W) (hb:base'≤base):MsO base' v ms W:=by
 obtain ⟨lim,xs,h1,h2,h3,h4,h5⟩:=h
 exact ⟨lim,xs,h1,own_low h2 hb,fun x hx=>own_low (h3 x hx) hb,h4,h5⟩
theorem MsO.other {base base' e size n:Nat} {v v':Value} {ms:List Me} {xs':List Value} {W W':World} (h:MsO base v ms W) (ho:W.ownsRow base' e size v' n xs') (hg:W.grownBy W' v'.ownBlock) (h1:e≠150) (h2:e≠248):MsO base v ms W':=by
 obtain ⟨lim,xs,q1,q2,q3,q4,q5⟩:=h
 exact ⟨lim,xs,q1,own_keepO q2 hg (own_apart q2 ho h1),fun x hx=>own_keepO (q3 x hx) hg (own_apart (q3 x hx) ho h2),q4,q5⟩
theorem mso_snoc {base lim:Nat} {v v':Value} {xs:List MA} {ms:List Me} {m:Me} {ta:Option Addr} {tc:Nat} {W W9:World} (hms:xs.map MA.m=ms) (hLn:∀x∈xs,TnO base x W) (hPw:xs.Pairwise AptM) (hlim:∀x∈xs,∀b,x.v.ownBlock=some b→b<lim) (hbl:base≤lim)
 (hnew:W.ownsRow lim 248 2 (.slice ta m.ts.length tc) m.ts.length (cellsAll Ti.cells m.ts)) (hO:W.ownsRow base 150 6 v ms.length (cellsAll MA.cells xs)) (hgrow:W.grownBy W9 v.ownBlock)
 (hown:W9.ownsRow base 150 6 v' (ms.length+1) (cellsAll MA.cells xs ++ [.string m.n,.int .i64 m.g,.bool m.wh,.int .i64 m.f,.int .i64 m.l,.slice ta m.ts.length tc])):MsO base v' (ms ++ [m]) W9:=by
 have hk:∀x:MA,TnO base x W→TnO base x W9:=fun x hx=>own_keepO hx hgrow (own_apart hx hO (by decide))
 have hn:TnO base ⟨m,ta,tc⟩ W9:=hk ⟨m,ta,tc⟩ (own_low hnew hbl)
 refine ⟨W9.heap.size,xs ++ [⟨m,ta,tc⟩],by rw [List.map_append,hms];rfl,?_,?_,?_,?_⟩
 ·rw [cellsAll_snoc,List.length_append]
  exact hown
 ·intro x hx
  rcases List.mem_append.1 hx with h|h
  ·exact hk x (hLn x h)
  ·rw [List.mem_singleton] at h
   subst h
   exact hn
 ·refine List.pairwise_append.2 ⟨hPw,List.pairwise_singleton _ _,fun x hx y hy=>?_⟩
  rw [List.mem_singleton] at hy
  subst hy
  intro b h1 h2
  have p1:=hlim x hx b h1
  have p2:=hnew.lt b h2
  omega
 ·intro x hx b hb
  rcases List.mem_append.1 hx with h|h
  ·exact ((hk x (hLn x h)).lt b hb).2
  ·rw [List.mem_singleton] at h
   subst h
   exact (hn.lt b hb).2
theorem own_tis {w:World} {base n c:Nat} {ao:Option Addr} {ts:List Ti} (h:w.ownsRow base 248 2 (.slice ao n c) n (cellsAll Ti.cells ts)) (hn:n=ts.length):Tis ao n ts w:=by
 subst hn
 obtain ⟨ao',cap,e,hm⟩:=RowG.own_made (z:=Ti.zero) Ti.len h
 cases e
 refine ⟨rfl,?_⟩
 rcases hm.rws with h0|⟨b,off,rfl,hl,hc⟩
 ·exact .inl h0
 ·exact .inr ⟨b,off,rfl,hl,fun i hi=>⟨hc i hi 0 (by omega),hc i hi 1 (by omega)⟩⟩
theorem MsO.mes {base:Nat} {v:Value} {ms:List Me} {W:World} (h:MsO base v ms W):∃ao cap,v=.slice ao ms.length cap∧Mes ao ms.length ms W:=by
 obtain ⟨lim,xs,h1,h2,h3,_⟩:=h
 have hl:ms.length=xs.length:=by rw [←h1];simp
 rw [hl] at h2
 obtain ⟨ao,cap,rfl,hm⟩:=RowG.own_made (z:=MA.zero) MA.len h2
 refine ⟨ao,cap,by rw [hl],rfl,?_⟩
 rcases hm.rws with h0|⟨b,off,rfl,hb,hc⟩
 ·exact .inl (by omega)
 ·refine .inr ⟨b,off,rfl,hb,fun i hi=>?_⟩
  have hx:i<xs.length:=by omega
  have e:ms.getD i Me.zero=(xs.getD i MA.zero).m:=by
   rw [←h1]
   simp [List.getD,hx]
  have hmem:=RowG.getD_mem (z:=MA.zero) xs i hx
  have c:=hc i hx
  rw [e]
  generalize xs.getD i MA.zero=X at *
  exact ⟨X.ta,X.tc,c 0 (by omega),c 1 (by omega),c 2 (by omega),c 3 (by omega),c 4 (by omega),c 5 (by omega),own_tis (h3 X hmem) rfl⟩
theorem me_one (m:Me) (ta:Option Addr) (tc:Nat):∀u∈([.string m.n,.int .i64 m.g,.bool m.wh,.int .i64 m.f,.int .i64 m.l,.slice ta m.ts.length tc]:List Value),u.oneCell'=true:=by
 intro u hu
 simp at hu
 rcases hu with rfl|rfl|rfl|rfl|rfl|rfl<;>rfl
theorem cr_one (x:ByteArray) (y:Int):∀u∈[Value.string x,Value.int .i64 y],u.oneCell'=true:=by
 intro u hu
 simp at hu
 rcases hu with rfl|rfl<;>rfl
theorem infoCr:(Tryz.prog.info? 151).map (fun i=>(i.zero,i.size,i.bytes))=some (some (.agg #[.string ⟨#[]⟩,.int .i64 0]),2,24):=by kernel_rfl
theorem infoMe:(Tryz.prog.info? 150).map (fun i=>(i.zero,i.size,i.bytes))=some (some (.agg #[.string ⟨#[]⟩,.int .i64 0,.bool false,.int .i64 0,.int .i64 0,.slice none 0 0]),6,72):=by kernel_rfl
end CatR
end Go.Proofs.YtnceeaccbcfopaaGreatDoor
