/-
  Lists of documents of one's own. No condition.
-/
import Derived.Test.YtnceeaccbcfopaaGreatDoorT125
namespace Go.Proofs.YtnceeaccbcfopaaGreatDoor
open Go.ChangeShapes Go.WideShapes Go.ChangeAt Go.RowKit
set_option linter.unusedVariables false
namespace LedR
open OwG LinR DocR
open RowG (MadeG Rws cellsAll H_)
open EvtR (Pt)
open CatR (Blk Blk.new)
structure DA where
 d:D
 la:Option Addr
 lc:Nat
def DA.v (x:DA):Value:=.slice x.la x.d.ls.length x.lc
def DA.cells (x:DA):List Value:=[.string x.d.a,.int .i64 x.d.mo,.int .i64 x.d.sq,x.v]
theorem DA.len (x:DA):x.cells.length=4:=rfl
def DA.zero:DA:=⟨D.zero,none,0⟩
def LnO (base:Nat) (x:DA) (W:World):Prop:=W.ownsRow base 209 2 x.v x.d.ls.length (cellsAll N.cells x.d.ls)
def Apt (x y:DA):Prop:=∀b,x.v.ownBlock=some b→y.v.ownBlock≠some b
def DsO (base:Nat) (v:Value) (ds:List D) (W:World):Prop:=∃xs:List DA,xs.map DA.d=ds∧W.ownsRow base 122 4 v ds.length (cellsAll DA.cells xs)∧(∀x∈xs,LnO base x W)∧xs.Pairwise Apt
theorem LnO.grown {base:Nat} {x:DA} {W W':World} {row:Option Nat} (h:LnO base x W) (hg:W.grownBy W' row) (hne:∀b,x.v.ownBlock=some b→some b≠row):LnO base x W':=own_keepO h hg hne
theorem LnO.low {base base':Nat} {x:DA} {W:World} (h:LnO base x W) (hb:base'≤base):LnO base' x W:=OwG.own_low h hb
theorem dso_nil (base:Nat) (W:World):DsO base (.slice none 0 0) [] W:=⟨[],rfl,World.ownsRow_nil _ _ _ _,(fun x h=>absurd h (by simp)),List.Pairwise.nil⟩
theorem DsO.low {base base':Nat} {v:Value} {ds:List D} {W:World} (h:DsO base v ds W) (hb:base'≤base):DsO base' v ds W:=by
 obtain ⟨xs,h1,h2,h3,h4⟩:=h
 exact ⟨xs,h1,OwG.own_low h2 hb,fun x hx=>(h3 x hx).low hb,h4⟩
theorem DsO.far {base g:Nat} {v:Value} {ds:List D} {W W':World} (h:DsO base v ds W) (hg:W.grownBy W' (some g)) (hlt:g<base):DsO base v ds W':=by
 obtain ⟨xs,h1,h2,h3,h4⟩:=h
 exact ⟨xs,h1,own_keepG h2 hg hlt,fun x hx=>own_keepG (h3 x hx) hg hlt,h4⟩
theorem DsO.below {base:Nat} {v:Value} {ds:List D} {W W':World} (h:DsO base v ds W) (hb:Below W.heap.size W W'):DsO base v ds W':=by
 obtain ⟨xs,h1,h2,h3,h4⟩:=h
 exact ⟨xs,h1,RowG.own_below h2 hb,fun x hx=>RowG.own_below (h3 x hx) hb,h4⟩
theorem DsO.dcs {base:Nat} {v:Value} {ds:List D} {W:World} (h:DsO base v ds W):∃ao cap,v=.slice ao ds.length cap∧Dcs ao ds W:=by
 obtain ⟨xs,h1,h2,h3,_⟩:=h
 have hl:ds.length=xs.length:=by rw [←h1];simp
 rw [hl] at h2
 obtain ⟨ao,cap,rfl,hm⟩:=RowG.own_made (z:=DA.zero) DA.len h2
 refine ⟨ao,cap,by rw [hl],?_⟩
 rcases hm.rws with h0|⟨b,off,rfl,hb,hc⟩
 ·exact .inl (by omega)
 ·refine .inr ⟨b,off,rfl,hb,fun i hi=>?_⟩
  have hx:i<xs.length:=by omega
  have e:ds.getD i D.zero=(xs.getD i DA.zero).d:=by
   rw [←h1]
   simp [List.getD,hx]
  have hmem:=RowG.getD_mem (z:=DA.zero) xs i hx
  have c:=hc i hx
  rw [e]
  generalize xs.getD i DA.zero=X at *
  obtain ⟨ao',cap',e',hm'⟩:=RowG.own_made (z:=N.zero) N.len (h3 X hmem)
  unfold DA.v at e'
  cases e'
  exact ⟨X.la,X.lc,c 0 (by omega),c 1 (by omega),c 2 (by omega),c 3 (by omega),hm'.rws⟩
end LedR
end Go.Proofs.YtnceeaccbcfopaaGreatDoor
