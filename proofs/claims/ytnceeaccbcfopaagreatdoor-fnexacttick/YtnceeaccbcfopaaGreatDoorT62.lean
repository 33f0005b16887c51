/-
  The law's own marks in a list of lines: written, and found again. The condition: at most 1048576 lines to write, 40 to find.
-/
import Derived.Deep.RegionHeld3
import Derived.Test.YtnceeaccbcfopaaGreatDoorT61
namespace Go.Proofs.YtnceeaccbcfopaaGreatDoor
open Go.ChangeShapes Go.WideShapes Go.ChangeAt Go.RowKit
set_option linter.unusedVariables false
namespace LinR
open RowG
open EvtR (Pt)
open MarkR (mk mT mark_any)
def mN (k:Nat):N:=⟨mT k,((k+1:Nat):Int)⟩
def mC (o:Nat):Option Value:=(mN (1+2*(o / 2))).cells[o % 2]?
theorem rgrown {w w':World} (hb:Below w.heap.size w w') (row:Option Nat):w.grownBy w' row:=⟨hb.os,hb.tape,hb.output,hb.size,fun k hk _=>hb.block k hk⟩
theorem gtrans {w w1 w2:World} {g:Option Nat} (h1:w.grownBy w1 g) (h2:w1.grownBy w2 g):w.grownBy w2 g :=
 ⟨h2.os.trans h1.os,h2.tape.trans h1.tape,h2.output.trans h1.output,Nat.le_trans h1.size h2.size,fun k hk hne=>(h2.block k (by have:=h1.size;omega) hne).trans (h1.block k hk hne)⟩
def BoxM (w:World) (g o:Nat) (t0:ByteArray) (n:Int) (w':World):Prop:=Below w.heap.size w w'∧g<w'.heap.size∧w'.cell? ⟨g,o,none⟩=some (.string t0)∧w'.cell? ⟨g,o+1,none⟩=some (.int .i64 n)
theorem BoxM.below {w w1 w2:World} {g o:Nat} {t0:ByteArray} {n:Int} (h:BoxM w g o t0 n w1) (hb:Below w1.heap.size w1 w2):BoxM w g o t0 n w2:=by
 obtain ⟨h0,hl,c0,c1⟩:=h
 have c:=fun x=>hb.cell (p:=⟨g,x,none⟩) hl
 exact ⟨h0.trans (hb.mono h0.size),by have:=hb.size;omega,(c _).trans c0,(c _).trans c1⟩
theorem BoxM.drew {w w1:World} {g o:Nat} {t0:ByteArray} {n:Int} (h:BoxM w g o t0 n w1):BoxM w g o t0 n w1.drew:=⟨h.1.drew,h.2⟩
def Mkd (ao:Option Addr) (n:Nat) (w:World):Prop:=n=0∨∃g,ao=some ⟨g,0,none⟩∧Pt g (n*2) w∧Wr mC (n*2) g w
theorem Mkd.below {ao:Option Addr} {n:Nat} {w w':World} (h:Mkd ao n w) (hb:Below w.heap.size w w'):Mkd ao n w':=by
 rcases h with h|⟨g,rfl,hp,hm⟩
 ·exact .inl h
 ·exact .inr ⟨g,rfl,hp.below hb,hm.below hp hb⟩
end LinR
end Go.Proofs.YtnceeaccbcfopaaGreatDoor
