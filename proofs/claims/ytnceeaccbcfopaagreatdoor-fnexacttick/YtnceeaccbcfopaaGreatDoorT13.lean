/-
  Tiers, meters, credits and catalogs as rows of cells. No condition.
-/
import Derived.Test.YtnceeaccbcfopaaGreatDoorT12
namespace Go.Proofs.YtnceeaccbcfopaaGreatDoor
open Go.ChangeShapes Go.WideShapes Go.ChangeAt Go.RowKit
set_option linter.unusedVariables false
namespace CatR
structure Ti where
 u:Int
 p:Int
structure Cr where
 a:ByteArray
 m:Int
structure Me where
 n:ByteArray
 g:Int
 wh:Bool
 f:Int
 l:Int
 ts:List Ti
structure Ca where
 ms:List Me
 cs:List Cr
def Ti.zero:Ti:=⟨0,0⟩
def Cr.zero:Cr:=⟨⟨#[]⟩,0⟩
def Me.zero:Me:=⟨⟨#[]⟩,0,false,0,0,[]⟩
def TiAt (w:World) (b o:Nat) (t:Ti):Prop:=w.cell? ⟨b,o,none⟩=some (.int .i64 t.u)∧w.cell? ⟨b,o+1,none⟩=some (.int .i64 t.p)
def CrAt (w:World) (b o:Nat) (t:Cr):Prop:=w.cell? ⟨b,o,none⟩=some (.string t.a)∧w.cell? ⟨b,o+1,none⟩=some (.int .i64 t.m)
def Tis (ao:Option Addr) (len:Nat) (ts:List Ti) (w:World):Prop:=ts.length=len∧(len=0∨∃b off,ao=some ⟨b,off,none⟩∧b<w.heap.size∧∀j,j<len→TiAt w b (off+j*2) (ts.getD j Ti.zero))
def Crs (ao:Option Addr) (len:Nat) (ts:List Cr) (w:World):Prop:=ts.length=len∧(len=0∨∃b off,ao=some ⟨b,off,none⟩∧b<w.heap.size∧∀j,j<len→CrAt w b (off+j*2) (ts.getD j Cr.zero))
def MeAt (w:World) (b o:Nat) (m:Me):Prop:=∃ta tc,w.cell? ⟨b,o,none⟩=some (.string m.n)∧w.cell? ⟨b,o+1,none⟩=some (.int .i64 m.g)∧w.cell? ⟨b,o+2,none⟩=some (.bool m.wh)∧w.cell? ⟨b,o+3,none⟩=some (.int .i64 m.f)∧w.cell? ⟨b,o+4,none⟩=some (.int .i64 m.l)∧w.cell? ⟨b,o+5,none⟩=some (.slice ta m.ts.length tc)∧Tis ta m.ts.length m.ts w
def Mes (ao:Option Addr) (len:Nat) (ms:List Me) (w:World):Prop:=ms.length=len∧(len=0∨∃b off,ao=some ⟨b,off,none⟩∧b<w.heap.size∧∀j,j<len→MeAt w b (off+j*6) (ms.getD j Me.zero))
def IsMe (v:Value) (m:Me) (w:World):Prop:=∃ta tc,v=.agg #[.string m.n,.int .i64 m.g,.bool m.wh,.int .i64 m.f,.int .i64 m.l,.slice ta m.ts.length tc]∧Tis ta m.ts.length m.ts w
def IsCa (v:Value) (c:Ca) (w:World):Prop:=∃ma mc ca cc,v=.agg #[.slice ma c.ms.length mc,.slice ca c.cs.length cc]∧Mes ma c.ms.length c.ms w∧Crs ca c.cs.length c.cs w
theorem TiAt.below {w w':World} {b o:Nat} {e:Ti} (h:TiAt w b o e) (hl:b<w.heap.size) (hb:Below w.heap.size w w'):TiAt w' b o e :=
 ⟨(hb.cell (p:=⟨b,o,none⟩) hl).trans h.1,(hb.cell (p:=⟨b,o+1,none⟩) hl).trans h.2⟩
theorem CrAt.below {w w':World} {b o:Nat} {e:Cr} (h:CrAt w b o e) (hl:b<w.heap.size) (hb:Below w.heap.size w w'):CrAt w' b o e :=
 ⟨(hb.cell (p:=⟨b,o,none⟩) hl).trans h.1,(hb.cell (p:=⟨b,o+1,none⟩) hl).trans h.2⟩
theorem Tis.below {ao:Option Addr} {len:Nat} {es:List Ti} {w w':World} (h:Tis ao len es w) (hb:Below w.heap.size w w'):Tis ao len es w':=by
 refine ⟨h.1,?_⟩
 rcases h.2 with h0|⟨b,off,rfl,hlt,hc⟩
 ·exact .inl h0
 ·exact .inr ⟨b,off,rfl,by have:=hb.size;omega,fun j hj=>(hc j hj).below hlt hb⟩
theorem Crs.below {ao:Option Addr} {len:Nat} {es:List Cr} {w w':World} (h:Crs ao len es w) (hb:Below w.heap.size w w'):Crs ao len es w':=by
 refine ⟨h.1,?_⟩
 rcases h.2 with h0|⟨b,off,rfl,hlt,hc⟩
 ·exact .inl h0
 ·exact .inr ⟨b,off,rfl,by have:=hb.size;omega,fun j hj=>(hc j hj).below hlt hb⟩
theorem MeAt.below {w w':World} {b o:Nat} {e:Me} (h:MeAt w b o e) (hl:b<w.heap.size) (hb:Below w.heap.size w w'):MeAt w' b o e:=by
 obtain ⟨ta,tc,h0,h1,h2,h3,h4,h5,h6⟩:=h
 have f:=fun k=>hb.cell (p:=⟨b,k,none⟩) hl
 exact ⟨ta,tc,(f _).trans h0,(f _).trans h1,(f _).trans h2,(f _).trans h3,(f _).trans h4,(f _).trans h5,h6.below hb⟩
theorem Mes.below {ao:Option Addr} {len:Nat} {es:List Me} {w w':World} (h:Mes ao len es w) (hb:Below w.heap.size w w'):Mes ao len es w':=by
 refine ⟨h.1,?_⟩
 rcases h.2 with h0|⟨b,off,rfl,hlt,hc⟩
 ·exact .inl h0
 ·exact .inr ⟨b,off,rfl,by have:=hb.size;omega,fun j hj=>(hc j hj).below hlt hb⟩
theorem IsMe.below {v:Value} {m:Me} {w w':World} (h:IsMe v m w) (hb:Below w.heap.size w w'):IsMe v m w':=by
 obtain ⟨ta,tc,hv,ht⟩:=h
 exact ⟨ta,tc,hv,ht.below hb⟩
theorem IsCa.below {v:Value} {m:Ca} {w w':World} (h:IsCa v m w) (hb:Below w.heap.size w w'):IsCa v m w':=by
 obtain ⟨ma,mc,ca,cc,hv,h1,h2⟩:=h
 exact ⟨ma,mc,ca,cc,hv,h1.below hb,h2.below hb⟩
theorem tis_at {ao:Option Addr} {len:Nat} {es:List Ti} {w:World} (h:Tis ao len es w) (k:Nat) (hk:k<len):∃b off,ao=some ⟨b,off,none⟩∧b<w.heap.size∧TiAt w b (off+k*2) (es.getD k Ti.zero):=by
 rcases h.2 with h0|⟨b,off,rfl,hlt,hc⟩
 ·omega
 ·exact ⟨b,off,rfl,hlt,hc k hk⟩
theorem crs_at {ao:Option Addr} {len:Nat} {es:List Cr} {w:World} (h:Crs ao len es w) (k:Nat) (hk:k<len):∃b off,ao=some ⟨b,off,none⟩∧b<w.heap.size∧CrAt w b (off+k*2) (es.getD k Cr.zero):=by
 rcases h.2 with h0|⟨b,off,rfl,hlt,hc⟩
 ·omega
 ·exact ⟨b,off,rfl,hlt,hc k hk⟩
theorem mes_at {ao:Option Addr} {len:Nat} {es:List Me} {w:World} (h:Mes ao len es w) (k:Nat) (hk:k<len):∃b off,ao=some ⟨b,off,none⟩∧b<w.heap.size∧MeAt w b (off+k*6) (es.getD k Me.zero):=by
 rcases h.2 with h0|⟨b,off,rfl,hlt,hc⟩
 ·omega
 ·exact ⟨b,off,rfl,hlt,hc k hk⟩
theorem Tis.nil (ao:Option Addr) (w:World):Tis ao 0 [] w:=⟨rfl,.inl rfl⟩
end CatR
end Go.Proofs.YtnceeaccbcfopaaGreatDoor
