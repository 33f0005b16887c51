/-
  Engines: what they read, how many letters, the law's own copies, held against each other. The condition: sizes of at most 1048576.
-/
import Derived.Test.YtnceeaccbcfopaaGreatDoorT123
namespace Go.Proofs.YtnceeaccbcfopaaGreatDoor
open Go.ChangeShapes Go.WideShapes Go.ChangeAt Go.RowKit
set_option linter.unusedVariables false
namespace EngR
open CatR ChG
open EvtR (Pt)
open DocR (BlkW)
structure Eng where
 c:Ca
 ss:List Cr
 es:List SeenR.N
 ws:List WinR.Wd
 ds:List DocR.D
 fr:Int
def ecells (x:Eng) (ma:Option Addr) (mc:Nat) (ca:Option Addr) (cc:Nat) (sa:Option Addr) (sc:Nat) (ea:Option Addr) (ec:Nat) (ua:Option Addr) (uc:Nat) (da:Option Addr) (dc:Nat):Array Value:=#[.slice ma x.c.ms.length mc,.slice ca x.c.cs.length cc,.slice sa x.ss.length sc,.slice ea x.es.length ec,.slice ua x.ws.length uc,.slice da x.ds.length dc,.int .i64 x.fr]
def IsEng (v:Value) (x:Eng) (w:World):Prop:=∃ma mc ca cc sa sc ea ec ua uc da dc,v=.agg (ecells x ma mc ca cc sa sc ea ec ua uc da dc)∧Mes ma x.c.ms.length x.c.ms w∧Crs ca x.c.cs.length x.c.cs w∧Crs sa x.ss.length x.ss w∧SeenR.Ens ea x.es w∧WinR.Wns ua x.ws w∧LedR.Dcs da x.ds w
theorem IsEng.below {v:Value} {x:Eng} {w w':World} (h:IsEng v x w) (hb:Below w.heap.size w w'):IsEng v x w':=by
 obtain ⟨ma,mc,ca,cc,sa,sc,ea,ec,ua,uc,da,dc,hv,h1,h2,h3,h4,h5,h6⟩:=h
 exact ⟨ma,mc,ca,cc,sa,sc,ea,ec,ua,uc,da,dc,hv,h1.below hb,h2.below hb,h3.below hb,h4.below hb,h5.below hb,h6.below hb⟩
theorem blkW_al {b:Nat} {cs:List Value} {w:World} (h:BlkW b cs w) (o:Obj):BlkW b cs (w.alloc o):=h.below ((Below.refl _ _).alloc (Nat.le_refl _) _)
theorem blkW_gr {b g:Nat} {cs:List Value} {w w':World} (h:BlkW b cs w) (hg:w.grownBy w' (some g)) (hne:b≠g):BlkW b cs w':=by
 have eb:=hg.block b h.1.1 (by simp;exact hne)
 exact ⟨⟨Nat.lt_of_lt_of_le h.1.1 hg.size,fun i hi=>(World.cell?_of_block (a:=⟨b,i,none⟩) eb).trans (h.1.2 i hi)⟩,fun i hi=>(World.frozen?_of_block (a:=⟨b,i,none⟩) eb).trans (h.2 i hi)⟩
theorem gtr2 {w w1 w2:World} {g:Option Nat} (h1:w.grownBy w1 g) (h2:w1.grownBy w2 g):w.grownBy w2 g :=
 ⟨h2.os.trans h1.os,h2.tape.trans h1.tape,h2.output.trans h1.output,Nat.le_trans h1.size h2.size,fun k hk hne=>(h2.block k (by have:=h1.size;omega) hne).trans (h1.block k hk hne)⟩
structure Eng.In (x:Eng):Prop where
 c:x.c.In
 sl:x.ss.length≤maxLen
 ss:∀i,i<x.ss.length→(x.ss.getD i Cr.zero).a.size≤maxLen
 el:x.es.length≤maxLen
 es:∀e∈x.es,e.i.size≤maxLen
 wl:x.ws.length≤maxLen
 ws:∀e∈x.ws,e.In
 dl:x.ds.length≤maxLen
 ds:∀d∈x.ds,d.In∧(Lit.int .i64 d.mo).wf=true
 fr:(Lit.int .i64 x.fr).wf=true
structure Eng.Small (x:Eng):Prop where
 c:x.c.Small
 sl:x.ss.length≤1048576
 ss:∀i,i<x.ss.length→(x.ss.getD i Cr.zero).a.size≤1048576
 el:x.es.length≤1048576
 es:∀e∈x.es,e.i.size≤1048576
 wl:x.ws.length≤1048576
 ws:∀i,i<x.ws.length→(x.ws.getD i WinR.Wd.zero).Small
 dl:x.ds.length≤1048576
 ds:∀d∈x.ds,d.Sm
theorem dy_kq {base g t k:Nat} {ds:List DocR.D} {w w':World} (h:LedR.DY g t k ds w) (hg:g<w.heap.size) (hk:Kq base w w') (hb:base≤g):LedR.DY g t k ds w':=fun j hj=>by
 obtain ⟨la,lc,c3,hn⟩:=h j hj
 exact ⟨la,lc,(hk.cell hb hg _).trans c3,hn.imp id (fun ⟨g',e1,e2,e3,e4⟩=>⟨g',e1,e2,e3,hk.pt e4 (by omega)⟩)⟩
theorem dw_kq {base g k:Nat} {ds:List DocR.D} {w w':World} (h:LedR.DW g k ds w) (hg:g<w.heap.size) (hk:Kq base w w') (hb:base≤g):LedR.DW g k ds w':=by
 intro j hj
 obtain ⟨la,lc,c0,c1,c2,c3,hL,hn⟩:=h j hj
 have f:=fun o=>hk.cell hb hg o
 refine ⟨la,lc,(f _).trans c0,(f _).trans c1,(f _).trans c2,(f _).trans c3,rws_kq hL hk (hn.imp id (fun ⟨g',e1,e2,_⟩ b off e=>by rw [e1] at e;simp at e;omega)),hn.imp id (fun ⟨g',e1,e2,e3,e4⟩=>⟨g',e1,e2,by have:=hk.size;omega,hk.pt e4 (by omega)⟩)⟩
set_option maxHeartbeats 4000000 in
theorem sz_in (ma:Option Addr) (ml mc:Nat) (ca:Option Addr) (cl cc:Nat) (sa:Option Addr) (sl sc:Nat) (ea:Option Addr) (el ec:Nat) (ua:Option Addr) (ul uc:Nat) (da:Option Addr) (dl dc:Nat) (fr:Int) (P0 P1 P2 P3 P4:Prop) (w:World)
 (h0:∀W,Below w.heap.size w W→Calls Tryz.prog 13 #[.agg #[.slice ma ml mc,.slice ca cl cc],.int .i64 1048576] W fun e w'=>SzOut 1048576 P0 e∧Below W.heap.size W w')
 (h1:∀W L,0≤L→L≤1048576→Below w.heap.size w W→Calls Tryz.prog 14 #[.slice sa sl sc,.int .i64 L] W fun e w'=>SzOut L P1 e∧Below W.heap.size W w')
 (h2:∀W L,0≤L→L≤1048576→Below w.heap.size w W→Calls Tryz.prog 15 #[.slice ea el ec,.int .i64 L] W fun e w'=>SzOut L P2 e∧Below W.heap.size W w')
 (h3:∀W L,0≤L→L≤1048576→Below w.heap.size w W→Calls Tryz.prog 16 #[.slice ua ul uc,.int .i64 L] W fun e w'=>SzOut L P3 e∧Below W.heap.size W w')
 (h4:∀W L,0≤L→L≤1048576→Below w.heap.size w W→Calls Tryz.prog 17 #[.slice da dl dc,.int .i64 L] W fun e w'=>SzOut L P4 e∧Below W.heap.size W w') :
 Calls Tryz.prog 4 #[.agg #[.slice ma ml mc,.slice ca cl cc,.slice sa sl sc,.slice ea el ec,.slice ua ul uc,.slice da dl dc,.int .i64 fr],.int .i64 1048576] w fun e w'=>SzOut 1048576 (P0∧P1∧P2∧P3∧P4) e∧Below w.heap.size w w':=by
 have H0:=H_ h0
 have H1:=H_ h1
 have H2:=H_ h2
 have H3:=H_ h3
 have H4:=H_ h4
 have HF:Hid (∀L:Int,0≤L→L≤1048576→P0→P1→P2→P3→P4→SzOut 1048576 (P0∧P1∧P2∧P3∧P4) (.returned (.int .i64 L))):=H_ (fun L a b c0 c1 c2 c3 c4=>⟨L,rfl,.inr ⟨a,b,c0,c1,c2,c3,c4⟩⟩)
 have HN:Hid (SzOut 1048576 (P0∧P1∧P2∧P3∧P4) (.returned (.int .i64 (-1)))):=H_ ⟨-1,rfl,.inl rfl⟩
 generalize SzOut 1048576 (P0∧P1∧P2∧P3∧P4)=PO at *
 have HB0:Hid (Below w.heap.size w (w.alloc (.cells #[.slice ma ml mc,.slice ca cl cc,.slice sa sl sc,.slice ea el ec,.slice ua ul uc,.slice da dl dc,.int .i64 fr] 31))):=H_ ((Below.refl _ _).alloc (Nat.le_refl _) _)
 have HX0:Hid (Blk w.heap.size [.slice ma ml mc,.slice ca cl cc,.slice sa sl sc,.slice ea el ec,.slice ua ul uc,.slice da dl dc,.int .i64 fr] (w.alloc (.cells #[.slice ma ml mc,.slice ca cl cc,.slice sa sl sc,.slice ea el ec,.slice ua ul uc,.slice da dl dc,.int .i64 fr] 31))):=H_ (Blk.new w _ _)
 clear h0 h1 h2 h3 h4
 go_enter Tryz.func4,Tryz.ntmps4
 go_wp2_with fail
 refine (H0.out _ HB0.out).mono ?_
 rintro e w1 ⟨⟨L1,rfl,hL⟩,hb⟩
 have HB1:=H_ (HB0.out.trans (hb.mono HB0.out.size))
 have HX1:=H_ (HX0.out.below hb)
 clear hb HB0 HX0
 rcases hL with rfl|⟨l1,q1,hp⟩
 ·go_wp2_with fail
  go_ret
  exact ⟨HN.out,HB1.out⟩
 have G1:=H_ hp
 have g1:¬L1<0:=by omega
 clear hp
 have xl:=HX1.out.1
 have x0:w1.cell? ⟨w.heap.size,0,none⟩=some (.slice ma ml mc):=HX1.out.2 0 (by simp)
 have x1:w1.cell? ⟨w.heap.size,1,none⟩=some (.slice ca cl cc):=HX1.out.2 1 (by simp)
 have x2:w1.cell? ⟨w.heap.size,2,none⟩=some (.slice sa sl sc):=HX1.out.2 2 (by simp)
 have x3:w1.cell? ⟨w.heap.size,3,none⟩=some (.slice ea el ec):=HX1.out.2 3 (by simp)
 have x4:w1.cell? ⟨w.heap.size,4,none⟩=some (.slice ua ul uc):=HX1.out.2 4 (by simp)
 have x5:w1.cell? ⟨w.heap.size,5,none⟩=some (.slice da dl dc):=HX1.out.2 5 (by simp)
 have x6:w1.cell? ⟨w.heap.size,6,none⟩=some (.int .i64 fr):=HX1.out.2 6 (by simp)
 have HC:=H_ (H1.out w1 L1 l1 (by omega) HB1.out)
 go_wp2_with fail
 refine HC.out.mono ?_
 clear HC
 rintro e w2 ⟨⟨L2,rfl,hL⟩,hb⟩
 have HB2:=H_ (HB1.out.trans (hb.mono HB1.out.size))
 have HX2:=H_ (HX1.out.below hb)
 clear hb HB1 HX1
 clear xl x0 x1 x2 x3 x4 x5 x6
 rcases hL with rfl|⟨l2,q2,hp⟩
 ·go_wp2_with fail
  go_ret
  exact ⟨HN.out,HB2.out⟩
 have G2:=H_ hp
 have g2:¬L2<0:=by omega
 clear hp
 have xl:=HX2.out.1
 have x0:w2.cell? ⟨w.heap.size,0,none⟩=some (.slice ma ml mc):=HX2.out.2 0 (by simp)
 have x1:w2.cell? ⟨w.heap.size,1,none⟩=some (.slice ca cl cc):=HX2.out.2 1 (by simp)
 have x2:w2.cell? ⟨w.heap.size,2,none⟩=some (.slice sa sl sc):=HX2.out.2 2 (by simp)
 have x3:w2.cell? ⟨w.heap.size,3,none⟩=some (.slice ea el ec):=HX2.out.2 3 (by simp)
 have x4:w2.cell? ⟨w.heap.size,4,none⟩=some (.slice ua ul uc):=HX2.out.2 4 (by simp)
 have x5:w2.cell? ⟨w.heap.size,5,none⟩=some (.slice da dl dc):=HX2.out.2 5 (by simp)
 have x6:w2.cell? ⟨w.heap.size,6,none⟩=some (.int .i64 fr):=HX2.out.2 6 (by simp)
 have HC:=H_ (H2.out w2 L2 l2 (by omega) HB2.out)
 go_wp2_with fail
 refine HC.out.mono ?_
 clear HC
 rintro e w3 ⟨⟨L3,rfl,hL⟩,hb⟩
 have HB3:=H_ (HB2.out.trans (hb.mono HB2.out.size))
 have HX3:=H_ (HX2.out.below hb)
 clear hb HB2 HX2
 clear xl x0 x1 x2 x3 x4 x5 x6
 rcases hL with rfl|⟨l3,q3,hp⟩
 ·go_wp2_with fail
  go_ret
  exact ⟨HN.out,HB3.out⟩
 have G3:=H_ hp
 have g3:¬L3<0:=by omega
 clear hp
 have xl:=HX3.out.1
 have x0:w3.cell? ⟨w.heap.size,0,none⟩=some (.slice ma ml mc):=HX3.out.2 0 (by simp)
 have x1:w3.cell? ⟨w.heap.size,1,none⟩=some (.slice ca cl cc):=HX3.out.2 1 (by simp)
 have x2:w3.cell? ⟨w.heap.size,2,none⟩=some (.slice sa sl sc):=HX3.out.2 2 (by simp)
 have x3:w3.cell? ⟨w.heap.size,3,none⟩=some (.slice ea el ec):=HX3.out.2 3 (by simp)
 have x4:w3.cell? ⟨w.heap.size,4,none⟩=some (.slice ua ul uc):=HX3.out.2 4 (by simp)
 have x5:w3.cell? ⟨w.heap.size,5,none⟩=some (.slice da dl dc):=HX3.out.2 5 (by simp)
 have x6:w3.cell? ⟨w.heap.size,6,none⟩=some (.int .i64 fr):=HX3.out.2 6 (by simp)
 have HC:=H_ (H3.out w3 L3 l3 (by omega) HB3.out)
 go_wp2_with fail
 refine HC.out.mono ?_
 clear HC
 rintro e w4 ⟨⟨L4,rfl,hL⟩,hb⟩
 have HB4:=H_ (HB3.out.trans (hb.mono HB3.out.size))
 have HX4:=H_ (HX3.out.below hb)
 clear hb HB3 HX3
 clear xl x0 x1 x2 x3 x4 x5 x6
 rcases hL with rfl|⟨l4,q4,hp⟩
 ·go_wp2_with fail
  go_ret
  exact ⟨HN.out,HB4.out⟩
 have G4:=H_ hp
 have g4:¬L4<0:=by omega
 clear hp
 have xl:=HX4.out.1
 have x0:w4.cell? ⟨w.heap.size,0,none⟩=some (.slice ma ml mc):=HX4.out.2 0 (by simp)
 have x1:w4.cell? ⟨w.heap.size,1,none⟩=some (.slice ca cl cc):=HX4.out.2 1 (by simp)
 have x2:w4.cell? ⟨w.heap.size,2,none⟩=some (.slice sa sl sc):=HX4.out.2 2 (by simp)
 have x3:w4.cell? ⟨w.heap.size,3,none⟩=some (.slice ea el ec):=HX4.out.2 3 (by simp)
 have x4:w4.cell? ⟨w.heap.size,4,none⟩=some (.slice ua ul uc):=HX4.out.2 4 (by simp)
 have x5:w4.cell? ⟨w.heap.size,5,none⟩=some (.slice da dl dc):=HX4.out.2 5 (by simp)
 have x6:w4.cell? ⟨w.heap.size,6,none⟩=some (.int .i64 fr):=HX4.out.2 6 (by simp)
 have HC:=H_ (H4.out w4 L4 l4 (by omega) HB4.out)
 go_wp2_with fail
 refine HC.out.mono ?_
 clear HC
 rintro e w5 ⟨⟨L5,rfl,hL⟩,hb⟩
 have HB5:=H_ (HB4.out.trans (hb.mono HB4.out.size))
 have HX5:=H_ (HX4.out.below hb)
 clear hb HB4 HX4
 clear xl x0 x1 x2 x3 x4 x5 x6
 rcases hL with rfl|⟨l5,q5,hp⟩
 ·go_wp2_with fail
  go_ret
  exact ⟨HN.out,HB5.out⟩
 have G5:=H_ hp
 have g5:¬L5<0:=by omega
 clear hp
 have HLE:Hid (L5≤1048576):=H_ (by omega)
 clear q1 q2 q3 q4 q5
 go_wp2_with fail
 go_ret
 exact ⟨HF.out _ l5 HLE.out G1.out G2.out G3.out G4.out G5.out,HB5.out⟩
theorem szEng (v:Value) (x:Eng) (w:World) (hI:x.In) (h:IsEng v x w) :
 Calls Tryz.prog 4 #[v,.int .i64 1048576] w fun e w'=>SzOut 1048576 x.Small e∧Below w.heap.size w w':=by
 obtain ⟨ma,mc,ca,cc,sa,sc,ea,ec,ua,uc,da,dc,rfl,h1,h2,h3,h4,h5,h6⟩:=h
 refine (sz_in ma _ mc ca _ cc sa _ sc ea _ ec ua _ uc da _ dc x.fr _ _ _ _ _ w (fun W hW=>szCa_any _ x.c W hI.c ⟨ma,mc,ca,cc,rfl,h1.below hW,h2.below hW⟩)
  (fun W L l0 l1 hW=>szSrs_any sa _ sc x.ss L W hI.sl l0 l1 (h3.below hW) hI.ss) (fun W L l0 l1 hW=>SeenR.szEns ea ec x.es L W hI.el l0 l1 (h4.below hW) hI.es)
  (fun W L l0 l1 hW=>WinR.szWs ua uc x.ws L W hI.wl l0 l1 (h5.below hW) hI.ws) (fun W L l0 l1 hW=>LedR.szDsL da dc x.ds L W hI.dl l0 l1 (h6.below hW) hI.ds)).mono ?_
 rintro e w' ⟨⟨L,rfl,hL⟩,hb⟩
 exact ⟨⟨L,rfl,hL.imp id (fun ⟨a,b,p0,p1,p2,p3,p4⟩=>⟨a,b,⟨p0,p1.1,p1.2,p2.1,p2.2,p3.1,p3.2,p4.1,p4.2⟩⟩)⟩,hb⟩
set_option maxRecDepth 100000 in
set_option maxHeartbeats 8000000 in
theorem to_in (ma:Option Addr) (ml mc:Nat) (ca:Option Addr) (cl cc:Nat) (sa:Option Addr) (sl sc:Nat) (ea:Option Addr) (el ec:Nat) (ua:Option Addr) (ul uc:Nat) (da:Option Addr) (dl dc:Nat) (fr:Int) (X0:Nat→Nat→Nat→Nat→World→Prop) (X1 X2 X3 X4:Nat→Nat→World→Prop) (w:World)
 (h0:∀W,Below w.heap.size w W→Calls Tryz.prog 22 #[.agg #[.slice ma ml mc,.slice ca cl cc]] W fun e w'=>(∃a b,e=.returned (.agg #[.slice (some ⟨a,0,none⟩) ml ml,.slice (some ⟨b,0,none⟩) cl cl])∧X0 W.heap.size a b w'.heap.size w')∧Below W.heap.size W w')
 (h1:∀W,Below w.heap.size w W→Calls Tryz.prog 23 #[.slice sa sl sc] W fun e w'=>e=.returned (.slice (some ⟨W.heap.size,0,none⟩) sl sl)∧X1 W.heap.size w'.heap.size w'∧Below W.heap.size W w')
 (h2:∀W,Below w.heap.size w W→Calls Tryz.prog 24 #[.slice ea el ec] W fun e w'=>e=.returned (.slice (some ⟨W.heap.size,0,none⟩) el el)∧X2 W.heap.size w'.heap.size w'∧Below W.heap.size W w')
 (h3:∀W,Below w.heap.size w W→Calls Tryz.prog 25 #[.slice ua ul uc] W fun e w'=>e=.returned (.slice (some ⟨W.heap.size,0,none⟩) ul ul)∧X3 W.heap.size w'.heap.size w'∧Below W.heap.size W w')
 (h4:∀W,Below w.heap.size w W→Calls Tryz.prog 26 #[.slice da dl dc] W fun e w'=>e=.returned (.slice (some ⟨W.heap.size,0,none⟩) dl dl)∧X4 W.heap.size w'.heap.size w'∧Below W.heap.size W w')
 (k0:∀B a b t W W',X0 B a b t W→Kq B W W'→X0 B a b t W') (k1:∀B t W W',X1 B t W→Kq B W W'→X1 B t W') (k2:∀B t W W',X2 B t W→Kq B W W'→X2 B t W') (k3:∀B t W W',X3 B t W→Kq B W W'→X3 B t W') (k4:∀B t W W',X4 B t W→Kq B W W'→X4 B t W') :
 Calls Tryz.prog 6 #[.agg #[.slice ma ml mc,.slice ca cl cc,.slice sa sl sc,.slice ea el ec,.slice ua ul uc,.slice da dl dc,.int .i64 fr]] w fun e w'=>(∃B a b t0 g1 t1 g2 t2 g3 t3 g4 t4,e=.returned (.agg #[.slice (some ⟨a,0,none⟩) ml ml,.slice (some ⟨b,0,none⟩) cl cl,.slice (some ⟨g1,0,none⟩) sl sl,.slice (some ⟨g2,0,none⟩) el el,.slice (some ⟨g3,0,none⟩) ul ul,.slice (some ⟨g4,0,none⟩) dl dl,.int .i64 fr])∧(X0 B a b t0 w'∧X1 g1 t1 w'∧X2 g2 t2 w'∧X3 g3 t3 w'∧X4 g4 t4 w')∧w.heap.size≤B∧t0≤g1∧t1≤g2∧t2≤g3∧t3≤g4∧t4≤w'.heap.size)∧Below w.heap.size w w':=by
 have H0:=H_ h0
 have K0:=H_ k0
 have H1:=H_ h1
 have K1:=H_ k1
 have H2:=H_ h2
 have K2:=H_ k2
 have H3:=H_ h3
 have K3:=H_ k3
 have H4:=H_ h4
 have K4:=H_ k4
 obtain ⟨W0,hW0⟩:∃z,z=((w.alloc (.cells #[.slice ma ml mc,.slice ca cl cc,.slice sa sl sc,.slice ea el ec,.slice ua ul uc,.slice da dl dc,.int .i64 fr] 31)).alloc (.cells #[.slice none 0 0,.slice none 0 0,.slice none 0 0,.slice none 0 0,.slice none 0 0,.slice none 0 0,.int .i64 0] 42)).alloc (.cells #[.slice none 0 0,.slice none 0 0,.slice none 0 0,.slice none 0 0,.slice none 0 0,.slice none 0 0,.int .i64 0] 42):=⟨_,rfl⟩
 have HB0:Hid (Below w.heap.size w W0):=H_ (by rw [hW0];exact (((Below.refl _ _).alloc (Nat.le_refl _) _).alloc (by simp) _).alloc (by simp;omega) _)
 have HA0:Hid (BlkW w.heap.size [.slice ma ml mc,.slice ca cl cc,.slice sa sl sc,.slice ea el ec,.slice ua ul uc,.slice da dl dc,.int .i64 fr] W0):=H_ (by rw [hW0];exact blkW_al (blkW_al (BlkW.new w [.slice ma ml mc,.slice ca cl cc,.slice sa sl sc,.slice ea el ec,.slice ua ul uc,.slice da dl dc,.int .i64 fr] 31) _) _)
 have HR0:Hid (BlkW (w.heap.size+1) [.slice none 0 0,.slice none 0 0,.slice none 0 0,.slice none 0 0,.slice none 0 0,.slice none 0 0,.int .i64 0] W0):=H_ (by
  rw [hW0]
  have:=blkW_al (BlkW.new (w.alloc (.cells #[.slice ma ml mc,.slice ca cl cc,.slice sa sl sc,.slice ea el ec,.slice ua ul uc,.slice da dl dc,.int .i64 fr] 31)) [.slice none 0 0,.slice none 0 0,.slice none 0 0,.slice none 0 0,.slice none 0 0,.slice none 0 0,.int .i64 0] 42) (.cells #[.slice none 0 0,.slice none 0 0,.slice none 0 0,.slice none 0 0,.slice none 0 0,.slice none 0 0,.int .i64 0] 42)
  simpa using this)
 have HO0:Hid (BlkW (w.heap.size+1+1) [.slice none 0 0,.slice none 0 0,.slice none 0 0,.slice none 0 0,.slice none 0 0,.slice none 0 0,.int .i64 0] W0):=H_ (by
  rw [hW0]
  have:=BlkW.new ((w.alloc (.cells #[.slice ma ml mc,.slice ca cl cc,.slice sa sl sc,.slice ea el ec,.slice ua ul uc,.slice da dl dc,.int .i64 fr] 31)).alloc (.cells #[.slice none 0 0,.slice none 0 0,.slice none 0 0,.slice none 0 0,.slice none 0 0,.slice none 0 0,.int .i64 0] 42)) [.slice none 0 0,.slice none 0 0,.slice none 0 0,.slice none 0 0,.slice none 0 0,.slice none 0 0,.int .i64 0] 42
  simpa using this)
 obtain ⟨bR,hbR⟩:∃z,z=w.heap.size+1:=⟨_,rfl⟩
 obtain ⟨bO,hbO⟩:∃z,z=bR+1:=⟨_,rfl⟩
 rw [←hbR] at HR0 HO0
 rw [←hbO] at HO0
 have hr1:w.heap.size<bR:=by omega
 have hr2:bR<bO:=by omega
 have HW:=H_ hW0
 have HBR:=H_ hbR
 have HBO:=H_ hbO
 clear hW0 hbR hbO h0 k0 h1 k1 h2 k2 h3 k3 h4 k4
 go_enter Tryz.func6,Tryz.ntmps6
 go_wp2_with fail
 rw [←HW.out]
 rw [←HBR.out,←HBO.out]
 clear HW HBR HBO
 refine (H0.out _ HB0.out).mono ?_
 rintro e w1 ⟨⟨a,b,rfl,hx⟩,hb⟩
 obtain ⟨B,hBB⟩:∃z,z=W0.heap.size:=⟨_,rfl⟩
 rw [←hBB] at hx
 have hlow:bO<B:=by have:=HO0.out.1.1;omega
 have HLB:Hid (w.heap.size≤B):=H_ (by omega)
 clear hBB
 obtain ⟨t0,ht⟩:∃z,z=w1.heap.size:=⟨_,rfl⟩
 rw [←ht] at hx
 have HT0:=H_ ht
 clear ht
 have hx0:=H_ hx
 clear hx
 have hB:=HB0.out.trans (hb.mono HB0.out.size)
 have hA:=HA0.out.below hb
 have hR:=HR0.out.below hb
 have hO:=HO0.out.below hb
 have Q0:=H_ (Kq.refl B w1)
 clear hb HB0 HA0 HR0 HO0
 obtain ⟨⟨ol,ok⟩,of⟩:=hO
 have o0:w1.cell? ⟨bO,0,none⟩=some (.slice none 0 0):=ok 0 (by simp)
 have z0:w1.frozen? ⟨bO,0,none⟩=false:=of 0 (by simp)
 have o1:w1.cell? ⟨bO,1,none⟩=some (.slice none 0 0):=ok 1 (by simp)
 have z1:w1.frozen? ⟨bO,1,none⟩=false:=of 1 (by simp)
 have hO2:BlkW bO [.slice none 0 0,.slice none 0 0,.slice none 0 0,.slice none 0 0,.slice none 0 0,.slice none 0 0,.int .i64 0] w1:=⟨⟨ol,ok⟩,of⟩
 clear ok of
 have hg:w1.grownBy ((w1.setCell ⟨bO,0,none⟩ (.slice (some ⟨a,0,none⟩) ml ml)).setCell ⟨bO,1,none⟩ (.slice (some ⟨b,0,none⟩) cl cl)) (some bO):=gtr2 (RowG.grown_set _ _ _ _) (RowG.grown_set _ _ _ _)
 have hO3:=((hO2).set 0 (.slice (some ⟨a,0,none⟩) ml ml) (by simp)).set 1 (.slice (some ⟨b,0,none⟩) cl cl) (by simp)
 simp only [List.set_cons_zero,List.set_cons_succ] at hO3
 have hB3:=hB.grown hg hB.size (fun _ e=>by cases e;omega)
 have hA3:=blkW_gr hA hg (by omega)
 have hR3:=blkW_gr hR hg (by omega)
 have hQ0:=Q0.out.chg (Chg.grown (S:=fun b=>b=bO) (Chg.refl _ _) hg rfl) (fun b q=>by omega)
 obtain ⟨v1,hv⟩:∃z,z=((w1.setCell ⟨bO,0,none⟩ (.slice (some ⟨a,0,none⟩) ml ml)).setCell ⟨bO,1,none⟩ (.slice (some ⟨b,0,none⟩) cl cl)):=⟨_,rfl⟩
 rw [←hv] at hB3 hA3 hR3 hO3 hQ0
 have HS1:Hid (t0≤v1.heap.size):=H_ (by rw [hv];have:=hg.size;have:=HT0.out;omega)
 clear HT0
 have HV:=H_ hv
 have HB:=H_ hB3
 have HA:=H_ hA3
 have HR:=H_ hR3
 have HO:=H_ hO3
 replace Q0:=H_ hQ0
 obtain ⟨⟨al,ak⟩,_⟩:=hA3
 have a0:v1.cell? ⟨w.heap.size,0,none⟩=some (.slice ma ml mc):=ak 0 (by simp)
 have a1:v1.cell? ⟨w.heap.size,1,none⟩=some (.slice ca cl cc):=ak 1 (by simp)
 have a2:v1.cell? ⟨w.heap.size,2,none⟩=some (.slice sa sl sc):=ak 2 (by simp)
 have a3:v1.cell? ⟨w.heap.size,3,none⟩=some (.slice ea el ec):=ak 3 (by simp)
 have a4:v1.cell? ⟨w.heap.size,4,none⟩=some (.slice ua ul uc):=ak 4 (by simp)
 have a5:v1.cell? ⟨w.heap.size,5,none⟩=some (.slice da dl dc):=ak 5 (by simp)
 have a6:v1.cell? ⟨w.heap.size,6,none⟩=some (.int .i64 fr):=ak 6 (by simp)
 rw [hv] at al a0 a1 a2 a3 a4 a5 a6
 clear hv hg hB hA hR hO2 hB3 hR3 hO3 ak hQ0
 go_wp2_with fail
 rw [←HV.out]
 clear HV ol o0 z0 o1 z1
 refine (H1.out _ HB.out).mono ?_
 rintro e w2 ⟨rfl,hx,hb⟩
 obtain ⟨g1,hg1⟩:∃z,z=v1.heap.size:=⟨_,rfl⟩
 rw [←hg1] at hx ⊢
 have hlg1:bO<g1:=by have:=HO.out.1.1;omega
 have HG1:Hid (t0≤g1):=H_ (by have:=HS1.out;omega)
 clear HS1 hg1 al a0 a1 a2 a3 a4 a5 a6
 obtain ⟨t1,ht⟩:∃z,z=w2.heap.size:=⟨_,rfl⟩
 rw [←ht] at hx
 have HT1:=H_ ht
 clear ht
 have hx1:=H_ hx
 clear hx
 have hB:=HB.out.trans (hb.mono HB.out.size)
 have hA:=HA.out.below hb
 have hR:=HR.out.below hb
 have hO:=HO.out.below hb
 replace Q0:=H_ (Q0.out.below hb)
 have Q1:=H_ (Kq.refl g1 w2)
 clear hb HB HA HR HO
 obtain ⟨⟨ol,ok⟩,of⟩:=hO
 have o2:w2.cell? ⟨bO,2,none⟩=some (.slice none 0 0):=ok 2 (by simp)
 have z2:w2.frozen? ⟨bO,2,none⟩=false:=of 2 (by simp)
 have hO2:BlkW bO [.slice (some ⟨a,0,none⟩) ml ml,.slice (some ⟨b,0,none⟩) cl cl,.slice none 0 0,.slice none 0 0,.slice none 0 0,.slice none 0 0,.int .i64 0] w2:=⟨⟨ol,ok⟩,of⟩
 clear ok of
 have hg:w2.grownBy (w2.setCell ⟨bO,2,none⟩ (.slice (some ⟨g1,0,none⟩) sl sl)) (some bO):=RowG.grown_set _ _ _ _
 have hO3:=(hO2).set 2 (.slice (some ⟨g1,0,none⟩) sl sl) (by simp)
 simp only [List.set_cons_zero,List.set_cons_succ] at hO3
 have hB3:=hB.grown hg hB.size (fun _ e=>by cases e;omega)
 have hA3:=blkW_gr hA hg (by omega)
 have hR3:=blkW_gr hR hg (by omega)
 have hQ0:=Q0.out.chg (Chg.grown (S:=fun b=>b=bO) (Chg.refl _ _) hg rfl) (fun b q=>by omega)
 have hQ1:=Q1.out.chg (Chg.grown (S:=fun b=>b=bO) (Chg.refl _ _) hg rfl) (fun b q=>by omega)
 obtain ⟨v2,hv⟩:∃z,z=(w2.setCell ⟨bO,2,none⟩ (.slice (some ⟨g1,0,none⟩) sl sl)):=⟨_,rfl⟩
 rw [←hv] at hB3 hA3 hR3 hO3 hQ0 hQ1
 have HS2:Hid (t1≤v2.heap.size):=H_ (by rw [hv];have:=hg.size;have:=HT1.out;omega)
 clear HT1
 have HV:=H_ hv
 have HB:=H_ hB3
 have HA:=H_ hA3
 have HR:=H_ hR3
 have HO:=H_ hO3
 replace Q0:=H_ hQ0
 replace Q1:=H_ hQ1
 obtain ⟨⟨al,ak⟩,_⟩:=hA3
 have a0:v2.cell? ⟨w.heap.size,0,none⟩=some (.slice ma ml mc):=ak 0 (by simp)
 have a1:v2.cell? ⟨w.heap.size,1,none⟩=some (.slice ca cl cc):=ak 1 (by simp)
 have a2:v2.cell? ⟨w.heap.size,2,none⟩=some (.slice sa sl sc):=ak 2 (by simp)
 have a3:v2.cell? ⟨w.heap.size,3,none⟩=some (.slice ea el ec):=ak 3 (by simp)
 have a4:v2.cell? ⟨w.heap.size,4,none⟩=some (.slice ua ul uc):=ak 4 (by simp)
 have a5:v2.cell? ⟨w.heap.size,5,none⟩=some (.slice da dl dc):=ak 5 (by simp)
 have a6:v2.cell? ⟨w.heap.size,6,none⟩=some (.int .i64 fr):=ak 6 (by simp)
 rw [hv] at al a0 a1 a2 a3 a4 a5 a6
 clear hv hg hB hA hR hO2 hB3 hR3 hO3 ak hQ0 hQ1
 go_wp2_with fail
 rw [←HV.out]
 clear HV ol o2 z2
 refine (H2.out _ HB.out).mono ?_
 rintro e w3 ⟨rfl,hx,hb⟩
 obtain ⟨g2,hg2⟩:∃z,z=v2.heap.size:=⟨_,rfl⟩
 rw [←hg2] at hx ⊢
 have hlg2:bO<g2:=by have:=HO.out.1.1;omega
 have HG2:Hid (t1≤g2):=H_ (by have:=HS2.out;omega)
 clear HS2 hg2 al a0 a1 a2 a3 a4 a5 a6
 obtain ⟨t2,ht⟩:∃z,z=w3.heap.size:=⟨_,rfl⟩
 rw [←ht] at hx
 have HT2:=H_ ht
 clear ht
 have hx2:=H_ hx
 clear hx
 have hB:=HB.out.trans (hb.mono HB.out.size)
 have hA:=HA.out.below hb
 have hR:=HR.out.below hb
 have hO:=HO.out.below hb
 replace Q0:=H_ (Q0.out.below hb)
 replace Q1:=H_ (Q1.out.below hb)
 have Q2:=H_ (Kq.refl g2 w3)
 clear hb HB HA HR HO
 obtain ⟨⟨ol,ok⟩,of⟩:=hO
 have o3:w3.cell? ⟨bO,3,none⟩=some (.slice none 0 0):=ok 3 (by simp)
 have z3:w3.frozen? ⟨bO,3,none⟩=false:=of 3 (by simp)
 have hO2:BlkW bO [.slice (some ⟨a,0,none⟩) ml ml,.slice (some ⟨b,0,none⟩) cl cl,.slice (some ⟨g1,0,none⟩) sl sl,.slice none 0 0,.slice none 0 0,.slice none 0 0,.int .i64 0] w3:=⟨⟨ol,ok⟩,of⟩
 clear ok of
 have hg:w3.grownBy (w3.setCell ⟨bO,3,none⟩ (.slice (some ⟨g2,0,none⟩) el el)) (some bO):=RowG.grown_set _ _ _ _
 have hO3:=(hO2).set 3 (.slice (some ⟨g2,0,none⟩) el el) (by simp)
 simp only [List.set_cons_zero,List.set_cons_succ] at hO3
 have hB3:=hB.grown hg hB.size (fun _ e=>by cases e;omega)
 have hA3:=blkW_gr hA hg (by omega)
 have hR3:=blkW_gr hR hg (by omega)
 have hQ0:=Q0.out.chg (Chg.grown (S:=fun b=>b=bO) (Chg.refl _ _) hg rfl) (fun b q=>by omega)
 have hQ1:=Q1.out.chg (Chg.grown (S:=fun b=>b=bO) (Chg.refl _ _) hg rfl) (fun b q=>by omega)
 have hQ2:=Q2.out.chg (Chg.grown (S:=fun b=>b=bO) (Chg.refl _ _) hg rfl) (fun b q=>by omega)
 obtain ⟨v3,hv⟩:∃z,z=(w3.setCell ⟨bO,3,none⟩ (.slice (some ⟨g2,0,none⟩) el el)):=⟨_,rfl⟩
 rw [←hv] at hB3 hA3 hR3 hO3 hQ0 hQ1 hQ2
 have HS3:Hid (t2≤v3.heap.size):=H_ (by rw [hv];have:=hg.size;have:=HT2.out;omega)
 clear HT2
 have HV:=H_ hv
 have HB:=H_ hB3
 have HA:=H_ hA3
 have HR:=H_ hR3
 have HO:=H_ hO3
 replace Q0:=H_ hQ0
 replace Q1:=H_ hQ1
 replace Q2:=H_ hQ2
 obtain ⟨⟨al,ak⟩,_⟩:=hA3
 have a0:v3.cell? ⟨w.heap.size,0,none⟩=some (.slice ma ml mc):=ak 0 (by simp)
 have a1:v3.cell? ⟨w.heap.size,1,none⟩=some (.slice ca cl cc):=ak 1 (by simp)
 have a2:v3.cell? ⟨w.heap.size,2,none⟩=some (.slice sa sl sc):=ak 2 (by simp)
 have a3:v3.cell? ⟨w.heap.size,3,none⟩=some (.slice ea el ec):=ak 3 (by simp)
 have a4:v3.cell? ⟨w.heap.size,4,none⟩=some (.slice ua ul uc):=ak 4 (by simp)
 have a5:v3.cell? ⟨w.heap.size,5,none⟩=some (.slice da dl dc):=ak 5 (by simp)
 have a6:v3.cell? ⟨w.heap.size,6,none⟩=some (.int .i64 fr):=ak 6 (by simp)
 rw [hv] at al a0 a1 a2 a3 a4 a5 a6
 clear hv hg hB hA hR hO2 hB3 hR3 hO3 ak hQ0 hQ1 hQ2
 go_wp2_with fail
 rw [←HV.out]
 clear HV ol o3 z3
 refine (H3.out _ HB.out).mono ?_
 rintro e w4 ⟨rfl,hx,hb⟩
 obtain ⟨g3,hg3⟩:∃z,z=v3.heap.size:=⟨_,rfl⟩
 rw [←hg3] at hx ⊢
 have hlg3:bO<g3:=by have:=HO.out.1.1;omega
 have HG3:Hid (t2≤g3):=H_ (by have:=HS3.out;omega)
 clear HS3 hg3 al a0 a1 a2 a3 a4 a5 a6
 obtain ⟨t3,ht⟩:∃z,z=w4.heap.size:=⟨_,rfl⟩
 rw [←ht] at hx
 have HT3:=H_ ht
 clear ht
 have hx3:=H_ hx
 clear hx
 have hB:=HB.out.trans (hb.mono HB.out.size)
 have hA:=HA.out.below hb
 have hR:=HR.out.below hb
 have hO:=HO.out.below hb
 replace Q0:=H_ (Q0.out.below hb)
 replace Q1:=H_ (Q1.out.below hb)
 replace Q2:=H_ (Q2.out.below hb)
 have Q3:=H_ (Kq.refl g3 w4)
 clear hb HB HA HR HO
 obtain ⟨⟨ol,ok⟩,of⟩:=hO
 have o4:w4.cell? ⟨bO,4,none⟩=some (.slice none 0 0):=ok 4 (by simp)
 have z4:w4.frozen? ⟨bO,4,none⟩=false:=of 4 (by simp)
 have hO2:BlkW bO [.slice (some ⟨a,0,none⟩) ml ml,.slice (some ⟨b,0,none⟩) cl cl,.slice (some ⟨g1,0,none⟩) sl sl,.slice (some ⟨g2,0,none⟩) el el,.slice none 0 0,.slice none 0 0,.int .i64 0] w4:=⟨⟨ol,ok⟩,of⟩
 clear ok of
 have hg:w4.grownBy (w4.setCell ⟨bO,4,none⟩ (.slice (some ⟨g3,0,none⟩) ul ul)) (some bO):=RowG.grown_set _ _ _ _
 have hO3:=(hO2).set 4 (.slice (some ⟨g3,0,none⟩) ul ul) (by simp)
 simp only [List.set_cons_zero,List.set_cons_succ] at hO3
 have hB3:=hB.grown hg hB.size (fun _ e=>by cases e;omega)
 have hA3:=blkW_gr hA hg (by omega)
 have hR3:=blkW_gr hR hg (by omega)
 have hQ0:=Q0.out.chg (Chg.grown (S:=fun b=>b=bO) (Chg.refl _ _) hg rfl) (fun b q=>by omega)
 have hQ1:=Q1.out.chg (Chg.grown (S:=fun b=>b=bO) (Chg.refl _ _) hg rfl) (fun b q=>by omega)
 have hQ2:=Q2.out.chg (Chg.grown (S:=fun b=>b=bO) (Chg.refl _ _) hg rfl) (fun b q=>by omega)
 have hQ3:=Q3.out.chg (Chg.grown (S:=fun b=>b=bO) (Chg.refl _ _) hg rfl) (fun b q=>by omega)
 obtain ⟨v4,hv⟩:∃z,z=(w4.setCell ⟨bO,4,none⟩ (.slice (some ⟨g3,0,none⟩) ul ul)):=⟨_,rfl⟩
 rw [←hv] at hB3 hA3 hR3 hO3 hQ0 hQ1 hQ2 hQ3
 have HS4:Hid (t3≤v4.heap.size):=H_ (by rw [hv];have:=hg.size;have:=HT3.out;omega)
 clear HT3
 have HV:=H_ hv
 have HB:=H_ hB3
 have HA:=H_ hA3
 have HR:=H_ hR3
 have HO:=H_ hO3
 replace Q0:=H_ hQ0
 replace Q1:=H_ hQ1
 replace Q2:=H_ hQ2
 replace Q3:=H_ hQ3
 obtain ⟨⟨al,ak⟩,_⟩:=hA3
 have a0:v4.cell? ⟨w.heap.size,0,none⟩=some (.slice ma ml mc):=ak 0 (by simp)
 have a1:v4.cell? ⟨w.heap.size,1,none⟩=some (.slice ca cl cc):=ak 1 (by simp)
 have a2:v4.cell? ⟨w.heap.size,2,none⟩=some (.slice sa sl sc):=ak 2 (by simp)
 have a3:v4.cell? ⟨w.heap.size,3,none⟩=some (.slice ea el ec):=ak 3 (by simp)
 have a4:v4.cell? ⟨w.heap.size,4,none⟩=some (.slice ua ul uc):=ak 4 (by simp)
 have a5:v4.cell? ⟨w.heap.size,5,none⟩=some (.slice da dl dc):=ak 5 (by simp)
 have a6:v4.cell? ⟨w.heap.size,6,none⟩=some (.int .i64 fr):=ak 6 (by simp)
 rw [hv] at al a0 a1 a2 a3 a4 a5 a6
 clear hv hg hB hA hR hO2 hB3 hR3 hO3 ak hQ0 hQ1 hQ2 hQ3
 go_wp2_with fail
 rw [←HV.out]
 clear HV ol o4 z4
 refine (H4.out _ HB.out).mono ?_
 rintro e w5 ⟨rfl,hx,hb⟩
 obtain ⟨g4,hg4⟩:∃z,z=v4.heap.size:=⟨_,rfl⟩
 rw [←hg4] at hx ⊢
 have hlg4:bO<g4:=by have:=HO.out.1.1;omega
 have HG4:Hid (t3≤g4):=H_ (by have:=HS4.out;omega)
 clear HS4 hg4 al a0 a1 a2 a3 a4 a5 a6
 obtain ⟨t4,ht⟩:∃z,z=w5.heap.size:=⟨_,rfl⟩
 rw [←ht] at hx
 have HT4:=H_ ht
 clear ht
 have hx4:=H_ hx
 clear hx
 have hB:=HB.out.trans (hb.mono HB.out.size)
 have hA:=HA.out.below hb
 have hR:=HR.out.below hb
 have hO:=HO.out.below hb
 replace Q0:=H_ (Q0.out.below hb)
 replace Q1:=H_ (Q1.out.below hb)
 replace Q2:=H_ (Q2.out.below hb)
 replace Q3:=H_ (Q3.out.below hb)
 have Q4:=H_ (Kq.refl g4 w5)
 clear hb HB HA HR HO
 obtain ⟨⟨ol,ok⟩,of⟩:=hO
 obtain ⟨⟨al,ak⟩,_⟩:=hA
 obtain ⟨⟨rl,rk⟩,rf⟩:=hR
 have o0:w5.cell? ⟨bO,0,none⟩=some (.slice (some ⟨a,0,none⟩) ml ml):=ok 0 (by simp)
 have z0:w5.frozen? ⟨bO,0,none⟩=false:=of 0 (by simp)
 have a0:w5.cell? ⟨w.heap.size,0,none⟩=some (.slice ma ml mc):=ak 0 (by simp)
 have r0:w5.cell? ⟨bR,0,none⟩=some (.slice none 0 0):=rk 0 (by simp)
 have y0:w5.frozen? ⟨bR,0,none⟩=false:=rf 0 (by simp)
 have o1:w5.cell? ⟨bO,1,none⟩=some (.slice (some ⟨b,0,none⟩) cl cl):=ok 1 (by simp)
 have z1:w5.frozen? ⟨bO,1,none⟩=false:=of 1 (by simp)
 have a1:w5.cell? ⟨w.heap.size,1,none⟩=some (.slice ca cl cc):=ak 1 (by simp)
 have r1:w5.cell? ⟨bR,1,none⟩=some (.slice none 0 0):=rk 1 (by simp)
 have y1:w5.frozen? ⟨bR,1,none⟩=false:=rf 1 (by simp)
 have o2:w5.cell? ⟨bO,2,none⟩=some (.slice (some ⟨g1,0,none⟩) sl sl):=ok 2 (by simp)
 have z2:w5.frozen? ⟨bO,2,none⟩=false:=of 2 (by simp)
 have a2:w5.cell? ⟨w.heap.size,2,none⟩=some (.slice sa sl sc):=ak 2 (by simp)
 have r2:w5.cell? ⟨bR,2,none⟩=some (.slice none 0 0):=rk 2 (by simp)
 have y2:w5.frozen? ⟨bR,2,none⟩=false:=rf 2 (by simp)
 have o3:w5.cell? ⟨bO,3,none⟩=some (.slice (some ⟨g2,0,none⟩) el el):=ok 3 (by simp)
 have z3:w5.frozen? ⟨bO,3,none⟩=false:=of 3 (by simp)
 have a3:w5.cell? ⟨w.heap.size,3,none⟩=some (.slice ea el ec):=ak 3 (by simp)
 have r3:w5.cell? ⟨bR,3,none⟩=some (.slice none 0 0):=rk 3 (by simp)
 have y3:w5.frozen? ⟨bR,3,none⟩=false:=rf 3 (by simp)
 have o4:w5.cell? ⟨bO,4,none⟩=some (.slice (some ⟨g3,0,none⟩) ul ul):=ok 4 (by simp)
 have z4:w5.frozen? ⟨bO,4,none⟩=false:=of 4 (by simp)
 have a4:w5.cell? ⟨w.heap.size,4,none⟩=some (.slice ua ul uc):=ak 4 (by simp)
 have r4:w5.cell? ⟨bR,4,none⟩=some (.slice none 0 0):=rk 4 (by simp)
 have y4:w5.frozen? ⟨bR,4,none⟩=false:=rf 4 (by simp)
 have o5:w5.cell? ⟨bO,5,none⟩=some (.slice none 0 0):=ok 5 (by simp)
 have z5:w5.frozen? ⟨bO,5,none⟩=false:=of 5 (by simp)
 have a5:w5.cell? ⟨w.heap.size,5,none⟩=some (.slice da dl dc):=ak 5 (by simp)
 have r5:w5.cell? ⟨bR,5,none⟩=some (.slice none 0 0):=rk 5 (by simp)
 have y5:w5.frozen? ⟨bR,5,none⟩=false:=rf 5 (by simp)
 have o6:w5.cell? ⟨bO,6,none⟩=some (.int .i64 0):=ok 6 (by simp)
 have z6:w5.frozen? ⟨bO,6,none⟩=false:=of 6 (by simp)
 have a6:w5.cell? ⟨w.heap.size,6,none⟩=some (.int .i64 fr):=ak 6 (by simp)
 have r6:w5.cell? ⟨bR,6,none⟩=some (.int .i64 0):=rk 6 (by simp)
 have y6:w5.frozen? ⟨bR,6,none⟩=false:=rf 6 (by simp)
 have hgO:w5.grownBy ((w5.setCell ⟨bO,5,none⟩ (.slice (some ⟨g4,0,none⟩) dl dl)).setCell ⟨bO,6,none⟩ (.int .i64 fr)) (some bO):=gtr2 (RowG.grown_set _ _ _ _) (RowG.grown_set _ _ _ _)
 have hgR:=StR.stL_grown bR [.slice (some ⟨a,0,none⟩) ml ml,.slice (some ⟨b,0,none⟩) cl cl,.slice (some ⟨g1,0,none⟩) sl sl,.slice (some ⟨g2,0,none⟩) el el,.slice (some ⟨g3,0,none⟩) ul ul,.slice (some ⟨g4,0,none⟩) dl dl,.int .i64 fr] 0 ((w5.setCell ⟨bO,5,none⟩ (.slice (some ⟨g4,0,none⟩) dl dl)).setCell ⟨bO,6,none⟩ (.int .i64 fr))
 have HB9:=H_ ((hB.grown hgO hB.size (fun _ e=>by cases e;omega)).grown hgR (by have:=hB.size;have:=hgO.size;omega) (fun _ e=>by cases e;omega))
 replace Q0:=H_ ((Q0.out.chg (Chg.grown (S:=fun b=>b=bO) (Chg.refl _ _) hgO rfl) (fun b q=>by omega)).chg (Chg.grown (S:=fun b=>b=bR) (Chg.refl _ _) hgR rfl) (fun b q=>by omega))
 replace Q1:=H_ ((Q1.out.chg (Chg.grown (S:=fun b=>b=bO) (Chg.refl _ _) hgO rfl) (fun b q=>by omega)).chg (Chg.grown (S:=fun b=>b=bR) (Chg.refl _ _) hgR rfl) (fun b q=>by omega))
 replace Q2:=H_ ((Q2.out.chg (Chg.grown (S:=fun b=>b=bO) (Chg.refl _ _) hgO rfl) (fun b q=>by omega)).chg (Chg.grown (S:=fun b=>b=bR) (Chg.refl _ _) hgR rfl) (fun b q=>by omega))
 replace Q3:=H_ ((Q3.out.chg (Chg.grown (S:=fun b=>b=bO) (Chg.refl _ _) hgO rfl) (fun b q=>by omega)).chg (Chg.grown (S:=fun b=>b=bR) (Chg.refl _ _) hgR rfl) (fun b q=>by omega))
 replace Q4:=H_ ((Q4.out.chg (Chg.grown (S:=fun b=>b=bO) (Chg.refl _ _) hgO rfl) (fun b q=>by omega)).chg (Chg.grown (S:=fun b=>b=bR) (Chg.refl _ _) hgR rfl) (fun b q=>by omega))
 simp only [StR.stL,Nat.zero_add] at HB9 Q0 Q1 Q2 Q3 Q4
 clear ok of ak rk rf hgO hgR hB
 go_wp2_with fail
 refine bodyPost_ret (v:=.agg #[.slice (some ⟨a,0,none⟩) ml ml,.slice (some ⟨b,0,none⟩) cl cl,.slice (some ⟨g1,0,none⟩) sl sl,.slice (some ⟨g2,0,none⟩) el el,.slice (some ⟨g3,0,none⟩) ul ul,.slice (some ⟨g4,0,none⟩) dl dl,.int .i64 fr]) (by simp [results,Tryz.results6,go_sem,r0,r1,r2,r3,r4,r5,r6]) rfl ⟨⟨B,a,b,t0,g1,t1,g2,t2,g3,t3,g4,t4,rfl,⟨K0.out _ _ _ _ _ _ hx0.out Q0.out,K1.out _ _ _ _ hx1.out Q1.out,K2.out _ _ _ _ hx2.out Q2.out,K3.out _ _ _ _ hx3.out Q3.out,K4.out _ _ _ _ hx4.out Q4.out⟩,HLB.out,HG1.out,HG2.out,HG3.out,HG4.out,Nat.le_trans (Nat.le_of_eq HT4.out) Q4.out.size⟩,HB9.out⟩
def MkE (base top:Nat) (v:Value) (x:Eng) (W:World):Prop:=∃B a b t0 g1 t1 g2 t2 g3 t3 g4 t4,v=.agg #[.slice (some ⟨a,0,none⟩) x.c.ms.length x.c.ms.length,.slice (some ⟨b,0,none⟩) x.c.cs.length x.c.cs.length,.slice (some ⟨g1,0,none⟩) x.ss.length x.ss.length,.slice (some ⟨g2,0,none⟩) x.es.length x.es.length,.slice (some ⟨g3,0,none⟩) x.ws.length x.ws.length,.slice (some ⟨g4,0,none⟩) x.ds.length x.ds.length,.int .i64 x.fr] ∧
 ((NewCa B (.agg #[.slice (some ⟨a,0,none⟩) x.c.ms.length x.c.ms.length,.slice (some ⟨b,0,none⟩) x.c.cs.length x.c.cs.length]) x.c W∧b<t0)∧(Pt g1 (x.ss.length*2) W∧g1<t1)∧(Pt g2 (x.es.length*3) W∧g2<t2)∧(Pt g3 (x.ws.length*8) W∧WinR.WX g3 t3 x.ws.length x.ws W∧g3<t3)∧(Pt g4 (x.ds.length*4) W∧LedR.DY g4 t4 x.ds.length x.ds W∧g4<t4))∧base≤B∧t0≤g1∧t1≤g2∧t2≤g3∧t3≤g4∧t4≤top∧top≤W.heap.size
theorem MkE.kq {base top:Nat} {v:Value} {x:Eng} {W W':World} (h:MkE base top v x W) (hk:Kq base W W'):MkE base top v x W':=by
 obtain ⟨B,a,b,t0,g1,t1,g2,t2,g3,t3,g4,t4,e,⟨⟨h0,h1⟩,⟨h2,h3⟩,⟨h4,h5⟩,⟨h6,h7,h8⟩,⟨h9,h10,h11⟩⟩,hB,l1,l2,l3,l4,l5,l6⟩:=h
 have hs:=hk.size
 have hab:B<b:=by
  obtain ⟨g,bs,q,e1,e2,e3,_⟩:=h0
  simp only [Value.agg.injEq,Array.mk.injEq,List.cons.injEq,Value.slice.injEq,Option.some.injEq,Addr.mk.injEq,and_true] at e1
  obtain ⟨e4,e5⟩:=e1
  have:=e2.1
  omega
 exact ⟨B,a,b,t0,g1,t1,g2,t2,g3,t3,g4,t4,e,⟨⟨newca_kq h0 (hk.low hB),h1⟩,⟨hk.pt h2 (by omega),h3⟩,⟨hk.pt h4 (by omega),h5⟩,⟨hk.pt h6 (by omega),wx_kq h7 h6.lt hk (by omega),h8⟩,⟨hk.pt h9 (by omega),dy_kq h10 h9.lt hk (by omega),h11⟩⟩,hB,l1,l2,l3,l4,l5,by omega⟩
theorem toEng (v:Value) (x:Eng) (w:World) (hS:x.Small) (h:IsEng v x w) :
 Calls Tryz.prog 6 #[v] w fun e w'=>∃v',e=.returned v'∧IsEng v' x w'∧MkE w.heap.size w'.heap.size v' x w'∧Below w.heap.size w w':=by
 obtain ⟨ma,mc,ca,cc,sa,sc,ea,ec,ua,uc,da,dc,rfl,h1,h2,h3,h4,h5,h6⟩:=h
 refine (to_in ma x.c.ms.length mc ca x.c.cs.length cc sa x.ss.length sc ea x.es.length ec ua x.ws.length uc da x.ds.length dc x.fr
  (fun B a b t W=>NewCa B (.agg #[.slice (some ⟨a,0,none⟩) x.c.ms.length x.c.ms.length,.slice (some ⟨b,0,none⟩) x.c.cs.length x.c.cs.length]) x.c W∧b<t) (fun B t W=>Crs (some ⟨B,0,none⟩) x.ss.length x.ss W∧Pt B (x.ss.length*2) W∧B<t) (fun B t W=>SeenR.Ens (some ⟨B,0,none⟩) x.es W∧Pt B (x.es.length*3) W∧B<t)
  (fun B t W=>WinR.WW B x.ws.length x.ws W∧Pt B (x.ws.length*8) W∧WinR.WX B t x.ws.length x.ws W∧B<t) (fun B t W=>LedR.DW B x.ds.length x.ds W∧Pt B (x.ds.length*4) W∧LedR.DY B t x.ds.length x.ds W∧B<t) w (fun W hW=>?_) (fun W hW=>?_) (fun W hW=>?_) (fun W hW=>?_) (fun W hW=>?_)
  (fun B a b t W W' h hk=>⟨newca_kq h.1 hk,h.2⟩) (fun B t W W' h hk=>⟨crs_kq h.1 hk (Nat.le_refl _),hk.pt h.2.1 (Nat.le_refl _),h.2.2⟩) (fun B t W W' h hk=>⟨rws_kq h.1 hk (.inr (fun b off e=>by simp at e;omega)),hk.pt h.2.1 (Nat.le_refl _),h.2.2⟩) (fun B t W W' h hk=>⟨ww_kq h.1 h.2.1.lt hk (Nat.le_refl _),hk.pt h.2.1 (Nat.le_refl _),wx_kq h.2.2.1 h.2.1.lt hk (Nat.le_refl _),h.2.2.2⟩) (fun B t W W' h hk=>⟨dw_kq h.1 h.2.1.lt hk (Nat.le_refl _),hk.pt h.2.1 (Nat.le_refl _),dy_kq h.2.2.1 h.2.1.lt hk (Nat.le_refl _),h.2.2.2⟩)).mono ?_
 ·exact (toCa_any _ x.c W hS.c ⟨ma,mc,ca,cc,rfl,h1.below hW,h2.below hW⟩).mono fun e w' h=>by
   obtain ⟨⟨v',he,hN⟩,hb⟩:=h
   have hN2:=hN
   obtain ⟨g,bs,hh,rfl,_,_,_,_,hp⟩:=hN
   exact ⟨⟨g,hh,he,hN2,hp.lt⟩,hb⟩
 ·exact (toSrs_any sa _ sc x.ss W hS.sl (h3.below hW)).mono fun e w' h=>⟨h.1,⟨h.2.1,h.2.2.1,h.2.2.1.lt⟩,h.2.2.2⟩
 ·exact (SeenR.toEns_any ea ec x.es W hS.el (h4.below hW)).mono fun e w' h=>⟨h.1,⟨h.2.1,h.2.2.1,h.2.2.1.lt⟩,h.2.2.2⟩
 ·exact (WinR.toWs ua uc x.ws W hS.wl hS.ws (h5.below hW)).mono fun e w' h=>⟨h.1,⟨h.2.1,h.2.2.1,h.2.1.wx,h.2.2.1.lt⟩,h.2.2.2⟩
 ·exact (LedR.toDsM da dc x.ds W hS.dl hS.ds (h6.below hW)).mono fun e w' h=>⟨h.1,⟨h.2.2.2.2,h.2.2.2.1,LedR.DW.dy h.2.2.2.2,h.2.2.2.1.lt⟩,h.2.2.1⟩
 ·rintro e w' ⟨⟨B,a,b,t0,g1,t1,g2,t2,g3,t3,g4,t4,rfl,⟨q0,q1,q2,q3,q4⟩,hq⟩,hb⟩
  have hM:MkE w.heap.size w'.heap.size _ x w':=⟨B,a,b,t0,g1,t1,g2,t2,g3,t3,g4,t4,rfl,⟨q0,⟨q1.2.1,q1.2.2⟩,⟨q2.2.1,q2.2.2⟩,⟨q3.2.1,q3.2.2.1,q3.2.2.2⟩,⟨q4.2.1,q4.2.2.1,q4.2.2.2⟩⟩,hq.1,hq.2.1,hq.2.2.1,hq.2.2.2.1,hq.2.2.2.2.1,hq.2.2.2.2.2,Nat.le_refl _⟩
  obtain ⟨ma',mc',ca',cc',e1,e2,e3⟩:=q0.1.is
  simp only [Value.agg.injEq,Array.mk.injEq,List.cons.injEq,Value.slice.injEq,and_true,true_and] at e1
  obtain ⟨⟨rfl,rfl⟩,rfl,rfl⟩:=e1
  exact ⟨_,rfl,⟨_,_,_,_,_,_,_,_,_,_,_,_,rfl,e2,e3,q1.1,q2.1,q3.1.wns q3.2.1.lt,q4.1.dcs q4.2.1.lt⟩,hM,hb⟩
theorem eqEngA (v v':Value) (x:Eng) (w:World) (hS:x.Small) (h:IsEng v x w) (h':IsEng v' x w) :
 Calls Tryz.prog 9 #[v,v'] w fun e w'=>e=.returned (.bool true)∧Below w.heap.size w w':=by
 obtain ⟨ma,mc,ca,cc,sa,sc,ea,ec,ua,uc,da,dc,rfl,h1,h2,h3,h4,h5,h6⟩:=h
 obtain ⟨ma',mc',ca',cc',sa',sc',ea',ec',ua',uc',da',dc',rfl,h1',h2',h3',h4',h5',h6'⟩:=h'
 exact eqEng ma ma' _ mc mc' ca ca' _ cc cc' sa sa' _ sc sc' ea ea' _ ec ec' ua ua' _ uc uc' da da' _ dc dc' x.fr w (fun W hW=>eqCa_any _ _ x.c W hS.c ⟨ma,mc,ca,cc,rfl,h1.below hW,h2.below hW⟩ ⟨ma',mc',ca',cc',rfl,h1'.below hW,h2'.below hW⟩)
  (fun W hW=>eqSrs_any sa sa' _ sc sc' x.ss W hS.sl (h3.below hW) (h3'.below hW)) (fun W hW=>SeenR.eqEns_any ea ea' ec ec' x.es W hS.el (h4.below hW) (h4'.below hW)) (fun W hW=>WinR.eqWs ua ua' uc uc' x.ws W hS.wl hS.ws (h5.below hW) (h5'.below hW)) (fun W hW=>LedR.eqDs da da' dc dc' x.ds W hS.dl hS.ds (h6.below hW) (h6'.below hW))
end EngR
end Go.Proofs.YtnceeaccbcfopaaGreatDoor
