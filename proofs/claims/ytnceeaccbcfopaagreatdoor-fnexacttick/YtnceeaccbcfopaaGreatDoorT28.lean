/-
  Engines: what they read, how many letters, the law's own copies, held against each other.
  A part of an answer: what it reads as, in blocks of its own between two numbers, and what marking it promises; all of that stands as long as its blocks do.
  Lists of documents of one's own.
  The conditions stand in what each theorem says.
-/
import Derived.Test.YtnceeaccbcfopaaGreatDoorT27
set_option maxRecDepth 100000
set_option maxHeartbeats 16000000
namespace Go.Proofs.YtnceeaccbcfopaaGreatDoor
open Go.ChangeShapes Go.WideShapes Go.ChangeAt Go.RowKit
set_option linter.unusedVariables false
namespace EngR
open CatR ChG
open EvtR (Pt)
open DocR (BlkW)
structure Eng where
 c:Ca
 ss:List Cr
 es:List SeenR.N
 ws:List WinR.Wd
 ds:List DocR.D
 fr:Int
def ecells (x:Eng) (ma:Option Addr) (mc:Nat) (ca:Option Addr) (cc:Nat) (sa:Option Addr) (sc:Nat) (ea:Option Addr) (ec:Nat) (ua:Option Addr) (uc:Nat) (da:Option Addr) (dc:Nat):Array Value:=#[.slice ma x.c.ms.length mc,.slice ca x.c.cs.length cc,.slice sa x.ss.length sc,.slice ea x.es.length ec,.slice ua x.ws.length uc,.slice da x.ds.length dc,.int .i64 x.fr]
def IsEng (v:Value) (x:Eng) (w:World):Prop:=∃ma mc ca cc sa sc ea ec ua uc da dc,v=.agg (ecells x ma mc ca cc sa sc ea ec ua uc da dc)∧Mes ma x.c.ms.length x.c.ms w∧Crs ca x.c.cs.length x.c.cs w∧Crs sa x.ss.length x.ss w∧SeenR.Ens ea x.es w∧WinR.Wns ua x.ws w∧LedR.Dcs da x.ds w
theorem IsEng.below {v:Value} {x:Eng} {w w':World} (h:IsEng v x w) (hb:Below w.heap.size w w'):IsEng v x w':=by
 obtain ⟨ma,mc,ca,cc,sa,sc,ea,ec,ua,uc,da,dc,hv,h1,h2,h3,h4,h5,h6⟩:=h
 exact ⟨ma,mc,ca,cc,sa,sc,ea,ec,ua,uc,da,dc,hv,h1.below hb,h2.below hb,h3.below hb,h4.below hb,h5.below hb,h6.below hb⟩
theorem blkW_al {b:Nat} {cs:List Value} {w:World} (h:BlkW b cs w) (o:Obj):BlkW b cs (w.alloc o):=h.below (al_ _ _)
theorem blkW_gr {b g:Nat} {cs:List Value} {w w':World} (h:BlkW b cs w) (hg:w.grownBy w' (some g)) (hne:b≠g):BlkW b cs w':=by
 have eb:=hg.block b h.1.1 (by simp;exact hne)
 exact ⟨⟨Nat.lt_of_lt_of_le h.1.1 hg.size,fun i hi=>(World.cell?_of_block (a:=⟨b,i,none⟩) eb).trans (h.1.2 i hi)⟩,fun i hi=>(World.frozen?_of_block (a:=⟨b,i,none⟩) eb).trans (h.2 i hi)⟩
theorem gtr2 {w w1 w2:World} {g:Option Nat} (h1:w.grownBy w1 g) (h2:w1.grownBy w2 g):w.grownBy w2 g :=
 ⟨h2.os.trans h1.os,h2.tape.trans h1.tape,h2.output.trans h1.output,Nat.le_trans h1.size h2.size,fun k hk hne=>(h2.block k (by have:=h1.size;omega) hne).trans (h1.block k hk hne)⟩
structure Eng.In (x:Eng):Prop where
 c:x.c.In
 sl:x.ss.length≤maxLen
 ss:∀i,i<x.ss.length→(x.ss.getD i Cr.zero).a.size≤maxLen
 el:x.es.length≤maxLen
 es:∀e∈x.es,e.i.size≤maxLen
 wl:x.ws.length≤maxLen
 ws:∀e∈x.ws,e.In
 dl:x.ds.length≤maxLen
 ds:∀d∈x.ds,d.In∧(Lit.int .i64 d.mo).wf=true
 fr:(Lit.int .i64 x.fr).wf=true
structure Eng.Small (x:Eng):Prop where
 c:x.c.Small
 sl:x.ss.length≤1048576
 ss:∀i,i<x.ss.length→(x.ss.getD i Cr.zero).a.size≤1048576
 el:x.es.length≤1048576
 es:∀e∈x.es,e.i.size≤1048576
 wl:x.ws.length≤1048576
 ws:∀i,i<x.ws.length→(x.ws.getD i WinR.Wd.zero).Small
 dl:x.ds.length≤1048576
 ds:∀d∈x.ds,d.Sm
theorem dy_kq {base g t k:Nat} {ds:List DocR.D} {w w':World} (h:LedR.DY g t k ds w) (hg:g<w.heap.size) (hk:Kq base w w') (hb:base≤g):LedR.DY g t k ds w':=fun j hj=>by
 obtain ⟨la,lc,c3,hn⟩:=h j hj
 exact ⟨la,lc,(hk.cell hb hg _).trans c3,hn.imp id (fun ⟨g',e1,e2,e3,e4⟩=>⟨g',e1,e2,e3,hk.pt e4 (by omega)⟩)⟩
theorem dw_kq {base g k:Nat} {ds:List DocR.D} {w w':World} (h:LedR.DW g k ds w) (hg:g<w.heap.size) (hk:Kq base w w') (hb:base≤g):LedR.DW g k ds w':=by
 intro j hj
 obtain ⟨la,lc,c0,c1,c2,c3,hL,hn⟩:=h j hj
 have f:=fun o=>hk.cell hb hg o
 refine ⟨la,lc,(f _).trans c0,(f _).trans c1,(f _).trans c2,(f _).trans c3,rws_kq hL hk (hn.imp id (fun ⟨g',e1,e2,_⟩ b off e=>by rw [e1] at e;simp at e;omega)),hn.imp id (fun ⟨g',e1,e2,e3,e4⟩=>⟨g',e1,e2,by have:=hk.size;omega,hk.pt e4 (by omega)⟩)⟩
theorem sz_in (ma:Option Addr) (ml mc:Nat) (ca:Option Addr) (cl cc:Nat) (sa:Option Addr) (sl sc:Nat) (ea:Option Addr) (el ec:Nat) (ua:Option Addr) (ul uc:Nat) (da:Option Addr) (dl dc:Nat) (fr:Int) (P0 P1 P2 P3 P4:Prop) (w:World)
 (h0:∀W,Below w.heap.size w W→Calls Tryz.prog 13 #[.agg #[.slice ma ml mc,.slice ca cl cc],.int .i64 1048576] W fun e w'=>SzOut 1048576 P0 e∧Below W.heap.size W w')
 (h1:∀W L,0≤L→L≤1048576→Below w.heap.size w W→Calls Tryz.prog 14 #[.slice sa sl sc,.int .i64 L] W fun e w'=>SzOut L P1 e∧Below W.heap.size W w')
 (h2:∀W L,0≤L→L≤1048576→Below w.heap.size w W→Calls Tryz.prog 15 #[.slice ea el ec,.int .i64 L] W fun e w'=>SzOut L P2 e∧Below W.heap.size W w')
 (h3:∀W L,0≤L→L≤1048576→Below w.heap.size w W→Calls Tryz.prog 16 #[.slice ua ul uc,.int .i64 L] W fun e w'=>SzOut L P3 e∧Below W.heap.size W w')
 (h4:∀W L,0≤L→L≤1048576→Below w.heap.size w W→Calls Tryz.prog 17 #[.slice da dl dc,.int .i64 L] W fun e w'=>SzOut L P4 e∧Below W.heap.size W w') :
 Calls Tryz.prog 4 #[.agg #[.slice ma ml mc,.slice ca cl cc,.slice sa sl sc,.slice ea el ec,.slice ua ul uc,.slice da dl dc,.int .i64 fr],.int .i64 1048576] w fun e w'=>SzOut 1048576 (P0∧P1∧P2∧P3∧P4) e∧Below w.heap.size w w':=by
 have H0:=H_ h0
 have H1:=H_ h1
 have H2:=H_ h2
 have H3:=H_ h3
 have H4:=H_ h4
 have HF:Hid (∀L:Int,0≤L→L≤1048576→P0→P1→P2→P3→P4→SzOut 1048576 (P0∧P1∧P2∧P3∧P4) (.returned (.int .i64 L))):=H_ (fun L a b c0 c1 c2 c3 c4=>⟨L,rfl,.inr ⟨a,b,c0,c1,c2,c3,c4⟩⟩)
 have HN:Hid (SzOut 1048576 (P0∧P1∧P2∧P3∧P4) (.returned (.int .i64 (-1)))):=H_ ⟨-1,rfl,.inl rfl⟩
 generalize SzOut 1048576 (P0∧P1∧P2∧P3∧P4)=PO at *
 have HB0:Hid (Below w.heap.size w (w.alloc (.cells #[.slice ma ml mc,.slice ca cl cc,.slice sa sl sc,.slice ea el ec,.slice ua ul uc,.slice da dl dc,.int .i64 fr] 31))):=H_ (al_ _ _)
 have HX0:Hid (Blk w.heap.size [.slice ma ml mc,.slice ca cl cc,.slice sa sl sc,.slice ea el ec,.slice ua ul uc,.slice da dl dc,.int .i64 fr] (w.alloc (.cells #[.slice ma ml mc,.slice ca cl cc,.slice sa sl sc,.slice ea el ec,.slice ua ul uc,.slice da dl dc,.int .i64 fr] 31))):=H_ (Blk.new w _ _)
 clear h0 h1 h2 h3 h4
 go_enter Tryz.func4,Tryz.ntmps4
 go_wp2_with fail
 refine (H0.out _ HB0.out).mono ?_
 rintro e w1 ⟨⟨L1,rfl,hL⟩,hb⟩
 have HB1:=HT_ HB0 hb
 have HX1:=H_ (HX0.out.below hb)
 clear hb HB0 HX0
 rcases hL with rfl|⟨l1,q1,hp⟩
 ·go_wp2_with fail
  go_ret
  exact ⟨HN.out,HB1.out⟩
 have G1:=H_ hp
 have g1:¬L1<0:=by omega
 clear hp
 have xl:=HX1.out.1
 have x0:=q_ HX1.out.2 0
 have x1:=q_ HX1.out.2 1
 have x2:=q_ HX1.out.2 2
 have x3:=q_ HX1.out.2 3
 have x4:=q_ HX1.out.2 4
 have x5:=q_ HX1.out.2 5
 have x6:=q_ HX1.out.2 6
 have HC:=H_ (H1.out w1 L1 l1 (by omega) HB1.out)
 go_wp2_with fail
 refine HC.out.mono ?_
 clear HC
 rintro e w2 ⟨⟨L2,rfl,hL⟩,hb⟩
 have HB2:=HT_ HB1 hb
 have HX2:=H_ (HX1.out.below hb)
 clear hb HB1 HX1
 clear xl x0 x1 x2 x3 x4 x5 x6
 rcases hL with rfl|⟨l2,q2,hp⟩
 ·go_wp2_with fail
  go_ret
  exact ⟨HN.out,HB2.out⟩
 have G2:=H_ hp
 have g2:¬L2<0:=by omega
 clear hp
 have xl:=HX2.out.1
 have x0:=q_ HX2.out.2 0
 have x1:=q_ HX2.out.2 1
 have x2:=q_ HX2.out.2 2
 have x3:=q_ HX2.out.2 3
 have x4:=q_ HX2.out.2 4
 have x5:=q_ HX2.out.2 5
 have x6:=q_ HX2.out.2 6
 have HC:=H_ (H2.out w2 L2 l2 (by omega) HB2.out)
 go_wp2_with fail
 refine HC.out.mono ?_
 clear HC
 rintro e w3 ⟨⟨L3,rfl,hL⟩,hb⟩
 have HB3:=HT_ HB2 hb
 have HX3:=H_ (HX2.out.below hb)
 clear hb HB2 HX2
 clear xl x0 x1 x2 x3 x4 x5 x6
 rcases hL with rfl|⟨l3,q3,hp⟩
 ·go_wp2_with fail
  go_ret
  exact ⟨HN.out,HB3.out⟩
 have G3:=H_ hp
 have g3:¬L3<0:=by omega
 clear hp
 have xl:=HX3.out.1
 have x0:=q_ HX3.out.2 0
 have x1:=q_ HX3.out.2 1
 have x2:=q_ HX3.out.2 2
 have x3:=q_ HX3.out.2 3
 have x4:=q_ HX3.out.2 4
 have x5:=q_ HX3.out.2 5
 have x6:=q_ HX3.out.2 6
 have HC:=H_ (H3.out w3 L3 l3 (by omega) HB3.out)
 go_wp2_with fail
 refine HC.out.mono ?_
 clear HC
 rintro e w4 ⟨⟨L4,rfl,hL⟩,hb⟩
 have HB4:=HT_ HB3 hb
 have HX4:=H_ (HX3.out.below hb)
 clear hb HB3 HX3
 clear xl x0 x1 x2 x3 x4 x5 x6
 rcases hL with rfl|⟨l4,q4,hp⟩
 ·go_wp2_with fail
  go_ret
  exact ⟨HN.out,HB4.out⟩
 have G4:=H_ hp
 have g4:¬L4<0:=by omega
 clear hp
 have xl:=HX4.out.1
 have x0:=q_ HX4.out.2 0
 have x1:=q_ HX4.out.2 1
 have x2:=q_ HX4.out.2 2
 have x3:=q_ HX4.out.2 3
 have x4:=q_ HX4.out.2 4
 have x5:=q_ HX4.out.2 5
 have x6:=q_ HX4.out.2 6
 have HC:=H_ (H4.out w4 L4 l4 (by omega) HB4.out)
 go_wp2_with fail
 refine HC.out.mono ?_
 clear HC
 rintro e w5 ⟨⟨L5,rfl,hL⟩,hb⟩
 have HB5:=HT_ HB4 hb
 have HX5:=H_ (HX4.out.below hb)
 clear hb HB4 HX4
 clear xl x0 x1 x2 x3 x4 x5 x6
 rcases hL with rfl|⟨l5,q5,hp⟩
 ·go_wp2_with fail
  go_ret
  exact ⟨HN.out,HB5.out⟩
 have G5:=H_ hp
 have g5:¬L5<0:=by omega
 clear hp
 have HLE:Hid (L5≤1048576):=H_ (by omega)
 clear q1 q2 q3 q4 q5
 go_wp2_with fail
 go_ret
 exact ⟨HF.out _ l5 HLE.out G1.out G2.out G3.out G4.out G5.out,HB5.out⟩
theorem szEng (v:Value) (x:Eng) (w:World) (hI:x.In) (h:IsEng v x w) :
 Calls Tryz.prog 4 #[v,.int .i64 1048576] w fun e w'=>SzOut 1048576 x.Small e∧Below w.heap.size w w':=by
 obtain ⟨ma,mc,ca,cc,sa,sc,ea,ec,ua,uc,da,dc,rfl,h1,h2,h3,h4,h5,h6⟩:=h
 refine (sz_in ma _ mc ca _ cc sa _ sc ea _ ec ua _ uc da _ dc x.fr _ _ _ _ _ w (fun W hW=>szCa_any _ x.c W hI.c ⟨ma,mc,ca,cc,rfl,h1.below hW,h2.below hW⟩)
  (fun W L l0 l1 hW=>szSrs_any sa _ sc x.ss L W hI.sl l0 l1 (h3.below hW) hI.ss) (fun W L l0 l1 hW=>SeenR.szEns ea ec x.es L W hI.el l0 l1 (h4.below hW) hI.es)
  (fun W L l0 l1 hW=>WinR.szWs ua uc x.ws L W hI.wl l0 l1 (h5.below hW) hI.ws) (fun W L l0 l1 hW=>LedR.szDsL da dc x.ds L W hI.dl l0 l1 (h6.below hW) hI.ds)).mono ?_
 rintro e w' ⟨⟨L,rfl,hL⟩,hb⟩
 exact ⟨⟨L,rfl,hL.imp id (fun ⟨a,b,p0,p1,p2,p3,p4⟩=>⟨a,b,⟨p0,p1.1,p1.2,p2.1,p2.2,p3.1,p3.2,p4.1,p4.2⟩⟩)⟩,hb⟩
theorem to_in (ma:Option Addr) (ml mc:Nat) (ca:Option Addr) (cl cc:Nat) (sa:Option Addr) (sl sc:Nat) (ea:Option Addr) (el ec:Nat) (ua:Option Addr) (ul uc:Nat) (da:Option Addr) (dl dc:Nat) (fr:Int) (X0:Nat→Nat→Nat→Nat→World→Prop) (X1 X2 X3 X4:Nat→Nat→World→Prop) (w:World)
 (h0:∀W,Below w.heap.size w W→Calls Tryz.prog 22 #[.agg #[.slice ma ml mc,.slice ca cl cc]] W fun e w'=>(∃a b,e=.returned (.agg #[.slice (some ⟨a,0,none⟩) ml ml,.slice (some ⟨b,0,none⟩) cl cl])∧X0 W.heap.size a b w'.heap.size w')∧Below W.heap.size W w')
 (h1:∀W,Below w.heap.size w W→Calls Tryz.prog 23 #[.slice sa sl sc] W fun e w'=>e=.returned (.slice (some ⟨W.heap.size,0,none⟩) sl sl)∧X1 W.heap.size w'.heap.size w'∧Below W.heap.size W w')
 (h2:∀W,Below w.heap.size w W→Calls Tryz.prog 24 #[.slice ea el ec] W fun e w'=>e=.returned (.slice (some ⟨W.heap.size,0,none⟩) el el)∧X2 W.heap.size w'.heap.size w'∧Below W.heap.size W w')
 (h3:∀W,Below w.heap.size w W→Calls Tryz.prog 25 #[.slice ua ul uc] W fun e w'=>e=.returned (.slice (some ⟨W.heap.size,0,none⟩) ul ul)∧X3 W.heap.size w'.heap.size w'∧Below W.heap.size W w')
 (h4:∀W,Below w.heap.size w W→Calls Tryz.prog 26 #[.slice da dl dc] W fun e w'=>e=.returned (.slice (some ⟨W.heap.size,0,none⟩) dl dl)∧X4 W.heap.size w'.heap.size w'∧Below W.heap.size W w')
 (k0:∀B a b t W W',X0 B a b t W→Kq B W W'→X0 B a b t W') (k1:∀B t W W',X1 B t W→Kq B W W'→X1 B t W') (k2:∀B t W W',X2 B t W→Kq B W W'→X2 B t W') (k3:∀B t W W',X3 B t W→Kq B W W'→X3 B t W') (k4:∀B t W W',X4 B t W→Kq B W W'→X4 B t W') :
 Calls Tryz.prog 6 #[.agg #[.slice ma ml mc,.slice ca cl cc,.slice sa sl sc,.slice ea el ec,.slice ua ul uc,.slice da dl dc,.int .i64 fr]] w fun e w'=>(∃B a b t0 g1 t1 g2 t2 g3 t3 g4 t4,e=.returned (.agg #[.slice (some ⟨a,0,none⟩) ml ml,.slice (some ⟨b,0,none⟩) cl cl,.slice (some ⟨g1,0,none⟩) sl sl,.slice (some ⟨g2,0,none⟩) el el,.slice (some ⟨g3,0,none⟩) ul ul,.slice (some ⟨g4,0,none⟩) dl dl,.int .i64 fr])∧(X0 B a b t0 w'∧X1 g1 t1 w'∧X2 g2 t2 w'∧X3 g3 t3 w'∧X4 g4 t4 w')∧w.heap.size≤B∧t0≤g1∧t1≤g2∧t2≤g3∧t3≤g4∧t4≤w'.heap.size)∧Below w.heap.size w w':=by
 have H0:=H_ h0
 have K0:=H_ k0
 have H1:=H_ h1
 have K1:=H_ k1
 have H2:=H_ h2
 have K2:=H_ k2
 have H3:=H_ h3
 have K3:=H_ k3
 have H4:=H_ h4
 have K4:=H_ k4
 obtain ⟨W0,hW0⟩:∃z,z=((w.alloc (.cells #[.slice ma ml mc,.slice ca cl cc,.slice sa sl sc,.slice ea el ec,.slice ua ul uc,.slice da dl dc,.int .i64 fr] 31)).alloc (.cells #[.slice none 0 0,.slice none 0 0,.slice none 0 0,.slice none 0 0,.slice none 0 0,.slice none 0 0,.int .i64 0] 42)).alloc (.cells #[.slice none 0 0,.slice none 0 0,.slice none 0 0,.slice none 0 0,.slice none 0 0,.slice none 0 0,.int .i64 0] 42):=⟨_,rfl⟩
 have HB0:Hid (Below w.heap.size w W0):=H_ (by rw [hW0];exact ((al_ _ _).alloc (by simp) _).alloc (by simp;omega) _)
 have HA0:Hid (BlkW w.heap.size [.slice ma ml mc,.slice ca cl cc,.slice sa sl sc,.slice ea el ec,.slice ua ul uc,.slice da dl dc,.int .i64 fr] W0):=H_ (by rw [hW0];exact blkW_al (blkW_al (BlkW.new w [.slice ma ml mc,.slice ca cl cc,.slice sa sl sc,.slice ea el ec,.slice ua ul uc,.slice da dl dc,.int .i64 fr] 31) _) _)
 have HR0:Hid (BlkW (w.heap.size+1) [.slice none 0 0,.slice none 0 0,.slice none 0 0,.slice none 0 0,.slice none 0 0,.slice none 0 0,.int .i64 0] W0):=H_ (by
  rw [hW0]
  have:=blkW_al (BlkW.new (w.alloc (.cells #[.slice ma ml mc,.slice ca cl cc,.slice sa sl sc,.slice ea el ec,.slice ua ul uc,.slice da dl dc,.int .i64 fr] 31)) [.slice none 0 0,.slice none 0 0,.slice none 0 0,.slice none 0 0,.slice none 0 0,.slice none 0 0,.int .i64 0] 42) (.cells #[.slice none 0 0,.slice none 0 0,.slice none 0 0,.slice none 0 0,.slice none 0 0,.slice none 0 0,.int .i64 0] 42)
  simpa using this)
 have HO0:Hid (BlkW (w.heap.size+1+1) [.slice none 0 0,.slice none 0 0,.slice none 0 0,.slice none 0 0,.slice none 0 0,.slice none 0 0,.int .i64 0] W0):=H_ (by
  rw [hW0]
  have:=BlkW.new ((w.alloc (.cells #[.slice ma ml mc,.slice ca cl cc,.slice sa sl sc,.slice ea el ec,.slice ua ul uc,.slice da dl dc,.int .i64 fr] 31)).alloc (.cells #[.slice none 0 0,.slice none 0 0,.slice none 0 0,.slice none 0 0,.slice none 0 0,.slice none 0 0,.int .i64 0] 42)) [.slice none 0 0,.slice none 0 0,.slice none 0 0,.slice none 0 0,.slice none 0 0,.slice none 0 0,.int .i64 0] 42
  simpa using this)
 obtain ⟨bR,hbR⟩:∃z,z=w.heap.size+1:=⟨_,rfl⟩
 obtain ⟨bO,hbO⟩:∃z,z=bR+1:=⟨_,rfl⟩
 rw [←hbR] at HR0 HO0
 rw [←hbO] at HO0
 have hr1:w.heap.size<bR:=by omega
 have hr2:bR<bO:=by omega
 have HW:=H_ hW0
 have HBR:=H_ hbR
 have HBO:=H_ hbO
 clear hW0 hbR hbO h0 k0 h1 k1 h2 k2 h3 k3 h4 k4
 go_enter Tryz.func6,Tryz.ntmps6
 go_wp2_with fail
 rw [←HW.out]
 rw [←HBR.out,←HBO.out]
 clear HW HBR HBO
 refine (H0.out _ HB0.out).mono ?_
 rintro e w1 ⟨⟨a,b,rfl,hx⟩,hb⟩
 obtain ⟨B,hBB⟩:∃z,z=W0.heap.size:=⟨_,rfl⟩
 rw [←hBB] at hx
 have hlow:bO<B:=by have:=HO0.out.1.1;omega
 have HLB:Hid (w.heap.size≤B):=H_ (by omega)
 clear hBB
 obtain ⟨t0,ht⟩:∃z,z=w1.heap.size:=⟨_,rfl⟩
 rw [←ht] at hx
 have HT0:=H_ ht
 clear ht
 have hx0:=H_ hx
 clear hx
 have hB:=HB0.out.trans (hb.mono HB0.out.size)
 have hA:=HA0.out.below hb
 have hR:=HR0.out.below hb
 have hO:=HO0.out.below hb
 have Q0:=H_ (Kq.refl B w1)
 clear hb HB0 HA0 HR0 HO0
 obtain ⟨⟨ol,ok⟩,of⟩:=hO
 have o0:=q_ ok 0
 have z0:=of 0 (by simp)
 have o1:=q_ ok 1
 have z1:=of 1 (by simp)
 have hO2:BlkW bO [.slice none 0 0,.slice none 0 0,.slice none 0 0,.slice none 0 0,.slice none 0 0,.slice none 0 0,.int .i64 0] w1:=⟨⟨ol,ok⟩,of⟩
 clear ok of
 have hg:w1.grownBy ((w1.setCell ⟨bO,0,none⟩ (.slice (some ⟨a,0,none⟩) ml ml)).setCell ⟨bO,1,none⟩ (.slice (some ⟨b,0,none⟩) cl cl)) (some bO):=gtr2 (RowG.grown_set _ _ _ _) (RowG.grown_set _ _ _ _)
 have hO3:=((hO2).set 0 (.slice (some ⟨a,0,none⟩) ml ml) (by simp)).set 1 (.slice (some ⟨b,0,none⟩) cl cl) (by simp)
 simp only [List.set_cons_zero,List.set_cons_succ] at hO3
 have hB3:=hB.grown hg hB.size (fun _ e=>by cases e;omega)
 have hA3:=blkW_gr hA hg (by omega)
 have hR3:=blkW_gr hR hg (by omega)
 have hQ0:=Q0.out.chg (Chg.grown (S:=fun b=>b=bO) (Chg.refl _ _) hg rfl) (fun b q=>by omega)
 obtain ⟨v1,hv⟩:∃z,z=((w1.setCell ⟨bO,0,none⟩ (.slice (some ⟨a,0,none⟩) ml ml)).setCell ⟨bO,1,none⟩ (.slice (some ⟨b,0,none⟩) cl cl)):=⟨_,rfl⟩
 rw [←hv] at hB3 hA3 hR3 hO3 hQ0
 have HS1:Hid (t0≤v1.heap.size):=H_ (by rw [hv];have:=hg.size;have:=HT0.out;omega)
 clear HT0
 have HV:=H_ hv
 have HB:=H_ hB3
 have HA:=H_ hA3
 have HR:=H_ hR3
 have HO:=H_ hO3
 replace Q0:=H_ hQ0
 obtain ⟨⟨al,ak⟩,_⟩:=hA3
 have a0:=q_ ak 0
 have a1:=q_ ak 1
 have a2:=q_ ak 2
 have a3:=q_ ak 3
 have a4:=q_ ak 4
 have a5:=q_ ak 5
 have a6:=q_ ak 6
 rw [hv] at al a0 a1 a2 a3 a4 a5 a6
 clear hv hg hB hA hR hO2 hB3 hR3 hO3 ak hQ0
 go_wp2_with fail
 rw [←HV.out]
 clear HV ol o0 z0 o1 z1
 refine (H1.out _ HB.out).mono ?_
 rintro e w2 ⟨rfl,hx,hb⟩
 obtain ⟨g1,hg1⟩:∃z,z=v1.heap.size:=⟨_,rfl⟩
 rw [←hg1] at hx ⊢
 have hlg1:bO<g1:=by have:=HO.out.1.1;omega
 have HG1:Hid (t0≤g1):=H_ (by have:=HS1.out;omega)
 clear HS1 hg1 al a0 a1 a2 a3 a4 a5 a6
 obtain ⟨t1,ht⟩:∃z,z=w2.heap.size:=⟨_,rfl⟩
 rw [←ht] at hx
 have HT1:=H_ ht
 clear ht
 have hx1:=H_ hx
 clear hx
 have hB:=HB.out.trans (hb.mono HB.out.size)
 have hA:=HA.out.below hb
 have hR:=HR.out.below hb
 have hO:=HO.out.below hb
 replace Q0:=H_ (Q0.out.below hb)
 have Q1:=H_ (Kq.refl g1 w2)
 clear hb HB HA HR HO
 obtain ⟨⟨ol,ok⟩,of⟩:=hO
 have o2:=q_ ok 2
 have z2:=of 2 (by simp)
 have hO2:BlkW bO [.slice (some ⟨a,0,none⟩) ml ml,.slice (some ⟨b,0,none⟩) cl cl,.slice none 0 0,.slice none 0 0,.slice none 0 0,.slice none 0 0,.int .i64 0] w2:=⟨⟨ol,ok⟩,of⟩
 clear ok of
 have hg:w2.grownBy (w2.setCell ⟨bO,2,none⟩ (.slice (some ⟨g1,0,none⟩) sl sl)) (some bO):=RowG.grown_set _ _ _ _
 have hO3:=(hO2).set 2 (.slice (some ⟨g1,0,none⟩) sl sl) (by simp)
 simp only [List.set_cons_zero,List.set_cons_succ] at hO3
 have hB3:=hB.grown hg hB.size (fun _ e=>by cases e;omega)
 have hA3:=blkW_gr hA hg (by omega)
 have hR3:=blkW_gr hR hg (by omega)
 have hQ0:=Q0.out.chg (Chg.grown (S:=fun b=>b=bO) (Chg.refl _ _) hg rfl) (fun b q=>by omega)
 have hQ1:=Q1.out.chg (Chg.grown (S:=fun b=>b=bO) (Chg.refl _ _) hg rfl) (fun b q=>by omega)
 obtain ⟨v2,hv⟩:∃z,z=(w2.setCell ⟨bO,2,none⟩ (.slice (some ⟨g1,0,none⟩) sl sl)):=⟨_,rfl⟩
 rw [←hv] at hB3 hA3 hR3 hO3 hQ0 hQ1
 have HS2:Hid (t1≤v2.heap.size):=H_ (by rw [hv];have:=hg.size;have:=HT1.out;omega)
 clear HT1
 have HV:=H_ hv
 have HB:=H_ hB3
 have HA:=H_ hA3
 have HR:=H_ hR3
 have HO:=H_ hO3
 replace Q0:=H_ hQ0
 replace Q1:=H_ hQ1
 obtain ⟨⟨al,ak⟩,_⟩:=hA3
 have a0:=q_ ak 0
 have a1:=q_ ak 1
 have a2:=q_ ak 2
 have a3:=q_ ak 3
 have a4:=q_ ak 4
 have a5:=q_ ak 5
 have a6:=q_ ak 6
 rw [hv] at al a0 a1 a2 a3 a4 a5 a6
 clear hv hg hB hA hR hO2 hB3 hR3 hO3 ak hQ0 hQ1
 go_wp2_with fail
 rw [←HV.out]
 clear HV ol o2 z2
 refine (H2.out _ HB.out).mono ?_
 rintro e w3 ⟨rfl,hx,hb⟩
 obtain ⟨g2,hg2⟩:∃z,z=v2.heap.size:=⟨_,rfl⟩
 rw [←hg2] at hx ⊢
 have hlg2:bO<g2:=by have:=HO.out.1.1;omega
 have HG2:Hid (t1≤g2):=H_ (by have:=HS2.out;omega)
 clear HS2 hg2 al a0 a1 a2 a3 a4 a5 a6
 obtain ⟨t2,ht⟩:∃z,z=w3.heap.size:=⟨_,rfl⟩
 rw [←ht] at hx
 have HT2:=H_ ht
 clear ht
 have hx2:=H_ hx
 clear hx
 have hB:=HB.out.trans (hb.mono HB.out.size)
 have hA:=HA.out.below hb
 have hR:=HR.out.below hb
 have hO:=HO.out.below hb
 replace Q0:=H_ (Q0.out.below hb)
 replace Q1:=H_ (Q1.out.below hb)
 have Q2:=H_ (Kq.refl g2 w3)
 clear hb HB HA HR HO
 obtain ⟨⟨ol,ok⟩,of⟩:=hO
 have o3:=q_ ok 3
 have z3:=of 3 (by simp)
 have hO2:BlkW bO [.slice (some ⟨a,0,none⟩) ml ml,.slice (some ⟨b,0,none⟩) cl cl,.slice (some ⟨g1,0,none⟩) sl sl,.slice none 0 0,.slice none 0 0,.slice none 0 0,.int .i64 0] w3:=⟨⟨ol,ok⟩,of⟩
 clear ok of
 have hg:w3.grownBy (w3.setCell ⟨bO,3,none⟩ (.slice (some ⟨g2,0,none⟩) el el)) (some bO):=RowG.grown_set _ _ _ _
 have hO3:=(hO2).set 3 (.slice (some ⟨g2,0,none⟩) el el) (by simp)
 simp only [List.set_cons_zero,List.set_cons_succ] at hO3
 have hB3:=hB.grown hg hB.size (fun _ e=>by cases e;omega)
 have hA3:=blkW_gr hA hg (by omega)
 have hR3:=blkW_gr hR hg (by omega)
 have hQ0:=Q0.out.chg (Chg.grown (S:=fun b=>b=bO) (Chg.refl _ _) hg rfl) (fun b q=>by omega)
 have hQ1:=Q1.out.chg (Chg.grown (S:=fun b=>b=bO) (Chg.refl _ _) hg rfl) (fun b q=>by omega)
 have hQ2:=Q2.out.chg (Chg.grown (S:=fun b=>b=bO) (Chg.refl _ _) hg rfl) (fun b q=>by omega)
 obtain ⟨v3,hv⟩:∃z,z=(w3.setCell ⟨bO,3,none⟩ (.slice (some ⟨g2,0,none⟩) el el)):=⟨_,rfl⟩
 rw [←hv] at hB3 hA3 hR3 hO3 hQ0 hQ1 hQ2
 have HS3:Hid (t2≤v3.heap.size):=H_ (by rw [hv];have:=hg.size;have:=HT2.out;omega)
 clear HT2
 have HV:=H_ hv
 have HB:=H_ hB3
 have HA:=H_ hA3
 have HR:=H_ hR3
 have HO:=H_ hO3
 replace Q0:=H_ hQ0
 replace Q1:=H_ hQ1
 replace Q2:=H_ hQ2
 obtain ⟨⟨al,ak⟩,_⟩:=hA3
 have a0:=q_ ak 0
 have a1:=q_ ak 1
 have a2:=q_ ak 2
 have a3:=q_ ak 3
 have a4:=q_ ak 4
 have a5:=q_ ak 5
 have a6:=q_ ak 6
 rw [hv] at al a0 a1 a2 a3 a4 a5 a6
 clear hv hg hB hA hR hO2 hB3 hR3 hO3 ak hQ0 hQ1 hQ2
 go_wp2_with fail
 rw [←HV.out]
 clear HV ol o3 z3
 refine (H3.out _ HB.out).mono ?_
 rintro e w4 ⟨rfl,hx,hb⟩
 obtain ⟨g3,hg3⟩:∃z,z=v3.heap.size:=⟨_,rfl⟩
 rw [←hg3] at hx ⊢
 have hlg3:bO<g3:=by have:=HO.out.1.1;omega
 have HG3:Hid (t2≤g3):=H_ (by have:=HS3.out;omega)
 clear HS3 hg3 al a0 a1 a2 a3 a4 a5 a6
 obtain ⟨t3,ht⟩:∃z,z=w4.heap.size:=⟨_,rfl⟩
 rw [←ht] at hx
 have HT3:=H_ ht
 clear ht
 have hx3:=H_ hx
 clear hx
 have hB:=HB.out.trans (hb.mono HB.out.size)
 have hA:=HA.out.below hb
 have hR:=HR.out.below hb
 have hO:=HO.out.below hb
 replace Q0:=H_ (Q0.out.below hb)
 replace Q1:=H_ (Q1.out.below hb)
 replace Q2:=H_ (Q2.out.below hb)
 have Q3:=H_ (Kq.refl g3 w4)
 clear hb HB HA HR HO
 obtain ⟨⟨ol,ok⟩,of⟩:=hO
 have o4:=q_ ok 4
 have z4:=of 4 (by simp)
 have hO2:BlkW bO [.slice (some ⟨a,0,none⟩) ml ml,.slice (some ⟨b,0,none⟩) cl cl,.slice (some ⟨g1,0,none⟩) sl sl,.slice (some ⟨g2,0,none⟩) el el,.slice none 0 0,.slice none 0 0,.int .i64 0] w4:=⟨⟨ol,ok⟩,of⟩
 clear ok of
 have hg:w4.grownBy (w4.setCell ⟨bO,4,none⟩ (.slice (some ⟨g3,0,none⟩) ul ul)) (some bO):=RowG.grown_set _ _ _ _
 have hO3:=(hO2).set 4 (.slice (some ⟨g3,0,none⟩) ul ul) (by simp)
 simp only [List.set_cons_zero,List.set_cons_succ] at hO3
 have hB3:=hB.grown hg hB.size (fun _ e=>by cases e;omega)
 have hA3:=blkW_gr hA hg (by omega)
 have hR3:=blkW_gr hR hg (by omega)
 have hQ0:=Q0.out.chg (Chg.grown (S:=fun b=>b=bO) (Chg.refl _ _) hg rfl) (fun b q=>by omega)
 have hQ1:=Q1.out.chg (Chg.grown (S:=fun b=>b=bO) (Chg.refl _ _) hg rfl) (fun b q=>by omega)
 have hQ2:=Q2.out.chg (Chg.grown (S:=fun b=>b=bO) (Chg.refl _ _) hg rfl) (fun b q=>by omega)
 have hQ3:=Q3.out.chg (Chg.grown (S:=fun b=>b=bO) (Chg.refl _ _) hg rfl) (fun b q=>by omega)
 obtain ⟨v4,hv⟩:∃z,z=(w4.setCell ⟨bO,4,none⟩ (.slice (some ⟨g3,0,none⟩) ul ul)):=⟨_,rfl⟩
 rw [←hv] at hB3 hA3 hR3 hO3 hQ0 hQ1 hQ2 hQ3
 have HS4:Hid (t3≤v4.heap.size):=H_ (by rw [hv];have:=hg.size;have:=HT3.out;omega)
 clear HT3
 have HV:=H_ hv
 have HB:=H_ hB3
 have HA:=H_ hA3
 have HR:=H_ hR3
 have HO:=H_ hO3
 replace Q0:=H_ hQ0
 replace Q1:=H_ hQ1
 replace Q2:=H_ hQ2
 replace Q3:=H_ hQ3
 obtain ⟨⟨al,ak⟩,_⟩:=hA3
 have a0:=q_ ak 0
 have a1:=q_ ak 1
 have a2:=q_ ak 2
 have a3:=q_ ak 3
 have a4:=q_ ak 4
 have a5:=q_ ak 5
 have a6:=q_ ak 6
 rw [hv] at al a0 a1 a2 a3 a4 a5 a6
 clear hv hg hB hA hR hO2 hB3 hR3 hO3 ak hQ0 hQ1 hQ2 hQ3
 go_wp2_with fail
 rw [←HV.out]
 clear HV ol o4 z4
 refine (H4.out _ HB.out).mono ?_
 rintro e w5 ⟨rfl,hx,hb⟩
 obtain ⟨g4,hg4⟩:∃z,z=v4.heap.size:=⟨_,rfl⟩
 rw [←hg4] at hx ⊢
 have hlg4:bO<g4:=by have:=HO.out.1.1;omega
 have HG4:Hid (t3≤g4):=H_ (by have:=HS4.out;omega)
 clear HS4 hg4 al a0 a1 a2 a3 a4 a5 a6
 obtain ⟨t4,ht⟩:∃z,z=w5.heap.size:=⟨_,rfl⟩
 rw [←ht] at hx
 have HT4:=H_ ht
 clear ht
 have hx4:=H_ hx
 clear hx
 have hB:=HB.out.trans (hb.mono HB.out.size)
 have hA:=HA.out.below hb
 have hR:=HR.out.below hb
 have hO:=HO.out.below hb
 replace Q0:=H_ (Q0.out.below hb)
 replace Q1:=H_ (Q1.out.below hb)
 replace Q2:=H_ (Q2.out.below hb)
 replace Q3:=H_ (Q3.out.below hb)
 have Q4:=H_ (Kq.refl g4 w5)
 clear hb HB HA HR HO
 obtain ⟨⟨ol,ok⟩,of⟩:=hO
 obtain ⟨⟨al,ak⟩,_⟩:=hA
 obtain ⟨⟨rl,rk⟩,rf⟩:=hR
 have o0:=q_ ok 0
 have z0:=of 0 (by simp)
 have a0:=q_ ak 0
 have r0:=q_ rk 0
 have y0:=rf 0 (by simp)
 have o1:=q_ ok 1
 have z1:=of 1 (by simp)
 have a1:=q_ ak 1
 have r1:=q_ rk 1
 have y1:=rf 1 (by simp)
 have o2:=q_ ok 2
 have z2:=of 2 (by simp)
 have a2:=q_ ak 2
 have r2:=q_ rk 2
 have y2:=rf 2 (by simp)
 have o3:=q_ ok 3
 have z3:=of 3 (by simp)
 have a3:=q_ ak 3
 have r3:=q_ rk 3
 have y3:=rf 3 (by simp)
 have o4:=q_ ok 4
 have z4:=of 4 (by simp)
 have a4:=q_ ak 4
 have r4:=q_ rk 4
 have y4:=rf 4 (by simp)
 have o5:=q_ ok 5
 have z5:=of 5 (by simp)
 have a5:=q_ ak 5
 have r5:=q_ rk 5
 have y5:=rf 5 (by simp)
 have o6:=q_ ok 6
 have z6:=of 6 (by simp)
 have a6:=q_ ak 6
 have r6:=q_ rk 6
 have y6:=rf 6 (by simp)
 have hgO:w5.grownBy ((w5.setCell ⟨bO,5,none⟩ (.slice (some ⟨g4,0,none⟩) dl dl)).setCell ⟨bO,6,none⟩ (.int .i64 fr)) (some bO):=gtr2 (RowG.grown_set _ _ _ _) (RowG.grown_set _ _ _ _)
 have hgR:=StR.stL_grown bR [.slice (some ⟨a,0,none⟩) ml ml,.slice (some ⟨b,0,none⟩) cl cl,.slice (some ⟨g1,0,none⟩) sl sl,.slice (some ⟨g2,0,none⟩) el el,.slice (some ⟨g3,0,none⟩) ul ul,.slice (some ⟨g4,0,none⟩) dl dl,.int .i64 fr] 0 ((w5.setCell ⟨bO,5,none⟩ (.slice (some ⟨g4,0,none⟩) dl dl)).setCell ⟨bO,6,none⟩ (.int .i64 fr))
 have HB9:=H_ ((hB.grown hgO hB.size (fun _ e=>by cases e;omega)).grown hgR (by have:=hB.size;have:=hgO.size;omega) (fun _ e=>by cases e;omega))
 replace Q0:=H_ ((Q0.out.chg (Chg.grown (S:=fun b=>b=bO) (Chg.refl _ _) hgO rfl) (fun b q=>by omega)).chg (Chg.grown (S:=fun b=>b=bR) (Chg.refl _ _) hgR rfl) (fun b q=>by omega))
 replace Q1:=H_ ((Q1.out.chg (Chg.grown (S:=fun b=>b=bO) (Chg.refl _ _) hgO rfl) (fun b q=>by omega)).chg (Chg.grown (S:=fun b=>b=bR) (Chg.refl _ _) hgR rfl) (fun b q=>by omega))
 replace Q2:=H_ ((Q2.out.chg (Chg.grown (S:=fun b=>b=bO) (Chg.refl _ _) hgO rfl) (fun b q=>by omega)).chg (Chg.grown (S:=fun b=>b=bR) (Chg.refl _ _) hgR rfl) (fun b q=>by omega))
 replace Q3:=H_ ((Q3.out.chg (Chg.grown (S:=fun b=>b=bO) (Chg.refl _ _) hgO rfl) (fun b q=>by omega)).chg (Chg.grown (S:=fun b=>b=bR) (Chg.refl _ _) hgR rfl) (fun b q=>by omega))
 replace Q4:=H_ ((Q4.out.chg (Chg.grown (S:=fun b=>b=bO) (Chg.refl _ _) hgO rfl) (fun b q=>by omega)).chg (Chg.grown (S:=fun b=>b=bR) (Chg.refl _ _) hgR rfl) (fun b q=>by omega))
 simp only [StR.stL,Nat.zero_add] at HB9 Q0 Q1 Q2 Q3 Q4
 clear ok of ak rk rf hgO hgR hB
 go_wp2_with fail
 refine bodyPost_ret (v:=.agg #[.slice (some ⟨a,0,none⟩) ml ml,.slice (some ⟨b,0,none⟩) cl cl,.slice (some ⟨g1,0,none⟩) sl sl,.slice (some ⟨g2,0,none⟩) el el,.slice (some ⟨g3,0,none⟩) ul ul,.slice (some ⟨g4,0,none⟩) dl dl,.int .i64 fr]) (by simp [results,Tryz.results6,go_sem,r0,r1,r2,r3,r4,r5,r6]) rfl ⟨⟨B,a,b,t0,g1,t1,g2,t2,g3,t3,g4,t4,rfl,⟨K0.out _ _ _ _ _ _ hx0.out Q0.out,K1.out _ _ _ _ hx1.out Q1.out,K2.out _ _ _ _ hx2.out Q2.out,K3.out _ _ _ _ hx3.out Q3.out,K4.out _ _ _ _ hx4.out Q4.out⟩,HLB.out,HG1.out,HG2.out,HG3.out,HG4.out,Nat.le_trans (Nat.le_of_eq HT4.out) Q4.out.size⟩,HB9.out⟩
def MkE (base top:Nat) (v:Value) (x:Eng) (W:World):Prop:=∃B a b t0 g1 t1 g2 t2 g3 t3 g4 t4,v=.agg #[.slice (some ⟨a,0,none⟩) x.c.ms.length x.c.ms.length,.slice (some ⟨b,0,none⟩) x.c.cs.length x.c.cs.length,.slice (some ⟨g1,0,none⟩) x.ss.length x.ss.length,.slice (some ⟨g2,0,none⟩) x.es.length x.es.length,.slice (some ⟨g3,0,none⟩) x.ws.length x.ws.length,.slice (some ⟨g4,0,none⟩) x.ds.length x.ds.length,.int .i64 x.fr] ∧
 ((NewCa B (.agg #[.slice (some ⟨a,0,none⟩) x.c.ms.length x.c.ms.length,.slice (some ⟨b,0,none⟩) x.c.cs.length x.c.cs.length]) x.c W∧b<t0)∧(Pt g1 (x.ss.length*2) W∧g1<t1)∧(Pt g2 (x.es.length*3) W∧g2<t2)∧(Pt g3 (x.ws.length*8) W∧WinR.WX g3 t3 x.ws.length x.ws W∧g3<t3)∧(Pt g4 (x.ds.length*4) W∧LedR.DY g4 t4 x.ds.length x.ds W∧g4<t4))∧base≤B∧t0≤g1∧t1≤g2∧t2≤g3∧t3≤g4∧t4≤top∧top≤W.heap.size
theorem MkE.kq {base top:Nat} {v:Value} {x:Eng} {W W':World} (h:MkE base top v x W) (hk:Kq base W W'):MkE base top v x W':=by
 obtain ⟨B,a,b,t0,g1,t1,g2,t2,g3,t3,g4,t4,e,⟨⟨h0,h1⟩,⟨h2,h3⟩,⟨h4,h5⟩,⟨h6,h7,h8⟩,⟨h9,h10,h11⟩⟩,hB,l1,l2,l3,l4,l5,l6⟩:=h
 have hs:=hk.size
 have hab:B<b:=by
  obtain ⟨g,bs,q,e1,e2,e3,_⟩:=h0
  simp only [Value.agg.injEq,Array.mk.injEq,List.cons.injEq,Value.slice.injEq,Option.some.injEq,Addr.mk.injEq,and_true] at e1
  obtain ⟨e4,e5⟩:=e1
  have:=e2.1
  omega
 exact ⟨B,a,b,t0,g1,t1,g2,t2,g3,t3,g4,t4,e,⟨⟨newca_kq h0 (hk.low hB),h1⟩,⟨hk.pt h2 (by omega),h3⟩,⟨hk.pt h4 (by omega),h5⟩,⟨hk.pt h6 (by omega),wx_kq h7 h6.lt hk (by omega),h8⟩,⟨hk.pt h9 (by omega),dy_kq h10 h9.lt hk (by omega),h11⟩⟩,hB,l1,l2,l3,l4,l5,by omega⟩
theorem toEng (v:Value) (x:Eng) (w:World) (hS:x.Small) (h:IsEng v x w) :
 Calls Tryz.prog 6 #[v] w fun e w'=>∃v',e=.returned v'∧IsEng v' x w'∧MkE w.heap.size w'.heap.size v' x w'∧Below w.heap.size w w':=by
 obtain ⟨ma,mc,ca,cc,sa,sc,ea,ec,ua,uc,da,dc,rfl,h1,h2,h3,h4,h5,h6⟩:=h
 refine (to_in ma x.c.ms.length mc ca x.c.cs.length cc sa x.ss.length sc ea x.es.length ec ua x.ws.length uc da x.ds.length dc x.fr
  (fun B a b t W=>NewCa B (.agg #[.slice (some ⟨a,0,none⟩) x.c.ms.length x.c.ms.length,.slice (some ⟨b,0,none⟩) x.c.cs.length x.c.cs.length]) x.c W∧b<t) (fun B t W=>Crs (some ⟨B,0,none⟩) x.ss.length x.ss W∧Pt B (x.ss.length*2) W∧B<t) (fun B t W=>SeenR.Ens (some ⟨B,0,none⟩) x.es W∧Pt B (x.es.length*3) W∧B<t)
  (fun B t W=>WinR.WW B x.ws.length x.ws W∧Pt B (x.ws.length*8) W∧WinR.WX B t x.ws.length x.ws W∧B<t) (fun B t W=>LedR.DW B x.ds.length x.ds W∧Pt B (x.ds.length*4) W∧LedR.DY B t x.ds.length x.ds W∧B<t) w (fun W hW=>?_) (fun W hW=>?_) (fun W hW=>?_) (fun W hW=>?_) (fun W hW=>?_)
  (fun B a b t W W' h hk=>⟨newca_kq h.1 hk,h.2⟩) (fun B t W W' h hk=>⟨crs_kq h.1 hk (Nat.le_refl _),hk.pt h.2.1 (Nat.le_refl _),h.2.2⟩) (fun B t W W' h hk=>⟨rws_kq h.1 hk (.inr (fun b off e=>by simp at e;omega)),hk.pt h.2.1 (Nat.le_refl _),h.2.2⟩) (fun B t W W' h hk=>⟨ww_kq h.1 h.2.1.lt hk (Nat.le_refl _),hk.pt h.2.1 (Nat.le_refl _),wx_kq h.2.2.1 h.2.1.lt hk (Nat.le_refl _),h.2.2.2⟩) (fun B t W W' h hk=>⟨dw_kq h.1 h.2.1.lt hk (Nat.le_refl _),hk.pt h.2.1 (Nat.le_refl _),dy_kq h.2.2.1 h.2.1.lt hk (Nat.le_refl _),h.2.2.2⟩)).mono ?_
 ·exact (toCa_any _ x.c W hS.c ⟨ma,mc,ca,cc,rfl,h1.below hW,h2.below hW⟩).mono fun e w' h=>by
   obtain ⟨⟨v',he,hN⟩,hb⟩:=h
   have hN2:=hN
   obtain ⟨g,bs,hh,rfl,_,_,_,_,hp⟩:=hN
   exact ⟨⟨g,hh,he,hN2,hp.lt⟩,hb⟩
 ·exact (toSrs_any sa _ sc x.ss W hS.sl (h3.below hW)).mono fun e w' h=>⟨h.1,⟨h.2.1,h.2.2.1,h.2.2.1.lt⟩,h.2.2.2⟩
 ·exact (SeenR.toEns_any ea ec x.es W hS.el (h4.below hW)).mono fun e w' h=>⟨h.1,⟨h.2.1,h.2.2.1,h.2.2.1.lt⟩,h.2.2.2⟩
 ·exact (WinR.toWs ua uc x.ws W hS.wl hS.ws (h5.below hW)).mono fun e w' h=>⟨h.1,⟨h.2.1,h.2.2.1,h.2.1.wx,h.2.2.1.lt⟩,h.2.2.2⟩
 ·exact (LedR.toDsM da dc x.ds W hS.dl hS.ds (h6.below hW)).mono fun e w' h=>⟨h.1,⟨h.2.2.2.2,h.2.2.2.1,LedR.DW.dy h.2.2.2.2,h.2.2.2.1.lt⟩,h.2.2.1⟩
 ·rintro e w' ⟨⟨B,a,b,t0,g1,t1,g2,t2,g3,t3,g4,t4,rfl,⟨q0,q1,q2,q3,q4⟩,hq⟩,hb⟩
  have hM:MkE w.heap.size w'.heap.size _ x w':=⟨B,a,b,t0,g1,t1,g2,t2,g3,t3,g4,t4,rfl,⟨q0,⟨q1.2.1,q1.2.2⟩,⟨q2.2.1,q2.2.2⟩,⟨q3.2.1,q3.2.2.1,q3.2.2.2⟩,⟨q4.2.1,q4.2.2.1,q4.2.2.2⟩⟩,hq.1,hq.2.1,hq.2.2.1,hq.2.2.2.1,hq.2.2.2.2.1,hq.2.2.2.2.2,Nat.le_refl _⟩
  obtain ⟨ma',mc',ca',cc',e1,e2,e3⟩:=q0.1.is
  simp only [Value.agg.injEq,Array.mk.injEq,List.cons.injEq,Value.slice.injEq,and_true,true_and] at e1
  obtain ⟨⟨rfl,rfl⟩,rfl,rfl⟩:=e1
  exact ⟨_,rfl,⟨_,_,_,_,_,_,_,_,_,_,_,_,rfl,e2,e3,q1.1,q2.1,q3.1.wns q3.2.1.lt,q4.1.dcs q4.2.1.lt⟩,hM,hb⟩
theorem eqEngA (v v':Value) (x:Eng) (w:World) (hS:x.Small) (h:IsEng v x w) (h':IsEng v' x w) :
 Calls Tryz.prog 9 #[v,v'] w fun e w'=>e=.returned (.bool true)∧Below w.heap.size w w':=by
 obtain ⟨ma,mc,ca,cc,sa,sc,ea,ec,ua,uc,da,dc,rfl,h1,h2,h3,h4,h5,h6⟩:=h
 obtain ⟨ma',mc',ca',cc',sa',sc',ea',ec',ua',uc',da',dc',rfl,h1',h2',h3',h4',h5',h6'⟩:=h'
 exact eqEng ma ma' _ mc mc' ca ca' _ cc cc' sa sa' _ sc sc' ea ea' _ ec ec' ua ua' _ uc uc' da da' _ dc dc' x.fr w (fun W hW=>eqCa_any _ _ x.c W hS.c ⟨ma,mc,ca,cc,rfl,h1.below hW,h2.below hW⟩ ⟨ma',mc',ca',cc',rfl,h1'.below hW,h2'.below hW⟩)
  (fun W hW=>eqSrs_any sa sa' _ sc sc' x.ss W hS.sl (h3.below hW) (h3'.below hW)) (fun W hW=>SeenR.eqEns_any ea ea' ec ec' x.es W hS.el (h4.below hW) (h4'.below hW)) (fun W hW=>WinR.eqWs ua ua' uc uc' x.ws W hS.wl hS.ws (h5.below hW) (h5'.below hW)) (fun W hW=>LedR.eqDs da da' dc dc' x.ds W hS.dl hS.ds (h6.below hW) (h6'.below hW))
end EngR
namespace EngR
open OwG CatR ChG
open RowG (cellsAll grown_set)
open EvtR (Pt)
def Pc (R:Value→World→Prop) (mf hf tot lo hi:Nat) (v:Value) (W:World):Prop:=hi≤W.heap.size∧∃T:Nat→Prop,(∀b,T b→lo≤b∧b<hi)∧∀W',W.heap.size≤W'.heap.size→(∀b,T b→W'.heap[b]? = W.heap[b]?)→R v W'∧∀K,1≤K→K+tot≤5300001→MkH mf hf v K (K+tot) T W'
section
variable {R:Value→World→Prop} {mf hf tot lo hi:Nat} {v:Value} {W W':World}
theorem Pc.keep (h:Pc R mf hf tot lo hi v W) (hs:W.heap.size≤W'.heap.size) (hb:∀b,lo≤b→b<hi→W'.heap[b]? = W.heap[b]?):Pc R mf hf tot lo hi v W':=by
 obtain ⟨h1,T,h2,h3⟩:=h
 refine ⟨by omega,T,h2,fun W2 hs2 hb2=>h3 W2 (by omega) (fun b q=>(hb2 b q).trans (hb b (h2 b q).1 (h2 b q).2))⟩
theorem Pc.below (h:Pc R mf hf tot lo hi v W) (hb:Below W.heap.size W W'):Pc R mf hf tot lo hi v W':=h.keep hb.size (fun b _ q=>hb.block b (by have:=h.1;omega))
theorem Pc.kq {base:Nat} (h:Pc R mf hf tot lo hi v W) (hk:Kq base W W') (hl:base≤lo):Pc R mf hf tot lo hi v W':=h.keep hk.size (fun b q1 q2=>hk.block b (by omega) (by have:=h.1;omega))
theorem Pc.put (h:Pc R mf hf tot lo hi v W) (g o:Nat) (u:Value) (hg:g<lo∨hi≤g):Pc R mf hf tot lo hi v (W.setCell ⟨g,o,none⟩ u) :=
 h.keep (grown_set W g o u).size (fun b q1 q2=>(grown_set W g o u).block b (by have:=h.1;omega) (by simp;omega))
theorem Pc.grown {row:Option Nat} (h:Pc R mf hf tot lo hi v W) (hg:W.grownBy W' row) (hr:∀g,row=some g→g<lo∨hi≤g):Pc R mf hf tot lo hi v W' :=
 h.keep hg.size (fun b q1 q2=>hg.block b (by have:=h.1;omega) (fun e=>by have:=hr b e.symm;omega))
theorem Pc.reads (h:Pc R mf hf tot lo hi v W):R v W:=(h.2.choose_spec.2 W (Nat.le_refl _) (fun _ _=>rfl)).1
theorem Pc.wide {lo' hi':Nat} (h:Pc R mf hf tot lo hi v W) (h1:lo'≤lo) (h2:hi≤hi') (h3:hi'≤W.heap.size):Pc R mf hf tot lo' hi' v W:=by
 obtain ⟨_,T,q1,q2⟩:=h
 exact ⟨h3,T,fun b q=>by have:=q1 b q;omega,q2⟩
theorem Pc.imp {R':Value→World→Prop} (h:Pc R mf hf tot lo hi v W) (hR:∀W,R v W→R' v W):Pc R' mf hf tot lo hi v W:=by
 obtain ⟨h1,T,q1,q2⟩:=h
 exact ⟨h1,T,q1,fun W2 a b=>⟨hR _ (q2 W2 a b).1,(q2 W2 a b).2⟩⟩
theorem Pc.nil (W:World) (hR:∀W,R v W) (hM:∀K W,MkH mf hf v K K (fun _=>False) W):Pc R mf hf 0 lo W.heap.size v W :=
 ⟨Nat.le_refl _,fun _=>False,fun _ q=>q.elim,fun W2 _ _=>⟨hR W2,fun K _ _=>hM K W2⟩⟩
end
theorem own_blk {W W':World} {base e size n:Nat} {v:Value} {xs:List Value} (h:W.ownsRow base e size v n xs) (hs:W.heap.size≤W'.heap.size) (hb:∀b,v.ownBlock=some b→W'.heap[b]? = W.heap[b]?):W'.ownsRow base e size v n xs:=by
 refine ⟨h.1,h.2.imp id ?_⟩
 rintro ⟨g,cap,cur,rfl,hg,hh,rest⟩
 exact ⟨g,cap,cur,rfl,hg,(hb g rfl).trans hh,rest⟩
def RCr (xs:List Cr) (v:Value) (W:World):Prop:=∃a c,v=.slice a xs.length c∧Crs a xs.length xs W
def REn (xs:List SeenR.N) (v:Value) (W:World):Prop:=∃a c,v=.slice a xs.length c∧SeenR.Ens a xs W
def RWd (xs:List WinR.Wd) (v:Value) (W:World):Prop:=∃a c,v=.slice a xs.length c∧WinR.Wns a xs W
def RDc (xs:List DocR.D) (v:Value) (W:World):Prop:=∃a c,v=.slice a xs.length c∧LedR.Dcs a xs W
theorem own_crsT {w:World} {base n c e:Nat} {ao:Option Addr} {ts:List Cr} (h:w.ownsRow base e 2 (.slice ao n c) n (cellsAll Cr.cells ts)) (hn:n=ts.length):Crs ao n ts w:=by
 subst hn
 obtain ⟨ao',cap,e,hm⟩:=RowG.own_made (z:=Cr.zero) Cr.len h
 cases e
 refine ⟨rfl,?_⟩
 rcases hm.rws with h0|⟨b,off,rfl,hb,hc⟩
 ·exact .inl h0
 ·exact .inr ⟨b,off,rfl,hb,fun j hj=>⟨hc j hj 0 (by omega),hc j hj 1 (by omega)⟩⟩
theorem pc_sr {W:World} {lo:Nat} {v:Value} {xs:List Cr} (h:W.ownsRow lo 63 2 v xs.length (cellsAll Cr.cells xs)) (hn:xs.length≤1048576):Pc (RCr xs) 39 94 (2*xs.length) lo W.heap.size v W:=by
 obtain ⟨a,c,rfl,_⟩:=RowG.own_made (z:=Cr.zero) Cr.len h
 refine ⟨Nat.le_refl _,T1 (.slice a xs.length c),fun b q=>h.lt b q,fun W2 hs hb=>?_⟩
 have h2:=own_blk h hs hb
 exact ⟨⟨a,c,rfl,own_crsT h2 rfl⟩,fun K k1 k2=>mkh_src h2 k1 (by omega) hn⟩
theorem pc_en {W:World} {lo:Nat} {v:Value} {xs:List SeenR.N} (h:W.ownsRow lo 110 3 v xs.length (cellsAll SeenR.N.cells xs)) (hn:xs.length≤1048576):Pc (REn xs) 40 95 (3*xs.length) lo W.heap.size v W:=by
 obtain ⟨a,c,rfl,_⟩:=RowG.own_made (z:=SeenR.N.zero) SeenR.N.len h
 refine ⟨Nat.le_refl _,ChG.T0 (.slice a xs.length c),fun b q=>h.lt b q,fun W2 hs hb=>?_⟩
 have h2:=own_blk h hs hb
 obtain ⟨a',c',e,hm⟩:=RowG.own_made (z:=SeenR.N.zero) SeenR.N.len h2
 cases e
 exact ⟨⟨a,c,rfl,hm.rws⟩,fun K k1 k2=>SeenR.mkh_ens (fun K=>mkh_ens0 K a c W2) h2 k1 (by omega) hn⟩
end EngR
namespace LedR
open OwG LinR DocR
open RowG (MadeG Rws cellsAll H_)
open EvtR (Pt)
open CatR (Blk Blk.new)
structure DA where
 d:D
 la:Option Addr
 lc:Nat
def DA.v (x:DA):Value:=.slice x.la x.d.ls.length x.lc
def DA.cells (x:DA):List Value:=[.string x.d.a,.int .i64 x.d.mo,.int .i64 x.d.sq,x.v]
theorem DA.len (x:DA):x.cells.length=4:=rfl
def DA.zero:DA:=⟨D.zero,none,0⟩
def LnO (base:Nat) (x:DA) (W:World):Prop:=W.ownsRow base 209 2 x.v x.d.ls.length (cellsAll N.cells x.d.ls)
def Apt (x y:DA):Prop:=∀b,x.v.ownBlock=some b→y.v.ownBlock≠some b
def DsO (base:Nat) (v:Value) (ds:List D) (W:World):Prop:=∃xs:List DA,xs.map DA.d=ds∧W.ownsRow base 122 4 v ds.length (cellsAll DA.cells xs)∧(∀x∈xs,LnO base x W)∧xs.Pairwise Apt
theorem LnO.grown {base:Nat} {x:DA} {W W':World} {row:Option Nat} (h:LnO base x W) (hg:W.grownBy W' row) (hne:∀b,x.v.ownBlock=some b→some b≠row):LnO base x W':=own_keepO h hg hne
theorem LnO.low {base base':Nat} {x:DA} {W:World} (h:LnO base x W) (hb:base'≤base):LnO base' x W:=OwG.own_low h hb
theorem dso_nil (base:Nat) (W:World):DsO base (.slice none 0 0) [] W:=⟨[],rfl,World.ownsRow_nil _ _ _ _,(fun x h=>absurd h (by simp)),List.Pairwise.nil⟩
theorem DsO.low {base base':Nat} {v:Value} {ds:List D} {W:World} (h:DsO base v ds W) (hb:base'≤base):DsO base' v ds W:=by
 obtain ⟨xs,h1,h2,h3,h4⟩:=h
 exact ⟨xs,h1,OwG.own_low h2 hb,fun x hx=>(h3 x hx).low hb,h4⟩
theorem DsO.far {base g:Nat} {v:Value} {ds:List D} {W W':World} (h:DsO base v ds W) (hg:W.grownBy W' (some g)) (hlt:g<base):DsO base v ds W':=by
 obtain ⟨xs,h1,h2,h3,h4⟩:=h
 exact ⟨xs,h1,own_keepG h2 hg hlt,fun x hx=>own_keepG (h3 x hx) hg hlt,h4⟩
theorem DsO.below {base:Nat} {v:Value} {ds:List D} {W W':World} (h:DsO base v ds W) (hb:Below W.heap.size W W'):DsO base v ds W':=by
 obtain ⟨xs,h1,h2,h3,h4⟩:=h
 exact ⟨xs,h1,RowG.own_below h2 hb,fun x hx=>RowG.own_below (h3 x hx) hb,h4⟩
theorem DsO.dcs {base:Nat} {v:Value} {ds:List D} {W:World} (h:DsO base v ds W):∃ao cap,v=.slice ao ds.length cap∧Dcs ao ds W:=by
 obtain ⟨xs,h1,h2,h3,_⟩:=h
 have hl:ds.length=xs.length:=by rw [←h1];simp
 rw [hl] at h2
 obtain ⟨ao,cap,rfl,hm⟩:=RowG.own_made (z:=DA.zero) DA.len h2
 refine ⟨ao,cap,by rw [hl],?_⟩
 rcases hm.rws with h0|⟨b,off,rfl,hb,hc⟩
 ·exact .inl (by omega)
 ·refine .inr ⟨b,off,rfl,hb,fun i hi=>?_⟩
  have hx:i<xs.length:=by omega
  have e:ds.getD i D.zero=(xs.getD i DA.zero).d:=by
   rw [←h1]
   simp [List.getD,hx]
  have hmem:=RowG.getD_mem (z:=DA.zero) xs i hx
  have c:=hc i hx
  rw [e]
  generalize xs.getD i DA.zero=X at *
  obtain ⟨ao',cap',e',hm'⟩:=RowG.own_made (z:=N.zero) N.len (h3 X hmem)
  unfold DA.v at e'
  cases e'
  exact ⟨X.la,X.lc,c 0 (by omega),c 1 (by omega),c 2 (by omega),c 3 (by omega),hm'.rws⟩
end LedR
end Go.Proofs.YtnceeaccbcfopaaGreatDoor
