/-
  What marking a value promises: how far, which blocks alone, and what reading the marks answers later on; and how it is put together of its parts.
  What marking a list of entries of one's own promises.
  Tiers, meters, credits and catalogs as rows of cells.
  Lists of meters of one's own.
  The conditions stand in what each theorem says.
-/
import Derived.Deep.RegionHeld3
import Derived.Test.YtnceeaccbcfopaaGreatDoorT1
set_option maxRecDepth 100000
set_option maxHeartbeats 16000000
namespace Go.Proofs.YtnceeaccbcfopaaGreatDoor
open Go.ChangeShapes Go.WideShapes Go.ChangeAt Go.RowKit
set_option linter.unusedVariables false
namespace ChG
open EvtR (Pt)
open CatR (Blk Blk.new)
open RowG (H_)
theorem Chg.join {S S':Nat→Prop} {w w1 w2:World} (h:Chg S w w1) (h2:Chg S' w1 w2):Chg (fun b=>S b∨S' b) w w2:=(h.wide fun b q=>.inl q).trans (h2.wide fun b q=>.inr q)
def Hd (hf:Nat) (v:Value) (K K':Nat) (T:Nat→Prop) (w:World):Prop:=∀(S:Nat→Prop) W,Chg S w W→(∀b,S b→¬T b)→Calls Tryz.prog hf #[v,.int .i64 (K:Nat)] W fun e w3=>e=.returned (.int .i64 (K':Nat))∧Below W.heap.size W w3
def MkH (mf hf:Nat) (v:Value) (K K':Nat) (T:Nat→Prop) (w:World):Prop:=∀(S:Nat→Prop) W,Chg S w W→(∀b,S b→¬T b)→Calls Tryz.prog mf #[v,.int .i64 (K:Nat)] W fun e w'=>e=.returned (.int .i64 (K':Nat))∧Chg T W w'∧Hd hf v K K' T w'
theorem mkh_none {mf hf:Nat} {v:Value} {K:Nat} {w:World} (h1:∀W,Calls Tryz.prog mf #[v,.int .i64 (K:Nat)] W fun e w'=>e=.returned (.int .i64 (K:Nat))∧Below W.heap.size W w') (h2:∀W,Calls Tryz.prog hf #[v,.int .i64 (K:Nat)] W fun e w'=>e=.returned (.int .i64 (K:Nat))∧Below W.heap.size W w'):MkH mf hf v K K (fun _=>False) w :=
 fun S W _ _=>(h1 W).mono fun e w' h=>⟨h.1,Chg.of_below h.2,fun S' W' _ _=>h2 W'⟩
theorem mkh_cat (ma:Option Addr) (ml mc:Nat) (ca:Option Addr) (cl cc:Nat) (K0 K1 K2:Nat) (T0 T1:Nat→Prop) (w:World)
 (h0:MkH 87 145 (.slice ma ml mc) K0 K1 T0 w)
 (h1:MkH 88 146 (.slice ca cl cc) K1 K2 T1 w)
 (hl:∀b,T0 b∨T1 b→b<w.heap.size) (d01:∀b,T0 b→T1 b→False) :
 MkH 38 93 (.agg #[.slice ma ml mc,.slice ca cl cc]) K0 K2 (fun b=>T0 b∨T1 b) w:=by
 intro S W hc hS
 have HC:=H_ hc
 have HS:=H_ hS
 have HL:=H_ hl
 have H0:=H_ h0
 have H1:=H_ h1
 have D01:=H_ d01
 clear hc hS hl h0 h1 d01
 obtain ⟨W0,hW0⟩:∃W0,W0=W.alloc (.cells #[.slice ma ml mc,.slice ca cl cc] 36):=⟨_,rfl⟩
 have C0:Hid (Chg (fun _=>False) W W0):=H_ (by rw [hW0];exact Chg.of_below (al_ _ _))
 have X0:Hid (Blk W.heap.size [.slice ma ml mc,.slice ca cl cc] W0):=H_ (by rw [hW0];exact Blk.new W [.slice ma ml mc,.slice ca cl cc] 36)
 have HW:=H_ hW0
 clear hW0
 go_enter Tryz.func38,Tryz.ntmps38
 go_wp2_with fail
 rw [←HW.out]
 clear HW
 have N0:=H_ (H0.out _ _ (HC.out.join C0.out) (by
  rintro b (q|q) q2
  ·exact HS.out b q (.inl q2)
  ·exact q))
 refine N0.out.mono ?_
 rintro e w1 ⟨rfl,hc,hh⟩
 clear N0
 have Q0:=H_ hc
 have G0:=H_ hh
 have X1:=H_ (hc.blk X0.out (fun q=>by have:=HL.out _ (.inl q);have:=HC.out.size;omega))
 have C1:Hid (Chg (fun b=>T0 b) W w1):=H_ ((C0.out.wide (fun _ q=>q.elim)).trans Q0.out)
 clear hc hh X0
 have xl:=X1.out.1
 have x0:=q_ X1.out.2 0
 have x1:=q_ X1.out.2 1
 go_wp2_with fail
 have N1:=H_ (H1.out _ _ (HC.out.join C1.out) (by
  rintro b (q|q) q2
  ·exact HS.out b q (.inr (q2))
  ·exact D01.out b q q2))
 refine N1.out.mono ?_
 rintro e w2 ⟨rfl,hc,hh⟩
 clear N1
 clear xl
 clear x0
 clear x1
 have Q1:=H_ hc
 have G1:=H_ hh
 have X2:=H_ (hc.blk X1.out (fun q=>by have:=HL.out _ (.inr (q));have:=HC.out.size;omega))
 have C2:Hid (Chg (fun b=>T0 b∨T1 b) W w2):=H_ ((C1.out.wide (fun b q=>.inl q)).trans (Q1.out.wide (fun b q=>.inr (q))))
 clear hc hh X1
 go_wp2_with fail
 go_ret
 refine ⟨rfl,C2.out,?_⟩
 intro S2 Y hc hS2
 have HY:=H_ hc
 have HS2:=H_ hS2
 clear hc hS2 X2
 obtain ⟨Y0,hY0⟩:∃Y0,Y0=Y.alloc (.cells #[.slice ma ml mc,.slice ca cl cc] 36):=⟨_,rfl⟩
 have B0:Hid (Below Y.heap.size Y Y0):=H_ (by rw [hY0];exact (Below.refl _ _).alloc (Nat.le_refl _) _)
 have Z0:Hid (Blk Y.heap.size [.slice ma ml mc,.slice ca cl cc] Y0):=H_ (by rw [hY0];exact Blk.new Y [.slice ma ml mc,.slice ca cl cc] 36)
 have E0:Hid (∀V,Below Y.heap.size Y V→Calls Tryz.prog 145 #[.slice ma ml mc,.int .i64 (K0:Nat)] V fun e w3=>e=.returned (.int .i64 (K1:Nat))∧Below V.heap.size V w3):=H_ (fun V hV=>G0.out _ V (((Q1.out).join HY.out).below hV) (by
  rintro b (q|q) q2
  ·exact D01.out b q2 q
  ·exact HS2.out b q (.inl q2)
  ))
 have E1:Hid (∀V,Below Y.heap.size Y V→Calls Tryz.prog 146 #[.slice ca cl cc,.int .i64 (K1:Nat)] V fun e w3=>e=.returned (.int .i64 (K2:Nat))∧Below V.heap.size V w3):=H_ (fun V hV=>G1.out _ V ((HY.out).below hV) (by
  rintro b q q2
  exact HS2.out b q (.inr (q2))
  ))
 clear Q0 Q1 G0 G1 HC HS HL HY HS2 C0 C1 C2 H0 H1
 have HW:=H_ hY0
 clear hY0
 have k1:¬((K1:Nat):Int)<0:=by omega
 have k2:¬((K2:Nat):Int)<0:=by omega
 go_enter Tryz.func93,Tryz.ntmps93
 go_wp2_with fail
 rw [←HW.out]
 clear HW
 refine (E0.out _ B0.out).mono ?_
 rintro e y1 ⟨rfl,hb⟩
 have B1:=HT_ B0 hb
 have Z1:=H_ (Z0.out.below hb)
 clear hb B0 Z0
 have xl:=Z1.out.1
 have x0:=q_ Z1.out.2 0
 have x1:=q_ Z1.out.2 1
 go_wp2_with fail
 refine (E1.out _ B1.out).mono ?_
 rintro e y2 ⟨rfl,hb⟩
 clear xl
 clear x0
 clear x1
 have B2:=HT_ B1 hb
 have Z2:=H_ (Z1.out.below hb)
 clear hb B1 Z1
 go_wp2_with fail
 go_ret
 exact ⟨rfl,B2.out⟩
theorem mkh_eng (ma:Option Addr) (ml mc:Nat) (ca:Option Addr) (cl cc:Nat) (sa:Option Addr) (sl sc:Nat) (na:Option Addr) (nl nc:Nat) (ua:Option Addr) (ul uc:Nat) (da:Option Addr) (dl dc:Nat) (fr:Int) (K0 K1 K2 K3 K4 K5:Nat) (T0 T1 T2 T3 T4:Nat→Prop) (w:World)
 (h0:MkH 38 93 (.agg #[.slice ma ml mc,.slice ca cl cc]) K0 K1 T0 w)
 (h1:MkH 39 94 (.slice sa sl sc) K1 K2 T1 w)
 (h2:MkH 40 95 (.slice na nl nc) K2 K3 T2 w)
 (h3:MkH 41 96 (.slice ua ul uc) K3 K4 T3 w)
 (h4:MkH 42 44 (.slice da dl dc) K4 K5 T4 w)
 (hl:∀b,T0 b∨T1 b∨T2 b∨T3 b∨T4 b→b<w.heap.size) (d01:∀b,T0 b→T1 b→False) (d02:∀b,T0 b→T2 b→False) (d03:∀b,T0 b→T3 b→False) (d04:∀b,T0 b→T4 b→False) (d12:∀b,T1 b→T2 b→False) (d13:∀b,T1 b→T3 b→False) (d14:∀b,T1 b→T4 b→False) (d23:∀b,T2 b→T3 b→False) (d24:∀b,T2 b→T4 b→False) (d34:∀b,T3 b→T4 b→False) :
 MkH 10 43 (.agg #[.slice ma ml mc,.slice ca cl cc,.slice sa sl sc,.slice na nl nc,.slice ua ul uc,.slice da dl dc,.int .i64 fr]) K0 K5 (fun b=>T0 b∨T1 b∨T2 b∨T3 b∨T4 b) w:=by
 intro S W hc hS
 have HC:=H_ hc
 have HS:=H_ hS
 have HL:=H_ hl
 have H0:=H_ h0
 have H1:=H_ h1
 have H2:=H_ h2
 have H3:=H_ h3
 have H4:=H_ h4
 have D01:=H_ d01
 have D02:=H_ d02
 have D03:=H_ d03
 have D04:=H_ d04
 have D12:=H_ d12
 have D13:=H_ d13
 have D14:=H_ d14
 have D23:=H_ d23
 have D24:=H_ d24
 have D34:=H_ d34
 clear hc hS hl h0 h1 h2 h3 h4 d01 d02 d03 d04 d12 d13 d14 d23 d24 d34
 obtain ⟨W0,hW0⟩:∃W0,W0=W.alloc (.cells #[.slice ma ml mc,.slice ca cl cc,.slice sa sl sc,.slice na nl nc,.slice ua ul uc,.slice da dl dc,.int .i64 fr] 42):=⟨_,rfl⟩
 have C0:Hid (Chg (fun _=>False) W W0):=H_ (by rw [hW0];exact Chg.of_below (al_ _ _))
 have X0:Hid (Blk W.heap.size [.slice ma ml mc,.slice ca cl cc,.slice sa sl sc,.slice na nl nc,.slice ua ul uc,.slice da dl dc,.int .i64 fr] W0):=H_ (by rw [hW0];exact Blk.new W [.slice ma ml mc,.slice ca cl cc,.slice sa sl sc,.slice na nl nc,.slice ua ul uc,.slice da dl dc,.int .i64 fr] 42)
 have HW:=H_ hW0
 clear hW0
 go_enter Tryz.func10,Tryz.ntmps10
 go_wp2_with fail
 rw [←HW.out]
 clear HW
 have N0:=H_ (H0.out _ _ (HC.out.join C0.out) (by
  rintro b (q|q) q2
  ·exact HS.out b q (.inl q2)
  ·exact q))
 refine N0.out.mono ?_
 rintro e w1 ⟨rfl,hc,hh⟩
 clear N0
 have Q0:=H_ hc
 have G0:=H_ hh
 have X1:=H_ (hc.blk X0.out (fun q=>by have:=HL.out _ (.inl q);have:=HC.out.size;omega))
 have C1:Hid (Chg (fun b=>T0 b) W w1):=H_ ((C0.out.wide (fun _ q=>q.elim)).trans Q0.out)
 clear hc hh X0
 have xl:=X1.out.1
 have x0:=q_ X1.out.2 0
 have x1:=q_ X1.out.2 1
 have x2:=q_ X1.out.2 2
 have x3:=q_ X1.out.2 3
 have x4:=q_ X1.out.2 4
 have x5:=q_ X1.out.2 5
 have x6:=q_ X1.out.2 6
 go_wp2_with fail
 have N1:=H_ (H1.out _ _ (HC.out.join C1.out) (by
  rintro b (q|q) q2
  ·exact HS.out b q (.inr (.inl q2))
  ·exact D01.out b q q2))
 refine N1.out.mono ?_
 rintro e w2 ⟨rfl,hc,hh⟩
 clear N1
 clear xl
 clear x0
 clear x1
 clear x2
 clear x3
 clear x4
 clear x5
 clear x6
 have Q1:=H_ hc
 have G1:=H_ hh
 have X2:=H_ (hc.blk X1.out (fun q=>by have:=HL.out _ (.inr (.inl q));have:=HC.out.size;omega))
 have C2:Hid (Chg (fun b=>T0 b∨T1 b) W w2):=H_ ((C1.out.wide (fun b q=>.inl q)).trans (Q1.out.wide (fun b q=>.inr (q))))
 clear hc hh X1
 have xl:=X2.out.1
 have x0:=q_ X2.out.2 0
 have x1:=q_ X2.out.2 1
 have x2:=q_ X2.out.2 2
 have x3:=q_ X2.out.2 3
 have x4:=q_ X2.out.2 4
 have x5:=q_ X2.out.2 5
 have x6:=q_ X2.out.2 6
 go_wp2_with fail
 have N2:=H_ (H2.out _ _ (HC.out.join C2.out) (by
  rintro b (q|q) q2
  ·exact HS.out b q (.inr (.inr (.inl q2)))
  ·rcases q with q|q
   ·exact D02.out b q q2
   ·exact D12.out b q q2))
 refine N2.out.mono ?_
 rintro e w3 ⟨rfl,hc,hh⟩
 clear N2
 clear xl
 clear x0
 clear x1
 clear x2
 clear x3
 clear x4
 clear x5
 clear x6
 have Q2:=H_ hc
 have G2:=H_ hh
 have X3:=H_ (hc.blk X2.out (fun q=>by have:=HL.out _ (.inr (.inr (.inl q)));have:=HC.out.size;omega))
 have C3:Hid (Chg (fun b=>T0 b∨T1 b∨T2 b) W w3):=H_ ((C2.out.wide (fun b q=>by
  rcases q with q|q
  ·exact .inl q
  ·exact .inr (.inl q))).trans (Q2.out.wide (fun b q=>.inr (.inr (q)))))
 clear hc hh X2
 have xl:=X3.out.1
 have x0:=q_ X3.out.2 0
 have x1:=q_ X3.out.2 1
 have x2:=q_ X3.out.2 2
 have x3:=q_ X3.out.2 3
 have x4:=q_ X3.out.2 4
 have x5:=q_ X3.out.2 5
 have x6:=q_ X3.out.2 6
 go_wp2_with fail
 have N3:=H_ (H3.out _ _ (HC.out.join C3.out) (by
  rintro b (q|q) q2
  ·exact HS.out b q (.inr (.inr (.inr (.inl q2))))
  ·rcases q with q|q|q
   ·exact D03.out b q q2
   ·exact D13.out b q q2
   ·exact D23.out b q q2))
 refine N3.out.mono ?_
 rintro e w4 ⟨rfl,hc,hh⟩
 clear N3
 clear xl
 clear x0
 clear x1
 clear x2
 clear x3
 clear x4
 clear x5
 clear x6
 have Q3:=H_ hc
 have G3:=H_ hh
 have X4:=H_ (hc.blk X3.out (fun q=>by have:=HL.out _ (.inr (.inr (.inr (.inl q))));have:=HC.out.size;omega))
 have C4:Hid (Chg (fun b=>T0 b∨T1 b∨T2 b∨T3 b) W w4):=H_ ((C3.out.wide (fun b q=>by
  rcases q with q|q|q
  ·exact .inl q
  ·exact .inr (.inl q)
  ·exact .inr (.inr (.inl q)))).trans (Q3.out.wide (fun b q=>.inr (.inr (.inr (q))))))
 clear hc hh X3
 have xl:=X4.out.1
 have x0:=q_ X4.out.2 0
 have x1:=q_ X4.out.2 1
 have x2:=q_ X4.out.2 2
 have x3:=q_ X4.out.2 3
 have x4:=q_ X4.out.2 4
 have x5:=q_ X4.out.2 5
 have x6:=q_ X4.out.2 6
 go_wp2_with fail
 have N4:=H_ (H4.out _ _ (HC.out.join C4.out) (by
  rintro b (q|q) q2
  ·exact HS.out b q (.inr (.inr (.inr (.inr (q2)))))
  ·rcases q with q|q|q|q
   ·exact D04.out b q q2
   ·exact D14.out b q q2
   ·exact D24.out b q q2
   ·exact D34.out b q q2))
 refine N4.out.mono ?_
 rintro e w5 ⟨rfl,hc,hh⟩
 clear N4
 clear xl
 clear x0
 clear x1
 clear x2
 clear x3
 clear x4
 clear x5
 clear x6
 have Q4:=H_ hc
 have G4:=H_ hh
 have X5:=H_ (hc.blk X4.out (fun q=>by have:=HL.out _ (.inr (.inr (.inr (.inr (q)))));have:=HC.out.size;omega))
 have C5:Hid (Chg (fun b=>T0 b∨T1 b∨T2 b∨T3 b∨T4 b) W w5):=H_ ((C4.out.wide (fun b q=>by
  rcases q with q|q|q|q
  ·exact .inl q
  ·exact .inr (.inl q)
  ·exact .inr (.inr (.inl q))
  ·exact .inr (.inr (.inr (.inl q))))).trans (Q4.out.wide (fun b q=>.inr (.inr (.inr (.inr (q)))))))
 clear hc hh X4
 go_wp2_with fail
 go_ret
 refine ⟨rfl,C5.out,?_⟩
 intro S2 Y hc hS2
 have HY:=H_ hc
 have HS2:=H_ hS2
 clear hc hS2 X5
 obtain ⟨Y0,hY0⟩:∃Y0,Y0=Y.alloc (.cells #[.slice ma ml mc,.slice ca cl cc,.slice sa sl sc,.slice na nl nc,.slice ua ul uc,.slice da dl dc,.int .i64 fr] 42):=⟨_,rfl⟩
 have B0:Hid (Below Y.heap.size Y Y0):=H_ (by rw [hY0];exact (Below.refl _ _).alloc (Nat.le_refl _) _)
 have Z0:Hid (Blk Y.heap.size [.slice ma ml mc,.slice ca cl cc,.slice sa sl sc,.slice na nl nc,.slice ua ul uc,.slice da dl dc,.int .i64 fr] Y0):=H_ (by rw [hY0];exact Blk.new Y [.slice ma ml mc,.slice ca cl cc,.slice sa sl sc,.slice na nl nc,.slice ua ul uc,.slice da dl dc,.int .i64 fr] 42)
 have E0:Hid (∀V,Below Y.heap.size Y V→Calls Tryz.prog 93 #[.agg #[.slice ma ml mc,.slice ca cl cc],.int .i64 (K0:Nat)] V fun e w3=>e=.returned (.int .i64 (K1:Nat))∧Below V.heap.size V w3):=H_ (fun V hV=>G0.out _ V ((((((Q1.out).join Q2.out).join Q3.out).join Q4.out).join HY.out).below hV) (by
  rintro b ((((q|q)|q)|q)|q) q2
  ·exact D01.out b q2 q
  ·exact D02.out b q2 q
  ·exact D03.out b q2 q
  ·exact D04.out b q2 q
  ·exact HS2.out b q (.inl q2)
  ))
 have E1:Hid (∀V,Below Y.heap.size Y V→Calls Tryz.prog 94 #[.slice sa sl sc,.int .i64 (K1:Nat)] V fun e w3=>e=.returned (.int .i64 (K2:Nat))∧Below V.heap.size V w3):=H_ (fun V hV=>G1.out _ V (((((Q2.out).join Q3.out).join Q4.out).join HY.out).below hV) (by
  rintro b (((q|q)|q)|q) q2
  ·exact D12.out b q2 q
  ·exact D13.out b q2 q
  ·exact D14.out b q2 q
  ·exact HS2.out b q (.inr (.inl q2))
  ))
 have E2:Hid (∀V,Below Y.heap.size Y V→Calls Tryz.prog 95 #[.slice na nl nc,.int .i64 (K2:Nat)] V fun e w3=>e=.returned (.int .i64 (K3:Nat))∧Below V.heap.size V w3):=H_ (fun V hV=>G2.out _ V ((((Q3.out).join Q4.out).join HY.out).below hV) (by
  rintro b ((q|q)|q) q2
  ·exact D23.out b q2 q
  ·exact D24.out b q2 q
  ·exact HS2.out b q (.inr (.inr (.inl q2)))
  ))
 have E3:Hid (∀V,Below Y.heap.size Y V→Calls Tryz.prog 96 #[.slice ua ul uc,.int .i64 (K3:Nat)] V fun e w3=>e=.returned (.int .i64 (K4:Nat))∧Below V.heap.size V w3):=H_ (fun V hV=>G3.out _ V (((Q4.out).join HY.out).below hV) (by
  rintro b (q|q) q2
  ·exact D34.out b q2 q
  ·exact HS2.out b q (.inr (.inr (.inr (.inl q2))))
  ))
 have E4:Hid (∀V,Below Y.heap.size Y V→Calls Tryz.prog 44 #[.slice da dl dc,.int .i64 (K4:Nat)] V fun e w3=>e=.returned (.int .i64 (K5:Nat))∧Below V.heap.size V w3):=H_ (fun V hV=>G4.out _ V ((HY.out).below hV) (by
  rintro b q q2
  exact HS2.out b q (.inr (.inr (.inr (.inr (q2)))))
  ))
 clear Q0 Q1 Q2 Q3 Q4 G0 G1 G2 G3 G4 HC HS HL HY HS2 C0 C1 C2 C3 C4 C5 H0 H1 H2 H3 H4
 have HW:=H_ hY0
 clear hY0
 have k1:¬((K1:Nat):Int)<0:=by omega
 have k2:¬((K2:Nat):Int)<0:=by omega
 have k3:¬((K3:Nat):Int)<0:=by omega
 have k4:¬((K4:Nat):Int)<0:=by omega
 have k5:¬((K5:Nat):Int)<0:=by omega
 go_enter Tryz.func43,Tryz.ntmps43
 go_wp2_with fail
 rw [←HW.out]
 clear HW
 refine (E0.out _ B0.out).mono ?_
 rintro e y1 ⟨rfl,hb⟩
 have B1:=HT_ B0 hb
 have Z1:=H_ (Z0.out.below hb)
 clear hb B0 Z0
 have xl:=Z1.out.1
 have x0:=q_ Z1.out.2 0
 have x1:=q_ Z1.out.2 1
 have x2:=q_ Z1.out.2 2
 have x3:=q_ Z1.out.2 3
 have x4:=q_ Z1.out.2 4
 have x5:=q_ Z1.out.2 5
 have x6:=q_ Z1.out.2 6
 go_wp2_with fail
 refine (E1.out _ B1.out).mono ?_
 rintro e y2 ⟨rfl,hb⟩
 clear xl
 clear x0
 clear x1
 clear x2
 clear x3
 clear x4
 clear x5
 clear x6
 have B2:=HT_ B1 hb
 have Z2:=H_ (Z1.out.below hb)
 clear hb B1 Z1
 have xl:=Z2.out.1
 have x0:=q_ Z2.out.2 0
 have x1:=q_ Z2.out.2 1
 have x2:=q_ Z2.out.2 2
 have x3:=q_ Z2.out.2 3
 have x4:=q_ Z2.out.2 4
 have x5:=q_ Z2.out.2 5
 have x6:=q_ Z2.out.2 6
 go_wp2_with fail
 refine (E2.out _ B2.out).mono ?_
 rintro e y3 ⟨rfl,hb⟩
 clear xl
 clear x0
 clear x1
 clear x2
 clear x3
 clear x4
 clear x5
 clear x6
 have B3:=HT_ B2 hb
 have Z3:=H_ (Z2.out.below hb)
 clear hb B2 Z2
 have xl:=Z3.out.1
 have x0:=q_ Z3.out.2 0
 have x1:=q_ Z3.out.2 1
 have x2:=q_ Z3.out.2 2
 have x3:=q_ Z3.out.2 3
 have x4:=q_ Z3.out.2 4
 have x5:=q_ Z3.out.2 5
 have x6:=q_ Z3.out.2 6
 go_wp2_with fail
 refine (E3.out _ B3.out).mono ?_
 rintro e y4 ⟨rfl,hb⟩
 clear xl
 clear x0
 clear x1
 clear x2
 clear x3
 clear x4
 clear x5
 clear x6
 have B4:=HT_ B3 hb
 have Z4:=H_ (Z3.out.below hb)
 clear hb B3 Z3
 have xl:=Z4.out.1
 have x0:=q_ Z4.out.2 0
 have x1:=q_ Z4.out.2 1
 have x2:=q_ Z4.out.2 2
 have x3:=q_ Z4.out.2 3
 have x4:=q_ Z4.out.2 4
 have x5:=q_ Z4.out.2 5
 have x6:=q_ Z4.out.2 6
 go_wp2_with fail
 refine (E4.out _ B4.out).mono ?_
 rintro e y5 ⟨rfl,hb⟩
 clear xl
 clear x0
 clear x1
 clear x2
 clear x3
 clear x4
 clear x5
 clear x6
 have B5:=HT_ B4 hb
 have Z5:=H_ (Z4.out.below hb)
 clear hb B4 Z4
 go_wp2_with fail
 go_ret
 exact ⟨rfl,B5.out⟩
theorem mkh_eout (ma:Option Addr) (ml mc:Nat) (ca:Option Addr) (cl cc:Nat) (sa:Option Addr) (sl sc:Nat) (na:Option Addr) (nl nc:Nat) (ua:Option Addr) (ul uc:Nat) (da:Option Addr) (dl dc:Nat) (oa:Option Addr) (ol oc:Nat) (fr c0 c1 c2 c3 c4 cd:Int) (K0 K1 K2:Nat) (T0 T1:Nat→Prop) (w:World)
 (h0:MkH 10 43 (.agg #[.slice ma ml mc,.slice ca cl cc,.slice sa sl sc,.slice na nl nc,.slice ua ul uc,.slice da dl dc,.int .i64 fr]) K0 K1 T0 w)
 (h1:MkH 42 44 (.slice oa ol oc) K1 K2 T1 w)
 (hl:∀b,T0 b∨T1 b→b<w.heap.size) (d01:∀b,T0 b→T1 b→False) :
 MkH 11 12 (.agg #[.slice ma ml mc,.slice ca cl cc,.slice sa sl sc,.slice na nl nc,.slice ua ul uc,.slice da dl dc,.int .i64 fr,.int .i64 c0,.int .i64 c1,.int .i64 c2,.int .i64 c3,.int .i64 c4,.slice oa ol oc,.int .i64 cd]) K0 K2 (fun b=>T0 b∨T1 b) w:=by
 intro S W hc hS
 have HC:=H_ hc
 have HS:=H_ hS
 have HL:=H_ hl
 have H0:=H_ h0
 have H1:=H_ h1
 have D01:=H_ d01
 clear hc hS hl h0 h1 d01
 obtain ⟨W0,hW0⟩:∃W0,W0=W.alloc (.cells #[.slice ma ml mc,.slice ca cl cc,.slice sa sl sc,.slice na nl nc,.slice ua ul uc,.slice da dl dc,.int .i64 fr,.int .i64 c0,.int .i64 c1,.int .i64 c2,.int .i64 c3,.int .i64 c4,.slice oa ol oc,.int .i64 cd] 46):=⟨_,rfl⟩
 have C0:Hid (Chg (fun _=>False) W W0):=H_ (by rw [hW0];exact Chg.of_below (al_ _ _))
 have X0:Hid (Blk W.heap.size [.slice ma ml mc,.slice ca cl cc,.slice sa sl sc,.slice na nl nc,.slice ua ul uc,.slice da dl dc,.int .i64 fr,.int .i64 c0,.int .i64 c1,.int .i64 c2,.int .i64 c3,.int .i64 c4,.slice oa ol oc,.int .i64 cd] W0):=H_ (by rw [hW0];exact Blk.new W [.slice ma ml mc,.slice ca cl cc,.slice sa sl sc,.slice na nl nc,.slice ua ul uc,.slice da dl dc,.int .i64 fr,.int .i64 c0,.int .i64 c1,.int .i64 c2,.int .i64 c3,.int .i64 c4,.slice oa ol oc,.int .i64 cd] 46)
 have HW:=H_ hW0
 clear hW0
 go_enter Tryz.func11,Tryz.ntmps11
 go_wp2_with fail
 rw [←HW.out]
 clear HW
 have N0:=H_ (H0.out _ _ (HC.out.join C0.out) (by
  rintro b (q|q) q2
  ·exact HS.out b q (.inl q2)
  ·exact q))
 refine N0.out.mono ?_
 rintro e w1 ⟨rfl,hc,hh⟩
 clear N0
 have Q0:=H_ hc
 have G0:=H_ hh
 have X1:=H_ (hc.blk X0.out (fun q=>by have:=HL.out _ (.inl q);have:=HC.out.size;omega))
 have C1:Hid (Chg (fun b=>T0 b) W w1):=H_ ((C0.out.wide (fun _ q=>q.elim)).trans Q0.out)
 clear hc hh X0
 have xl:=X1.out.1
 have x0:=q_ X1.out.2 0
 have x1:=q_ X1.out.2 1
 have x2:=q_ X1.out.2 2
 have x3:=q_ X1.out.2 3
 have x4:=q_ X1.out.2 4
 have x5:=q_ X1.out.2 5
 have x6:=q_ X1.out.2 6
 have x7:=q_ X1.out.2 7
 have x8:=q_ X1.out.2 8
 have x9:=q_ X1.out.2 9
 have x10:=q_ X1.out.2 10
 have x11:=q_ X1.out.2 11
 have x12:=q_ X1.out.2 12
 have x13:=q_ X1.out.2 13
 go_wp2_with fail
 have N1:=H_ (H1.out _ _ (HC.out.join C1.out) (by
  rintro b (q|q) q2
  ·exact HS.out b q (.inr (q2))
  ·exact D01.out b q q2))
 refine N1.out.mono ?_
 rintro e w2 ⟨rfl,hc,hh⟩
 clear N1
 clear xl
 clear x0
 clear x1
 clear x2
 clear x3
 clear x4
 clear x5
 clear x6
 clear x7
 clear x8
 clear x9
 clear x10
 clear x11
 clear x12
 clear x13
 have Q1:=H_ hc
 have G1:=H_ hh
 have X2:=H_ (hc.blk X1.out (fun q=>by have:=HL.out _ (.inr (q));have:=HC.out.size;omega))
 have C2:Hid (Chg (fun b=>T0 b∨T1 b) W w2):=H_ ((C1.out.wide (fun b q=>.inl q)).trans (Q1.out.wide (fun b q=>.inr (q))))
 clear hc hh X1
 go_wp2_with fail
 go_ret
 refine ⟨rfl,C2.out,?_⟩
 intro S2 Y hc hS2
 have HY:=H_ hc
 have HS2:=H_ hS2
 clear hc hS2 X2
 obtain ⟨Y0,hY0⟩:∃Y0,Y0=Y.alloc (.cells #[.slice ma ml mc,.slice ca cl cc,.slice sa sl sc,.slice na nl nc,.slice ua ul uc,.slice da dl dc,.int .i64 fr,.int .i64 c0,.int .i64 c1,.int .i64 c2,.int .i64 c3,.int .i64 c4,.slice oa ol oc,.int .i64 cd] 46):=⟨_,rfl⟩
 have B0:Hid (Below Y.heap.size Y Y0):=H_ (by rw [hY0];exact (Below.refl _ _).alloc (Nat.le_refl _) _)
 have Z0:Hid (Blk Y.heap.size [.slice ma ml mc,.slice ca cl cc,.slice sa sl sc,.slice na nl nc,.slice ua ul uc,.slice da dl dc,.int .i64 fr,.int .i64 c0,.int .i64 c1,.int .i64 c2,.int .i64 c3,.int .i64 c4,.slice oa ol oc,.int .i64 cd] Y0):=H_ (by rw [hY0];exact Blk.new Y [.slice ma ml mc,.slice ca cl cc,.slice sa sl sc,.slice na nl nc,.slice ua ul uc,.slice da dl dc,.int .i64 fr,.int .i64 c0,.int .i64 c1,.int .i64 c2,.int .i64 c3,.int .i64 c4,.slice oa ol oc,.int .i64 cd] 46)
 have E0:Hid (∀V,Below Y.heap.size Y V→Calls Tryz.prog 43 #[.agg #[.slice ma ml mc,.slice ca cl cc,.slice sa sl sc,.slice na nl nc,.slice ua ul uc,.slice da dl dc,.int .i64 fr],.int .i64 (K0:Nat)] V fun e w3=>e=.returned (.int .i64 (K1:Nat))∧Below V.heap.size V w3):=H_ (fun V hV=>G0.out _ V (((Q1.out).join HY.out).below hV) (by
  rintro b (q|q) q2
  ·exact D01.out b q2 q
  ·exact HS2.out b q (.inl q2)
  ))
 have E1:Hid (∀V,Below Y.heap.size Y V→Calls Tryz.prog 44 #[.slice oa ol oc,.int .i64 (K1:Nat)] V fun e w3=>e=.returned (.int .i64 (K2:Nat))∧Below V.heap.size V w3):=H_ (fun V hV=>G1.out _ V ((HY.out).below hV) (by
  rintro b q q2
  exact HS2.out b q (.inr (q2))
  ))
 clear Q0 Q1 G0 G1 HC HS HL HY HS2 C0 C1 C2 H0 H1
 have HW:=H_ hY0
 clear hY0
 have k1:¬((K1:Nat):Int)<0:=by omega
 have k2:¬((K2:Nat):Int)<0:=by omega
 go_enter Tryz.func12,Tryz.ntmps12
 go_wp2_with fail
 rw [←HW.out]
 clear HW
 refine (E0.out _ B0.out).mono ?_
 rintro e y1 ⟨rfl,hb⟩
 have B1:=HT_ B0 hb
 have Z1:=H_ (Z0.out.below hb)
 clear hb B0 Z0
 have xl:=Z1.out.1
 have x0:=q_ Z1.out.2 0
 have x1:=q_ Z1.out.2 1
 have x2:=q_ Z1.out.2 2
 have x3:=q_ Z1.out.2 3
 have x4:=q_ Z1.out.2 4
 have x5:=q_ Z1.out.2 5
 have x6:=q_ Z1.out.2 6
 have x7:=q_ Z1.out.2 7
 have x8:=q_ Z1.out.2 8
 have x9:=q_ Z1.out.2 9
 have x10:=q_ Z1.out.2 10
 have x11:=q_ Z1.out.2 11
 have x12:=q_ Z1.out.2 12
 have x13:=q_ Z1.out.2 13
 go_wp2_with fail
 refine (E1.out _ B1.out).mono ?_
 rintro e y2 ⟨rfl,hb⟩
 clear xl
 clear x0
 clear x1
 clear x2
 clear x3
 clear x4
 clear x5
 clear x6
 clear x7
 clear x8
 clear x9
 clear x10
 clear x11
 clear x12
 clear x13
 have B2:=HT_ B1 hb
 have Z2:=H_ (Z1.out.below hb)
 clear hb B1 Z1
 go_wp2_with fail
 go_ret
 exact ⟨rfl,B2.out⟩
end ChG
namespace ChG
open EvtR (Pt)
theorem own_k {w:World} {base T size n:Nat} {a:Option Addr} {c:Nat} {xs:List Value} (h:w.ownsRow base T size (.slice a n c) n xs):n=0∨∃g,a=some ⟨g,0,none⟩∧base≤g∧Pt g (n*size) w:=by
 rcases h.2 with ⟨h0,h1⟩|⟨g,cap,cur,hv,hg,hh,hc,_,hz,hcur⟩
 ·exact .inl h1
 ·have hl:=(h.lt g (by rw [hv];rfl)).2
  cases hv
  have hm:n*size≤cur.size:=by rw [hz];exact Nat.mul_le_mul_right _ hc
  refine .inr ⟨g,rfl,hg,hl,fun o ho=>?_,fun o ho=>?_⟩
  ·exact ⟨cur[o]'(by omega),by simp [World.cell?,hh,show o<cur.size by omega]⟩
  ·simp [World.frozen?,hh]
def T0 (v:Value) (b:Nat):Prop:=v.ownBlock=some b
theorem wr_blk {f:Nat→Option Value} {n g:Nat} {w w':World} (h:RowG.Wr f n g w) (hb:w'.heap[g]? = w.heap[g]?):RowG.Wr f n g w':=fun o ho=>(World.cell?_of_block (a:=⟨g,o,none⟩) hb).trans (h o ho)
theorem Hd.chg {hf:Nat} {v:Value} {K K':Nat} {T S:Nat→Prop} {w w':World} (h:Hd hf v K K' T w) (hc:Chg S w w') (hS:∀b,S b→¬T b):Hd hf v K K' T w':=fun S2 Y hc2 hS2=>h _ Y (hc.join hc2) (fun b q=>q.elim (hS b) (hS2 b))
theorem MkH.chg {mf hf:Nat} {v:Value} {K K':Nat} {T S:Nat→Prop} {w w':World} (h:MkH mf hf v K K' T w) (hc:Chg S w w') (hS:∀b,S b→¬T b):MkH mf hf v K K' T w':=fun S2 Y hc2 hS2=>h _ Y (hc.join hc2) (fun b q=>q.elim (hS b) (hS2 b))
end ChG
namespace SeenR
open RowG ChG
open EvtR (Pt)
open MarkR (mk mT mark_any)
def kC (K o:Nat):Option Value:=([.string (mT (K+3*(o / 3))),.int .i64 ((K:Int)+3*((o / 3:Nat):Int)+1),.int .i64 ((K:Int)+3*((o / 3:Nat):Int)+1+1)]:List Value)[o % 3]?
theorem kC_at (K i x:Nat) (hx:x<3):kC K (i*3+x)=([.string (mT (K+3*i)),.int .i64 ((K:Int)+3*(i:Int)+1),.int .i64 ((K:Int)+3*(i:Int)+1+1)]:List Value)[x]?:=by
 have e1:(i*3+x) / 3=i:=by omega
 have e2:(i*3+x) % 3=x:=by omega
 unfold kC
 rw [e1,e2]
theorem kgr {w w':World} (hb:Below w.heap.size w w') (row:Option Nat):w.grownBy w' row:=⟨hb.os,hb.tape,hb.output,hb.size,fun k hk _=>hb.block k hk⟩
theorem kgt {w w1 w2:World} {g:Option Nat} (h1:w.grownBy w1 g) (h2:w1.grownBy w2 g):w.grownBy w2 g :=
 ⟨h2.os.trans h1.os,h2.tape.trans h1.tape,h2.output.trans h1.output,Nat.le_trans h1.size h2.size,fun k hk hne=>(h2.block k (by have:=h1.size;omega) hne).trans (h1.block k hk hne)⟩
theorem kstep {K g m i:Nat} {w0 w:World} (hp:Pt g m w) (x:Nat) (hm:Wr (kC K) (i*3+x) g w) (hg:w0.grownBy w (some g)) (hx:x<3) (hj:i*3+x<m) (v:Value) (hv:([.string (mT (K+3*i)),.int .i64 ((K:Int)+3*(i:Int)+1),.int .i64 ((K:Int)+3*(i:Int)+1+1)]:List Value)[x]? = some v) :
 Pt g m (w.setCell ⟨g,i*3+x,none⟩ v)∧Wr (kC K) (i*3+(x+1)) g (w.setCell ⟨g,i*3+x,none⟩ v)∧w0.grownBy (w.setCell ⟨g,i*3+x,none⟩ v) (some g) :=
 ⟨hp.set _ _,hm.more hp hj v ((kC_at K i x hx).trans hv),kgt hg (grown_set _ g _ _)⟩
theorem entM (K:Nat) (hK0:1≤K) (hK:K≤6000000) (g n cap:Nat) (w:World) (hn:n≤1048576) (h0:Pt g (n*3) w) :
 Calls Tryz.prog 40 #[.slice (some ⟨g,0,none⟩) n cap,.int .i64 K] w fun e w'=>e=.returned (.int .i64 (K+3*n:Nat))∧Pt g (n*3) w'∧Wr (kC K) (n*3) g w'∧w.grownBy w' (some g):=by
 have HP:=H_ h0
 have HT:Hid (∀(z:Int) (K:Nat),z=K→1≤K→K<100000000→∀w,Calls Tryz.prog 89 #[.int .i64 z] w fun e w'=>e=.returned (.string (mT K))∧Below w.heap.size w w'):=H_ (fun z K e h0 h w=>by subst e;exact mark_any K h0 h w)
 clear h0
 go_enter Tryz.func40,Tryz.ntmps40
 go_wp2_with fail
 go_loopw [5,1] (fun x z wr=>∃i:Nat,x=.int .i64 (i:Int)∧z=.int .i64 ((K:Int)+3*(i:Int))∧i≤n∧Hid (Pt g (n*3) wr)∧Hid (Wr (kC K) (i*3) g wr)∧Hid (w.grownBy wr (some g))) (fun x _ _=>n-(intOf x).toNat)
 case atStart=>exact ⟨0,rfl,by go_num,by omega,HP,H_ (fun o ho=>absurd ho (by omega)),H_ ⟨rfl,rfl,rfl,Nat.le_refl _,fun _ _ _=>rfl⟩⟩
 case round =>
  obtain ⟨i,rfl,rfl,hi,HP,HM,HG⟩:=hrel
  by_cases hin:i=n
  ·subst hin
   go_wp2_with fail
   go_ret
   exact ⟨by go_num,HP.out,HM.out,HG.out⟩
  ·have h1:(i:Int)<(n:Int):=by omega
   go_wp2_with fail
   refine (HT.out _ (K+3*i) (by push_cast;omega) (by omega) (by omega) _).mono ?_
   rintro e w1 ⟨rfl,hb⟩
   have HP1:=H_ (HP.out.below hb)
   have HM1:=H_ (HM.out.below HP.out hb)
   have HG1:=H_ (kgt HG.out (kgr hb _))
   obtain ⟨v0,c0⟩:=HP1.out.has (i*3) (by omega)
   have f0:=HP1.out.free (i*3) (by omega)
   obtain ⟨v1,c1⟩:=HP1.out.has (i*3+1) (by omega)
   have f1:=HP1.out.free (i*3+1) (by omega)
   obtain ⟨v2,c2⟩:=HP1.out.has (i*3+2) (by omega)
   have f2:=HP1.out.free (i*3+2) (by omega)
   have HS:=H_ (kstep (i:=i) HP1.out 0 HM1.out HG1.out (by omega) (by omega) (.string (mT (K+3*i))) rfl)
   have HS2:=H_ (kstep (i:=i) HS.out.1 1 HS.out.2.1 HS.out.2.2 (by omega) (by omega) (.int .i64 ((K:Int)+3*(i:Int)+1)) rfl)
   have HS3:=H_ (kstep (i:=i) HS2.out.1 2 HS2.out.2.1 HS2.out.2.2 (by omega) (by omega) (.int .i64 ((K:Int)+3*(i:Int)+1+1)) rfl)
   clear hb HP HM HG HP1 HM1 HG1 HS HS2
   go_wp2_with fail
   go_roundw
   case rel=>exact ⟨i+1,by go_num,by go_num,by omega,H_ HS3.out.1,H_ (by have:=HS3.out.2.1;rw [show (i+1)*3=i*3+(2+1) by omega];exact this),H_ HS3.out.2.2⟩
   case measure=>simp [intOf];omega
def kBx (w:World) (g o:Nat) (t0:ByteArray) (n k:Int) (w':World):Prop:=Below w.heap.size w w'∧g<w'.heap.size∧w'.cell? ⟨g,o,none⟩=some (.string t0)∧w'.cell? ⟨g,o+1,none⟩=some (.int .i64 n)∧w'.cell? ⟨g,o+2,none⟩=some (.int .i64 k)
theorem kBx.below {w w1 w2:World} {g o:Nat} {t0:ByteArray} {n k:Int} (h:kBx w g o t0 n k w1) (hb:Below w1.heap.size w1 w2):kBx w g o t0 n k w2:=by
 obtain ⟨h0,hl,c0,c1,c2⟩:=h
 have c:=fun x=>hb.cell (p:=⟨g,x,none⟩) hl
 exact ⟨h0.trans (hb.mono h0.size),by have:=hb.size;omega,(c _).trans c0,(c _).trans c1,(c _).trans c2⟩
theorem kBx.drew {w w1:World} {g o:Nat} {t0:ByteArray} {n k:Int} (h:kBx w g o t0 n k w1):kBx w g o t0 n k w1.drew:=⟨h.1.drew,h.2⟩
theorem entH (K:Nat) (hK0:1≤K) (hK:K≤6000000) (g n cap:Nat) (w:World) (hn:n≤1048576) (hg:g<w.heap.size) (hm:Wr (kC K) (n*3) g w) :
 Calls Tryz.prog 95 #[.slice (some ⟨g,0,none⟩) n cap,.int .i64 K] w fun e w'=>e=.returned (.int .i64 (K+3*n:Nat))∧Below w.heap.size w w':=by
 have HP:=H_ hg
 have HM:=H_ hm
 have HT:Hid (∀(z:Int) (K:Nat),z=K→1≤K→K<100000000→∀w,Calls Tryz.prog 89 #[.int .i64 z] w fun e w'=>e=.returned (.string (mT K))∧Below w.heap.size w w'):=H_ (fun z K e h0 h w=>by subst e;exact mark_any K h0 h w)
 clear hg hm
 go_enter Tryz.func95,Tryz.ntmps95
 go_wp2_with fail
 go_loopw [5,1] (fun x z wr=>∃i:Nat,x=.int .i64 (i:Int)∧z=.int .i64 ((K:Int)+3*(i:Int))∧i≤n∧Hid (Below w.heap.size w wr)) (fun x _ _=>n-(intOf x).toNat)
 case atStart=>exact ⟨0,rfl,by go_num,by omega,H_ (Below.refl _ _)⟩
 case round =>
  obtain ⟨i,rfl,rfl,hi,HB⟩:=hrel
  by_cases hin:i=n
  ·subst hin
   go_wp2_with fail
   go_ret
   exact ⟨by go_num,HB.out⟩
  ·have h1:(i:Int)<(n:Int):=by omega
   have HC:Hid (∀x,x<3→wr.cell? ⟨g,i*3+x,none⟩=kC K (i*3+x)):=H_ (fun x hx=>(HB.out.cell (p:=⟨g,i*3+x,none⟩) HP.out).trans (HM.out (i*3+x) (by omega)))
   have q0:wr.cell? ⟨g,i*3,none⟩=some (.string (mT (K+3*i))):=(HC.out 0 (by omega)).trans (kC_at K i 0 (by omega))
   have q1:wr.cell? ⟨g,i*3+1,none⟩=some (.int .i64 ((K:Int)+3*(i:Int)+1)):=(HC.out 1 (by omega)).trans (kC_at K i 1 (by omega))
   have q2:wr.cell? ⟨g,i*3+2,none⟩=some (.int .i64 ((K:Int)+3*(i:Int)+1+1)):=(HC.out 2 (by omega)).trans (kC_at K i 2 (by omega))
   have HT0:=H_ (fun w=>HT.out ((K:Int)+3*(i:Int)) (K+3*i) (by push_cast;omega) (by omega) (by omega) w)
   clear HC
   generalize mT (K+3*i)=T0 at *
   have HS0:Hid (kBx w g (i*3) T0 ((K:Int)+3*(i:Int)+1) ((K:Int)+3*(i:Int)+1+1) wr):=H_ ⟨HB.out,by have:=HB.out.size;have:=HP.out;omega,q0,q1,q2⟩
   have HS1:=H_ HS0.out.drew
   go_wp2_with fail
   go_region_held3 (fun w'=>Below w.heap.size w w'∧g<w'.heap.size∧w'.cell? ⟨g,i*3,none⟩=some (.string T0)∧w'.cell? ⟨g,i*3+1,none⟩=some (.int .i64 ((K:Int)+3*(i:Int)+1))∧w'.cell? ⟨g,i*3+2,none⟩=some (.int .i64 ((K:Int)+3*(i:Int)+1+1))) (first|assumption|(exact HS0.out)|(exact HS1.out)|(exact kBx.below (w:=w) (g:=g) (o:=i*3) (t0:=T0) (n:=(K:Int)+3*(i:Int)+1) (k:=(K:Int)+3*(i:Int)+1+1) (by assumption) hb))
    (first|(go_at_call 89;refine (HT0.out _).mono ?_;rintro e w' ⟨rfl,hb⟩))
   rename_i hS
   replace HS0:=H_ hS
   have q0:=HS0.out.2.2.1
   have q1:=HS0.out.2.2.2.1
   have q2:=HS0.out.2.2.2.2
   clear hS HS1
   have HB2:=H_ HS0.out.1
   go_wp2_with fail
   go_roundw
   case rel=>exact ⟨i+1,by go_num,by go_num,by omega,HB2⟩
   case measure=>simp [intOf];omega
theorem mkh_ens {w:World} {base T n K:Nat} {a:Option Addr} {c:Nat} {xs:List Value} (hz:∀K:Nat,MkH 40 95 (.slice a 0 c) K K (fun _=>False) w) (h:w.ownsRow base T 3 (.slice a n c) n xs) (hK0:1≤K) (hK:K≤5300001) (hn:n≤1048576):MkH 40 95 (.slice a n c) K (K+3*n) (ChG.T0 (.slice a n c)) w:=by
 intro S W hc hS
 rcases own_k h with h0|⟨g,rfl,hg,hp⟩
 ·subst h0
  refine (hz K S W hc (fun _ _ q=>q)).mono ?_
  rintro e w' ⟨rfl,hc2,hh⟩
  exact ⟨rfl,hc2.wide (fun _ q=>q.elim),fun S' Y hc3 _=>hh S' Y hc3 (fun _ _ q=>q)⟩
 ·have hp2:=hc.pt hp (fun q=>hS g q rfl)
  refine (entM K hK0 (by omega) g n c W hn hp2).mono ?_
  rintro e w' ⟨rfl,hp3,hM,hg2⟩
  refine ⟨rfl,(Chg.refl _ _).grown hg2 rfl,fun S' Y hc2 hS2=>?_⟩
  have eb:=hc2.block g hp3.lt (fun q=>hS2 g q rfl)
  exact entH K hK0 (by omega) g n c Y hn (Nat.lt_of_lt_of_le hp3.lt hc2.size) (wr_blk hM eb)
end SeenR
namespace CatR
structure Ti where
 u:Int
 p:Int
structure Cr where
 a:ByteArray
 m:Int
structure Me where
 n:ByteArray
 g:Int
 wh:Bool
 f:Int
 l:Int
 ts:List Ti
structure Ca where
 ms:List Me
 cs:List Cr
def Ti.zero:Ti:=⟨0,0⟩
def Cr.zero:Cr:=⟨⟨#[]⟩,0⟩
def Me.zero:Me:=⟨⟨#[]⟩,0,false,0,0,[]⟩
def TiAt (w:World) (b o:Nat) (t:Ti):Prop:=w.cell? ⟨b,o,none⟩=some (.int .i64 t.u)∧w.cell? ⟨b,o+1,none⟩=some (.int .i64 t.p)
def CrAt (w:World) (b o:Nat) (t:Cr):Prop:=w.cell? ⟨b,o,none⟩=some (.string t.a)∧w.cell? ⟨b,o+1,none⟩=some (.int .i64 t.m)
def Tis (ao:Option Addr) (len:Nat) (ts:List Ti) (w:World):Prop:=ts.length=len∧(len=0∨∃b off,ao=some ⟨b,off,none⟩∧b<w.heap.size∧∀j,j<len→TiAt w b (off+j*2) (ts.getD j Ti.zero))
def Crs (ao:Option Addr) (len:Nat) (ts:List Cr) (w:World):Prop:=ts.length=len∧(len=0∨∃b off,ao=some ⟨b,off,none⟩∧b<w.heap.size∧∀j,j<len→CrAt w b (off+j*2) (ts.getD j Cr.zero))
def MeAt (w:World) (b o:Nat) (m:Me):Prop:=∃ta tc,w.cell? ⟨b,o,none⟩=some (.string m.n)∧w.cell? ⟨b,o+1,none⟩=some (.int .i64 m.g)∧w.cell? ⟨b,o+2,none⟩=some (.bool m.wh)∧w.cell? ⟨b,o+3,none⟩=some (.int .i64 m.f)∧w.cell? ⟨b,o+4,none⟩=some (.int .i64 m.l)∧w.cell? ⟨b,o+5,none⟩=some (.slice ta m.ts.length tc)∧Tis ta m.ts.length m.ts w
def Mes (ao:Option Addr) (len:Nat) (ms:List Me) (w:World):Prop:=ms.length=len∧(len=0∨∃b off,ao=some ⟨b,off,none⟩∧b<w.heap.size∧∀j,j<len→MeAt w b (off+j*6) (ms.getD j Me.zero))
def IsMe (v:Value) (m:Me) (w:World):Prop:=∃ta tc,v=.agg #[.string m.n,.int .i64 m.g,.bool m.wh,.int .i64 m.f,.int .i64 m.l,.slice ta m.ts.length tc]∧Tis ta m.ts.length m.ts w
def IsCa (v:Value) (c:Ca) (w:World):Prop:=∃ma mc ca cc,v=.agg #[.slice ma c.ms.length mc,.slice ca c.cs.length cc]∧Mes ma c.ms.length c.ms w∧Crs ca c.cs.length c.cs w
theorem TiAt.below {w w':World} {b o:Nat} {e:Ti} (h:TiAt w b o e) (hl:b<w.heap.size) (hb:Below w.heap.size w w'):TiAt w' b o e :=
 ⟨(hb.cell (p:=⟨b,o,none⟩) hl).trans h.1,(hb.cell (p:=⟨b,o+1,none⟩) hl).trans h.2⟩
theorem CrAt.below {w w':World} {b o:Nat} {e:Cr} (h:CrAt w b o e) (hl:b<w.heap.size) (hb:Below w.heap.size w w'):CrAt w' b o e :=
 ⟨(hb.cell (p:=⟨b,o,none⟩) hl).trans h.1,(hb.cell (p:=⟨b,o+1,none⟩) hl).trans h.2⟩
theorem Tis.below {ao:Option Addr} {len:Nat} {es:List Ti} {w w':World} (h:Tis ao len es w) (hb:Below w.heap.size w w'):Tis ao len es w':=by
 refine ⟨h.1,?_⟩
 rcases h.2 with h0|⟨b,off,rfl,hlt,hc⟩
 ·exact .inl h0
 ·exact .inr ⟨b,off,rfl,by have:=hb.size;omega,fun j hj=>(hc j hj).below hlt hb⟩
theorem Crs.below {ao:Option Addr} {len:Nat} {es:List Cr} {w w':World} (h:Crs ao len es w) (hb:Below w.heap.size w w'):Crs ao len es w':=by
 refine ⟨h.1,?_⟩
 rcases h.2 with h0|⟨b,off,rfl,hlt,hc⟩
 ·exact .inl h0
 ·exact .inr ⟨b,off,rfl,by have:=hb.size;omega,fun j hj=>(hc j hj).below hlt hb⟩
theorem MeAt.below {w w':World} {b o:Nat} {e:Me} (h:MeAt w b o e) (hl:b<w.heap.size) (hb:Below w.heap.size w w'):MeAt w' b o e:=by
 obtain ⟨ta,tc,h0,h1,h2,h3,h4,h5,h6⟩:=h
 have f:=fun k=>hb.cell (p:=⟨b,k,none⟩) hl
 exact ⟨ta,tc,(f _).trans h0,(f _).trans h1,(f _).trans h2,(f _).trans h3,(f _).trans h4,(f _).trans h5,h6.below hb⟩
theorem Mes.below {ao:Option Addr} {len:Nat} {es:List Me} {w w':World} (h:Mes ao len es w) (hb:Below w.heap.size w w'):Mes ao len es w':=by
 refine ⟨h.1,?_⟩
 rcases h.2 with h0|⟨b,off,rfl,hlt,hc⟩
 ·exact .inl h0
 ·exact .inr ⟨b,off,rfl,by have:=hb.size;omega,fun j hj=>(hc j hj).below hlt hb⟩
theorem IsMe.below {v:Value} {m:Me} {w w':World} (h:IsMe v m w) (hb:Below w.heap.size w w'):IsMe v m w':=by
 obtain ⟨ta,tc,hv,ht⟩:=h
 exact ⟨ta,tc,hv,ht.below hb⟩
theorem IsCa.below {v:Value} {m:Ca} {w w':World} (h:IsCa v m w) (hb:Below w.heap.size w w'):IsCa v m w':=by
 obtain ⟨ma,mc,ca,cc,hv,h1,h2⟩:=h
 exact ⟨ma,mc,ca,cc,hv,h1.below hb,h2.below hb⟩
theorem tis_at {ao:Option Addr} {len:Nat} {es:List Ti} {w:World} (h:Tis ao len es w) (k:Nat) (hk:k<len):∃b off,ao=some ⟨b,off,none⟩∧b<w.heap.size∧TiAt w b (off+k*2) (es.getD k Ti.zero):=by
 rcases h.2 with h0|⟨b,off,rfl,hlt,hc⟩
 ·omega
 ·exact ⟨b,off,rfl,hlt,hc k hk⟩
theorem crs_at {ao:Option Addr} {len:Nat} {es:List Cr} {w:World} (h:Crs ao len es w) (k:Nat) (hk:k<len):∃b off,ao=some ⟨b,off,none⟩∧b<w.heap.size∧CrAt w b (off+k*2) (es.getD k Cr.zero):=by
 rcases h.2 with h0|⟨b,off,rfl,hlt,hc⟩
 ·omega
 ·exact ⟨b,off,rfl,hlt,hc k hk⟩
theorem mes_at {ao:Option Addr} {len:Nat} {es:List Me} {w:World} (h:Mes ao len es w) (k:Nat) (hk:k<len):∃b off,ao=some ⟨b,off,none⟩∧b<w.heap.size∧MeAt w b (off+k*6) (es.getD k Me.zero):=by
 rcases h.2 with h0|⟨b,off,rfl,hlt,hc⟩
 ·omega
 ·exact ⟨b,off,rfl,hlt,hc k hk⟩
theorem Tis.nil (ao:Option Addr) (w:World):Tis ao 0 [] w:=⟨rfl,.inl rfl⟩
end CatR
namespace CatR
open OwG
open RowG (MadeG Rws cellsAll H_)
open EvtR (Pt)
open DocR (BlkW)
def Ti.cells (t:Ti):List Value:=[.int .i64 t.u,.int .i64 t.p]
theorem Ti.len (t:Ti):t.cells.length=2:=rfl
def Cr.cells (t:Cr):List Value:=[.string t.a,.int .i64 t.m]
theorem Cr.len (t:Cr):t.cells.length=2:=rfl
structure MA where
 m:Me
 ta:Option Addr
 tc:Nat
def MA.v (x:MA):Value:=.slice x.ta x.m.ts.length x.tc
def MA.cells (x:MA):List Value:=[.string x.m.n,.int .i64 x.m.g,.bool x.m.wh,.int .i64 x.m.f,.int .i64 x.m.l,x.v]
theorem MA.len (x:MA):x.cells.length=6:=rfl
def MA.zero:MA:=⟨Me.zero,none,0⟩
def TnO (base:Nat) (x:MA) (W:World):Prop:=W.ownsRow base 248 2 x.v x.m.ts.length (cellsAll Ti.cells x.m.ts)
def AptM (x y:MA):Prop:=∀b,x.v.ownBlock=some b→y.v.ownBlock≠some b
def MsL (base lim:Nat) (v:Value) (ms:List Me) (W:World):Prop:=∃xs:List MA,xs.map MA.m=ms∧W.ownsRow base 150 6 v ms.length (cellsAll MA.cells xs)∧(∀x∈xs,TnO base x W)∧xs.Pairwise AptM∧∀x∈xs,∀b,x.v.ownBlock=some b→b<lim
def MsO (base:Nat) (v:Value) (ms:List Me) (W:World):Prop:=∃lim,MsL base lim v ms W
theorem MsO.lim {base:Nat} {v:Value} {ms:List Me} {W:World} (h:MsO base v ms W):MsL base W.heap.size v ms W:=by
 obtain ⟨lim,xs,h1,h2,h3,h4,_⟩:=h
 exact ⟨xs,h1,h2,h3,h4,fun x hx b hb=>((h3 x hx).lt b hb).2⟩
theorem mso_nil (base:Nat) (W:World):MsO base (.slice none 0 0) [] W:=⟨0,[],rfl,World.ownsRow_nil _ _ _ _,(fun x h=>absurd h (by simp)),List.Pairwise.nil,fun x h=>absurd h (by simp)⟩
theorem MsL.far {base lim g:Nat} {v:Value} {ms:List Me} {W W':World} (h:MsL base lim v ms W) (hg:W.grownBy W' (some g)) (hlt:g<base):MsL base lim v ms W':=by
 obtain ⟨xs,h1,h2,h3,h4,h5⟩:=h
 exact ⟨xs,h1,own_keepG h2 hg hlt,fun x hx=>own_keepG (h3 x hx) hg hlt,h4,h5⟩
theorem MsL.below {base lim:Nat} {v:Value} {ms:List Me} {W W':World} (h:MsL base lim v ms W) (hb:Below W.heap.size W W'):MsL base lim v ms W':=by
 obtain ⟨xs,h1,h2,h3,h4,h5⟩:=h
 exact ⟨xs,h1,RowG.own_below h2 hb,fun x hx=>RowG.own_below (h3 x hx) hb,h4,h5⟩
theorem MsO.far {base g:Nat} {v:Value} {ms:List Me} {W W':World} (h:MsO base v ms W) (hg:W.grownBy W' (some g)) (hlt:g<base):MsO base v ms W':=h.imp fun _ h=>h.far hg hlt
theorem MsO.below {base:Nat} {v:Value} {ms:List Me} {W W':World} (h:MsO base v ms W) (hb:Below W.heap.size W W'):MsO base v ms W':=h.imp fun _ h=>h.below hb
theorem MsO.low {base base':Nat} {v:Value} {ms:List Me} {W:World} (h:MsO base v ms W) (hb:base'≤base):MsO base' v ms W:=by
 obtain ⟨lim,xs,h1,h2,h3,h4,h5⟩:=h
 exact ⟨lim,xs,h1,own_low h2 hb,fun x hx=>own_low (h3 x hx) hb,h4,h5⟩
theorem MsO.other {base base' e size n:Nat} {v v':Value} {ms:List Me} {xs':List Value} {W W':World} (h:MsO base v ms W) (ho:W.ownsRow base' e size v' n xs') (hg:W.grownBy W' v'.ownBlock) (h1:e≠150) (h2:e≠248):MsO base v ms W':=by
 obtain ⟨lim,xs,q1,q2,q3,q4,q5⟩:=h
 exact ⟨lim,xs,q1,own_keepO q2 hg (own_apart q2 ho h1),fun x hx=>own_keepO (q3 x hx) hg (own_apart (q3 x hx) ho h2),q4,q5⟩
theorem mso_snoc {base lim:Nat} {v v':Value} {xs:List MA} {ms:List Me} {m:Me} {ta:Option Addr} {tc:Nat} {W W9:World} (hms:xs.map MA.m=ms) (hLn:∀x∈xs,TnO base x W) (hPw:xs.Pairwise AptM) (hlim:∀x∈xs,∀b,x.v.ownBlock=some b→b<lim) (hbl:base≤lim)
 (hnew:W.ownsRow lim 248 2 (.slice ta m.ts.length tc) m.ts.length (cellsAll Ti.cells m.ts)) (hO:W.ownsRow base 150 6 v ms.length (cellsAll MA.cells xs)) (hgrow:W.grownBy W9 v.ownBlock)
 (hown:W9.ownsRow base 150 6 v' (ms.length+1) (cellsAll MA.cells xs ++ [.string m.n,.int .i64 m.g,.bool m.wh,.int .i64 m.f,.int .i64 m.l,.slice ta m.ts.length tc])):MsO base v' (ms ++ [m]) W9:=by
 have hk:∀x:MA,TnO base x W→TnO base x W9:=fun x hx=>own_keepO hx hgrow (own_apart hx hO (by decide))
 have hn:TnO base ⟨m,ta,tc⟩ W9:=hk ⟨m,ta,tc⟩ (own_low hnew hbl)
 refine ⟨W9.heap.size,xs ++ [⟨m,ta,tc⟩],by rw [List.map_append,hms];rfl,?_,?_,?_,?_⟩
 ·rw [cellsAll_snoc,List.length_append]
  exact hown
 ·intro x hx
  rcases List.mem_append.1 hx with h|h
  ·exact hk x (hLn x h)
  ·rw [List.mem_singleton] at h
   subst h
   exact hn
 ·refine List.pairwise_append.2 ⟨hPw,List.pairwise_singleton _ _,fun x hx y hy=>?_⟩
  rw [List.mem_singleton] at hy
  subst hy
  intro b h1 h2
  have p1:=hlim x hx b h1
  have p2:=hnew.lt b h2
  omega
 ·intro x hx b hb
  rcases List.mem_append.1 hx with h|h
  ·exact ((hk x (hLn x h)).lt b hb).2
  ·rw [List.mem_singleton] at h
   subst h
   exact (hn.lt b hb).2
theorem own_tis {w:World} {base n c:Nat} {ao:Option Addr} {ts:List Ti} (h:w.ownsRow base 248 2 (.slice ao n c) n (cellsAll Ti.cells ts)) (hn:n=ts.length):Tis ao n ts w:=by
 subst hn
 obtain ⟨ao',cap,e,hm⟩:=RowG.own_made (z:=Ti.zero) Ti.len h
 cases e
 refine ⟨rfl,?_⟩
 rcases hm.rws with h0|⟨b,off,rfl,hl,hc⟩
 ·exact .inl h0
 ·exact .inr ⟨b,off,rfl,hl,fun i hi=>⟨hc i hi 0 (by omega),hc i hi 1 (by omega)⟩⟩
theorem MsO.mes {base:Nat} {v:Value} {ms:List Me} {W:World} (h:MsO base v ms W):∃ao cap,v=.slice ao ms.length cap∧Mes ao ms.length ms W:=by
 obtain ⟨lim,xs,h1,h2,h3,_⟩:=h
 have hl:ms.length=xs.length:=by rw [←h1];simp
 rw [hl] at h2
 obtain ⟨ao,cap,rfl,hm⟩:=RowG.own_made (z:=MA.zero) MA.len h2
 refine ⟨ao,cap,by rw [hl],rfl,?_⟩
 rcases hm.rws with h0|⟨b,off,rfl,hb,hc⟩
 ·exact .inl (by omega)
 ·refine .inr ⟨b,off,rfl,hb,fun i hi=>?_⟩
  have hx:i<xs.length:=by omega
  have e:ms.getD i Me.zero=(xs.getD i MA.zero).m:=by
   rw [←h1]
   simp [List.getD,hx]
  have hmem:=RowG.getD_mem (z:=MA.zero) xs i hx
  have c:=hc i hx
  rw [e]
  generalize xs.getD i MA.zero=X at *
  exact ⟨X.ta,X.tc,c 0 (by omega),c 1 (by omega),c 2 (by omega),c 3 (by omega),c 4 (by omega),c 5 (by omega),own_tis (h3 X hmem) rfl⟩
theorem me_one (m:Me) (ta:Option Addr) (tc:Nat):∀u∈([.string m.n,.int .i64 m.g,.bool m.wh,.int .i64 m.f,.int .i64 m.l,.slice ta m.ts.length tc]:List Value),u.oneCell'=true:=by
 intro u hu
 simp at hu
 rcases hu with rfl|rfl|rfl|rfl|rfl|rfl<;>rfl
theorem cr_one (x:ByteArray) (y:Int):∀u∈[Value.string x,Value.int .i64 y],u.oneCell'=true:=by
 intro u hu
 simp at hu
 rcases hu with rfl|rfl<;>rfl
theorem infoCr:(Tryz.prog.info? 151).map (fun i=>(i.zero,i.size,i.bytes))=some (some (.agg #[.string ⟨#[]⟩,.int .i64 0]),2,24):=by kernel_rfl
theorem infoMe:(Tryz.prog.info? 150).map (fun i=>(i.zero,i.size,i.bytes))=some (some (.agg #[.string ⟨#[]⟩,.int .i64 0,.bool false,.int .i64 0,.int .i64 0,.slice none 0 0]),6,72):=by kernel_rfl
end CatR
end Go.Proofs.YtnceeaccbcfopaaGreatDoor
