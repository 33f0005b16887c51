/-
  What marking a value promises: how far, which blocks alone, and what reading the marks answers later on; and how it is put together of its parts. No condition.
-/
import Derived.Test.YtnceeaccbcfopaaGreatDoorT10
namespace Go.Proofs.YtnceeaccbcfopaaGreatDoor
open Go.ChangeShapes Go.WideShapes Go.ChangeAt Go.RowKit
set_option linter.unusedVariables false
namespace ChG
open EvtR (Pt)
open CatR (Blk Blk.new)
open RowG (H_)
theorem Chg.join {S S':Nat→Prop} {w w1 w2:World} (h:Chg S w w1) (h2:Chg S' w1 w2):Chg (fun b=>S b∨S' b) w w2:=(h.wide fun b q=>.inl q).trans (h2.wide fun b q=>.inr q)
def Hd (hf:Nat) (v:Value) (K K':Nat) (T:Nat→Prop) (w:World):Prop:=∀(S:Nat→Prop) W,Chg S w W→(∀b,S b→¬T b)→Calls Tryz.prog hf #[v,.int .i64 (K:Nat)] W fun e w3=>e=.returned (.int .i64 (K':Nat))∧Below W.heap.size W w3
def MkH (mf hf:Nat) (v:Value) (K K':Nat) (T:Nat→Prop) (w:World):Prop:=∀(S:Nat→Prop) W,Chg S w W→(∀b,S b→¬T b)→Calls Tryz.prog mf #[v,.int .i64 (K:Nat)] W fun e w'=>e=.returned (.int .i64 (K':Nat))∧Chg T W w'∧Hd hf v K K' T w'
theorem mkh_none {mf hf:Nat} {v:Value} {K:Nat} {w:World} (h1:∀W,Calls Tryz.prog mf #[v,.int .i64 (K:Nat)] W fun e w'=>e=.returned (.int .i64 (K:Nat))∧Below W.heap.size W w') (h2:∀W,Calls Tryz.prog hf #[v,.int .i64 (K:Nat)] W fun e w'=>e=.returned (.int .i64 (K:Nat))∧Below W.heap.size W w'):MkH mf hf v K K (fun _=>False) w :=
 fun S W _ _=>(h1 W).mono fun e w' h=>⟨h.1,Chg.of_below h.2,fun S' W' _ _=>h2 W'⟩
set_option maxHeartbeats 4000000 in
theorem mkh_cat (ma:Option Addr) (ml mc:Nat) (ca:Option Addr) (cl cc:Nat) (K0 K1 K2:Nat) (T0 T1:Nat→Prop) (w:World)
 (h0:MkH 87 145 (.slice ma ml mc) K0 K1 T0 w)
 (h1:MkH 88 146 (.slice ca cl cc) K1 K2 T1 w)
 (hl:∀b,T0 b∨T1 b→b<w.heap.size) (d01:∀b,T0 b→T1 b→False) :
 MkH 38 93 (.agg #[.slice ma ml mc,.slice ca cl cc]) K0 K2 (fun b=>T0 b∨T1 b) w:=by
 intro S W hc hS
 have HC:=H_ hc
 have HS:=H_ hS
 have HL:=H_ hl
 have H0:=H_ h0
 have H1:=H_ h1
 have D01:=H_ d01
 clear hc hS hl h0 h1 d01
 obtain ⟨W0,hW0⟩:∃W0,W0=W.alloc (.cells #[.slice ma ml mc,.slice ca cl cc] 36):=⟨_,rfl⟩
 have C0:Hid (Chg (fun _=>False) W W0):=H_ (by rw [hW0];exact Chg.of_below ((Below.refl _ _).alloc (Nat.le_refl _) _))
 have X0:Hid (Blk W.heap.size [.slice ma ml mc,.slice ca cl cc] W0):=H_ (by rw [hW0];exact Blk.new W [.slice ma ml mc,.slice ca cl cc] 36)
 have HW:=H_ hW0
 clear hW0
 go_enter Tryz.func38,Tryz.ntmps38
 go_wp2_with fail
 rw [←HW.out]
 clear HW
 have N0:=H_ (H0.out _ _ (HC.out.join C0.out) (by
  rintro b (q|q) q2
  ·exact HS.out b q (.inl q2)
  ·exact q))
 refine N0.out.mono ?_
 rintro e w1 ⟨rfl,hc,hh⟩
 clear N0
 have Q0:=H_ hc
 have G0:=H_ hh
 have X1:=H_ (hc.blk X0.out (fun q=>by have:=HL.out _ (.inl q);have:=HC.out.size;omega))
 have C1:Hid (Chg (fun b=>T0 b) W w1):=H_ ((C0.out.wide (fun _ q=>q.elim)).trans Q0.out)
 clear hc hh X0
 have xl:=X1.out.1
 have x0:w1.cell? ⟨W.heap.size,0,none⟩=some (.slice ma ml mc):=X1.out.2 0 (by simp)
 have x1:w1.cell? ⟨W.heap.size,1,none⟩=some (.slice ca cl cc):=X1.out.2 1 (by simp)
 go_wp2_with fail
 have N1:=H_ (H1.out _ _ (HC.out.join C1.out) (by
  rintro b (q|q) q2
  ·exact HS.out b q (.inr (q2))
  ·exact D01.out b q q2))
 refine N1.out.mono ?_
 rintro e w2 ⟨rfl,hc,hh⟩
 clear N1
 clear xl
 clear x0
 clear x1
 have Q1:=H_ hc
 have G1:=H_ hh
 have X2:=H_ (hc.blk X1.out (fun q=>by have:=HL.out _ (.inr (q));have:=HC.out.size;omega))
 have C2:Hid (Chg (fun b=>T0 b∨T1 b) W w2):=H_ ((C1.out.wide (fun b q=>.inl q)).trans (Q1.out.wide (fun b q=>.inr (q))))
 clear hc hh X1
 go_wp2_with fail
 go_ret
 refine ⟨rfl,C2.out,?_⟩
 intro S2 Y hc hS2
 have HY:=H_ hc
 have HS2:=H_ hS2
 clear hc hS2 X2
 obtain ⟨Y0,hY0⟩:∃Y0,Y0=Y.alloc (.cells #[.slice ma ml mc,.slice ca cl cc] 36):=⟨_,rfl⟩
 have B0:Hid (Below Y.heap.size Y Y0):=H_ (by rw [hY0];exact (Below.refl _ _).alloc (Nat.le_refl _) _)
 have Z0:Hid (Blk Y.heap.size [.slice ma ml mc,.slice ca cl cc] Y0):=H_ (by rw [hY0];exact Blk.new Y [.slice ma ml mc,.slice ca cl cc] 36)
 have E0:Hid (∀V,Below Y.heap.size Y V→Calls Tryz.prog 145 #[.slice ma ml mc,.int .i64 (K0:Nat)] V fun e w3=>e=.returned (.int .i64 (K1:Nat))∧Below V.heap.size V w3):=H_ (fun V hV=>G0.out _ V (((Q1.out).join HY.out).below hV) (by
  rintro b (q|q) q2
  ·exact D01.out b q2 q
  ·exact HS2.out b q (.inl q2)
  ))
 have E1:Hid (∀V,Below Y.heap.size Y V→Calls Tryz.prog 146 #[.slice ca cl cc,.int .i64 (K1:Nat)] V fun e w3=>e=.returned (.int .i64 (K2:Nat))∧Below V.heap.size V w3):=H_ (fun V hV=>G1.out _ V ((HY.out).below hV) (by
  rintro b q q2
  exact HS2.out b q (.inr (q2))
  ))
 clear Q0 Q1 G0 G1 HC HS HL HY HS2 C0 C1 C2 H0 H1
 have HW:=H_ hY0
 clear hY0
 have k1:¬((K1:Nat):Int)<0:=by omega
 have k2:¬((K2:Nat):Int)<0:=by omega
 go_enter Tryz.func93,Tryz.ntmps93
 go_wp2_with fail
 rw [←HW.out]
 clear HW
 refine (E0.out _ B0.out).mono ?_
 rintro e y1 ⟨rfl,hb⟩
 have B1:=H_ (B0.out.trans (hb.mono B0.out.size))
 have Z1:=H_ (Z0.out.below hb)
 clear hb B0 Z0
 have xl:=Z1.out.1
 have x0:y1.cell? ⟨Y.heap.size,0,none⟩=some (.slice ma ml mc):=Z1.out.2 0 (by simp)
 have x1:y1.cell? ⟨Y.heap.size,1,none⟩=some (.slice ca cl cc):=Z1.out.2 1 (by simp)
 go_wp2_with fail
 refine (E1.out _ B1.out).mono ?_
 rintro e y2 ⟨rfl,hb⟩
 clear xl
 clear x0
 clear x1
 have B2:=H_ (B1.out.trans (hb.mono B1.out.size))
 have Z2:=H_ (Z1.out.below hb)
 clear hb B1 Z1
 go_wp2_with fail
 go_ret
 exact ⟨rfl,B2.out⟩
set_option maxHeartbeats 4000000 in
theorem mkh_eng (ma:Option Addr) (ml mc:Nat) (ca:Option Addr) (cl cc:Nat) (sa:Option Addr) (sl sc:Nat) (na:Option Addr) (nl nc:Nat) (ua:Option Addr) (ul uc:Nat) (da:Option Addr) (dl dc:Nat) (fr:Int) (K0 K1 K2 K3 K4 K5:Nat) (T0 T1 T2 T3 T4:Nat→Prop) (w:World)
 (h0:MkH 38 93 (.agg #[.slice ma ml mc,.slice ca cl cc]) K0 K1 T0 w)
 (h1:MkH 39 94 (.slice sa sl sc) K1 K2 T1 w)
 (h2:MkH 40 95 (.slice na nl nc) K2 K3 T2 w)
 (h3:MkH 41 96 (.slice ua ul uc) K3 K4 T3 w)
 (h4:MkH 42 44 (.slice da dl dc) K4 K5 T4 w)
 (hl:∀b,T0 b∨T1 b∨T2 b∨T3 b∨T4 b→b<w.heap.size) (d01:∀b,T0 b→T1 b→False) (d02:∀b,T0 b→T2 b→False) (d03:∀b,T0 b→T3 b→False) (d04:∀b,T0 b→T4 b→False) (d12:∀b,T1 b→T2 b→False) (d13:∀b,T1 b→T3 b→False) (d14:∀b,T1 b→T4 b→False) (d23:∀b,T2 b→T3 b→False) (d24:∀b,T2 b→T4 b→False) (d34:∀b,T3 b→T4 b→False) :
 MkH 10 43 (.agg #[.slice ma ml mc,.slice ca cl cc,.slice sa sl sc,.slice na nl nc,.slice ua ul uc,.slice da dl dc,.int .i64 fr]) K0 K5 (fun b=>T0 b∨T1 b∨T2 b∨T3 b∨T4 b) w:=by
 intro S W hc hS
 have HC:=H_ hc
 have HS:=H_ hS
 have HL:=H_ hl
 have H0:=H_ h0
 have H1:=H_ h1
 have H2:=H_ h2
 have H3:=H_ h3
 have H4:=H_ h4
 have D01:=H_ d01
 have D02:=H_ d02
 have D03:=H_ d03
 have D04:=H_ d04
 have D12:=H_ d12
 have D13:=H_ d13
 have D14:=H_ d14
 have D23:=H_ d23
 have D24:=H_ d24
 have D34:=H_ d34
 clear hc hS hl h0 h1 h2 h3 h4 d01 d02 d03 d04 d12 d13 d14 d23 d24 d34
 obtain ⟨W0,hW0⟩:∃W0,W0=W.alloc (.cells #[.slice ma ml mc,.slice ca cl cc,.slice sa sl sc,.slice na nl nc,.slice ua ul uc,.slice da dl dc,.int .i64 fr] 42):=⟨_,rfl⟩
 have C0:Hid (Chg (fun _=>False) W W0):=H_ (by rw [hW0];exact Chg.of_below ((Below.refl _ _).alloc (Nat.le_refl _) _))
 have X0:Hid (Blk W.heap.size [.slice ma ml mc,.slice ca cl cc,.slice sa sl sc,.slice na nl nc,.slice ua ul uc,.slice da dl dc,.int .i64 fr] W0):=H_ (by rw [hW0];exact Blk.new W [.slice ma ml mc,.slice ca cl cc,.slice sa sl sc,.slice na nl nc,.slice ua ul uc,.slice da dl dc,.int .i64 fr] 42)
 have HW:=H_ hW0
 clear hW0
 go_enter Tryz.func10,Tryz.ntmps10
 go_wp2_with fail
 rw [←HW.out]
 clear HW
 have N0:=H_ (H0.out _ _ (HC.out.join C0.out) (by
  rintro b (q|q) q2
  ·exact HS.out b q (.inl q2)
  ·exact q))
 refine N0.out.mono ?_
 rintro e w1 ⟨rfl,hc,hh⟩
 clear N0
 have Q0:=H_ hc
 have G0:=H_ hh
 have X1:=H_ (hc.blk X0.out (fun q=>by have:=HL.out _ (.inl q);have:=HC.out.size;omega))
 have C1:Hid (Chg (fun b=>T0 b) W w1):=H_ ((C0.out.wide (fun _ q=>q.elim)).trans Q0.out)
 clear hc hh X0
 have xl:=X1.out.1
 have x0:w1.cell? ⟨W.heap.size,0,none⟩=some (.slice ma ml mc):=X1.out.2 0 (by simp)
 have x1:w1.cell? ⟨W.heap.size,1,none⟩=some (.slice ca cl cc):=X1.out.2 1 (by simp)
 have x2:w1.cell? ⟨W.heap.size,2,none⟩=some (.slice sa sl sc):=X1.out.2 2 (by simp)
 have x3:w1.cell? ⟨W.heap.size,3,none⟩=some (.slice na nl nc):=X1.out.2 3 (by simp)
 have x4:w1.cell? ⟨W.heap.size,4,none⟩=some (.slice ua ul uc):=X1.out.2 4 (by simp)
 have x5:w1.cell? ⟨W.heap.size,5,none⟩=some (.slice da dl dc):=X1.out.2 5 (by simp)
 have x6:w1.cell? ⟨W.heap.size,6,none⟩=some (.int .i64 fr):=X1.out.2 6 (by simp)
 go_wp2_with fail
 have N1:=H_ (H1.out _ _ (HC.out.join C1.out) (by
  rintro b (q|q) q2
  ·exact HS.out b q (.inr (.inl q2))
  ·exact D01.out b q q2))
 refine N1.out.mono ?_
 rintro e w2 ⟨rfl,hc,hh⟩
 clear N1
 clear xl
 clear x0
 clear x1
 clear x2
 clear x3
 clear x4
 clear x5
 clear x6
 have Q1:=H_ hc
 have G1:=H_ hh
 have X2:=H_ (hc.blk X1.out (fun q=>by have:=HL.out _ (.inr (.inl q));have:=HC.out.size;omega))
 have C2:Hid (Chg (fun b=>T0 b∨T1 b) W w2):=H_ ((C1.out.wide (fun b q=>.inl q)).trans (Q1.out.wide (fun b q=>.inr (q))))
 clear hc hh X1
 have xl:=X2.out.1
 have x0:w2.cell? ⟨W.heap.size,0,none⟩=some (.slice ma ml mc):=X2.out.2 0 (by simp)
 have x1:w2.cell? ⟨W.heap.size,1,none⟩=some (.slice ca cl cc):=X2.out.2 1 (by simp)
 have x2:w2.cell? ⟨W.heap.size,2,none⟩=some (.slice sa sl sc):=X2.out.2 2 (by simp)
 have x3:w2.cell? ⟨W.heap.size,3,none⟩=some (.slice na nl nc):=X2.out.2 3 (by simp)
 have x4:w2.cell? ⟨W.heap.size,4,none⟩=some (.slice ua ul uc):=X2.out.2 4 (by simp)
 have x5:w2.cell? ⟨W.heap.size,5,none⟩=some (.slice da dl dc):=X2.out.2 5 (by simp)
 have x6:w2.cell? ⟨W.heap.size,6,none⟩=some (.int .i64 fr):=X2.out.2 6 (by simp)
 go_wp2_with fail
 have N2:=H_ (H2.out _ _ (HC.out.join C2.out) (by
  rintro b (q|q) q2
  ·exact HS.out b q (.inr (.inr (.inl q2)))
  ·rcases q with q|q
   ·exact D02.out b q q2
   ·exact D12.out b q q2))
 refine N2.out.mono ?_
 rintro e w3 ⟨rfl,hc,hh⟩
 clear N2
 clear xl
 clear x0
 clear x1
 clear x2
 clear x3
 clear x4
 clear x5
 clear x6
 have Q2:=H_ hc
 have G2:=H_ hh
 have X3:=H_ (hc.blk X2.out (fun q=>by have:=HL.out _ (.inr (.inr (.inl q)));have:=HC.out.size;omega))
 have C3:Hid (Chg (fun b=>T0 b∨T1 b∨T2 b) W w3):=H_ ((C2.out.wide (fun b q=>by
  rcases q with q|q
  ·exact .inl q
  ·exact .inr (.inl q))).trans (Q2.out.wide (fun b q=>.inr (.inr (q)))))
 clear hc hh X2
 have xl:=X3.out.1
 have x0:w3.cell? ⟨W.heap.size,0,none⟩=some (.slice ma ml mc):=X3.out.2 0 (by simp)
 have x1:w3.cell? ⟨W.heap.size,1,none⟩=some (.slice ca cl cc):=X3.out.2 1 (by simp)
 have x2:w3.cell? ⟨W.heap.size,2,none⟩=some (.slice sa sl sc):=X3.out.2 2 (by simp)
 have x3:w3.cell? ⟨W.heap.size,3,none⟩=some (.slice na nl nc):=X3.out.2 3 (by simp)
 have x4:w3.cell? ⟨W.heap.size,4,none⟩=some (.slice ua ul uc):=X3.out.2 4 (by simp)
 have x5:w3.cell? ⟨W.heap.size,5,none⟩=some (.slice da dl dc):=X3.out.2 5 (by simp)
 have x6:w3.cell? ⟨W.heap.size,6,none⟩=some (.int .i64 fr):=X3.out.2 6 (by simp)
 go_wp2_with fail
 have N3:=H_ (H3.out _ _ (HC.out.join C3.out) (by
  rintro b (q|q) q2
  ·exact HS.out b q (.inr (.inr (.inr (.inl q2))))
  ·rcases q with q|q|q
   ·exact D03.out b q q2
   ·exact D13.out b q q2
   ·exact D23.out b q q2))
 refine N3.out.mono ?_
 rintro e w4 ⟨rfl,hc,hh⟩
 clear N3
 clear xl
 clear x0
 clear x1
 clear x2
 clear x3
 clear x4
 clear x5
 clear x6
 have Q3:=H_ hc
 have G3:=H_ hh
 have X4:=H_ (hc.blk X3.out (fun q=>by have:=HL.out _ (.inr (.inr (.inr (.inl q))));have:=HC.out.size;omega))
 have C4:Hid (Chg (fun b=>T0 b∨T1 b∨T2 b∨T3 b) W w4):=H_ ((C3.out.wide (fun b q=>by
  rcases q with q|q|q
  ·exact .inl q
  ·exact .inr (.inl q)
  ·exact .inr (.inr (.inl q)))).trans (Q3.out.wide (fun b q=>.inr (.inr (.inr (q))))))
 clear hc hh X3
 have xl:=X4.out.1
 have x0:w4.cell? ⟨W.heap.size,0,none⟩=some (.slice ma ml mc):=X4.out.2 0 (by simp)
 have x1:w4.cell? ⟨W.heap.size,1,none⟩=some (.slice ca cl cc):=X4.out.2 1 (by simp)
 have x2:w4.cell? ⟨W.heap.size,2,none⟩=some (.slice sa sl sc):=X4.out.2 2 (by simp)
 have x3:w4.cell? ⟨W.heap.size,3,none⟩=some (.slice na nl nc):=X4.out.2 3 (by simp)
 have x4:w4.cell? ⟨W.heap.size,4,none⟩=some (.slice ua ul uc):=X4.out.2 4 (by simp)
 have x5:w4.cell? ⟨W.heap.size,5,none⟩=some (.slice da dl dc):=X4.out.2 5 (by simp)
 have x6:w4.cell? ⟨W.heap.size,6,none⟩=some (.int .i64 fr):=X4.out.2 6 (by simp)
 go_wp2_with fail
 have N4:=H_ (H4.out _ _ (HC.out.join C4.out) (by
  rintro b (q|q) q2
  ·exact HS.out b q (.inr (.inr (.inr (.inr (q2)))))
  ·rcases q with q|q|q|q
   ·exact D04.out b q q2
   ·exact D14.out b q q2
   ·exact D24.out b q q2
   ·exact D34.out b q q2))
 refine N4.out.mono ?_
 rintro e w5 ⟨rfl,hc,hh⟩
 clear N4
 clear xl
 clear x0
 clear x1
 clear x2
 clear x3
 clear x4
 clear x5
 clear x6
 have Q4:=H_ hc
 have G4:=H_ hh
 have X5:=H_ (hc.blk X4.out (fun q=>by have:=HL.out _ (.inr (.inr (.inr (.inr (q)))));have:=HC.out.size;omega))
 have C5:Hid (Chg (fun b=>T0 b∨T1 b∨T2 b∨T3 b∨T4 b) W w5):=H_ ((C4.out.wide (fun b q=>by
  rcases q with q|q|q|q
  ·exact .inl q
  ·exact .inr (.inl q)
  ·exact .inr (.inr (.inl q))
  ·exact .inr (.inr (.inr (.inl q))))).trans (Q4.out.wide (fun b q=>.inr (.inr (.inr (.inr (q)))))))
 clear hc hh X4
 go_wp2_with fail
 go_ret
 refine ⟨rfl,C5.out,?_⟩
 intro S2 Y hc hS2
 have HY:=H_ hc
 have HS2:=H_ hS2
 clear hc hS2 X5
 obtain ⟨Y0,hY0⟩:∃Y0,Y0=Y.alloc (.cells #[.slice ma ml mc,.slice ca cl cc,.slice sa sl sc,.slice na nl nc,.slice ua ul uc,.slice da dl dc,.int .i64 fr] 42):=⟨_,rfl⟩
 have B0:Hid (Below Y.heap.size Y Y0):=H_ (by rw [hY0];exact (Below.refl _ _).alloc (Nat.le_refl _) _)
 have Z0:Hid (Blk Y.heap.size [.slice ma ml mc,.slice ca cl cc,.slice sa sl sc,.slice na nl nc,.slice ua ul uc,.slice da dl dc,.int .i64 fr] Y0):=H_ (by rw [hY0];exact Blk.new Y [.slice ma ml mc,.slice ca cl cc,.slice sa sl sc,.slice na nl nc,.slice ua ul uc,.slice da dl dc,.int .i64 fr] 42)
 have E0:Hid (∀V,Below Y.heap.size Y V→Calls Tryz.prog 93 #[.agg #[.slice ma ml mc,.slice ca cl cc],.int .i64 (K0:Nat)] V fun e w3=>e=.returned (.int .i64 (K1:Nat))∧Below V.heap.size V w3):=H_ (fun V hV=>G0.out _ V ((((((Q1.out).join Q2.out).join Q3.out).join Q4.out).join HY.out).below hV) (by
  rintro b ((((q|q)|q)|q)|q) q2
  ·exact D01.out b q2 q
  ·exact D02.out b q2 q
  ·exact D03.out b q2 q
  ·exact D04.out b q2 q
  ·exact HS2.out b q (.inl q2)
  ))
 have E1:Hid (∀V,Below Y.heap.size Y V→Calls Tryz.prog 94 #[.slice sa sl sc,.int .i64 (K1:Nat)] V fun e w3=>e=.returned (.int .i64 (K2:Nat))∧Below V.heap.size V w3):=H_ (fun V hV=>G1.out _ V (((((Q2.out).join Q3.out).join Q4.out).join HY.out).below hV) (by
  rintro b (((q|q)|q)|q) q2
  ·exact D12.out b q2 q
  ·exact D13.out b q2 q
  ·exact D14.out b q2 q
  ·exact HS2.out b q (.inr (.inl q2))
  ))
 have E2:Hid (∀V,Below Y.heap.size Y V→Calls Tryz.prog 95 #[.slice na nl nc,.int .i64 (K2:Nat)] V fun e w3=>e=.returned (.int .i64 (K3:Nat))∧Below V.heap.size V w3):=H_ (fun V hV=>G2.out _ V ((((Q3.out).join Q4.out).join HY.out).below hV) (by
  rintro b ((q|q)|q) q2
  ·exact D23.out b q2 q
  ·exact D24.out b q2 q
  ·exact HS2.out b q (.inr (.inr (.inl q2)))
  ))
 have E3:Hid (∀V,Below Y.heap.size Y V→Calls Tryz.prog 96 #[.slice ua ul uc,.int .i64 (K3:Nat)] V fun e w3=>e=.returned (.int .i64 (K4:Nat))∧Below V.heap.size V w3):=H_ (fun V hV=>G3.out _ V (((Q4.out).join HY.out).below hV) (by
  rintro b (q|q) q2
  ·exact D34.out b q2 q
  ·exact HS2.out b q (.inr (.inr (.inr (.inl q2))))
  ))
 have E4:Hid (∀V,Below Y.heap.size Y V→Calls Tryz.prog 44 #[.slice da dl dc,.int .i64 (K4:Nat)] V fun e w3=>e=.returned (.int .i64 (K5:Nat))∧Below V.heap.size V w3):=H_ (fun V hV=>G4.out _ V ((HY.out).below hV) (by
  rintro b q q2
  exact HS2.out b q (.inr (.inr (.inr (.inr (q2)))))
  ))
 clear Q0 Q1 Q2 Q3 Q4 G0 G1 G2 G3 G4 HC HS HL HY HS2 C0 C1 C2 C3 C4 C5 H0 H1 H2 H3 H4
 have HW:=H_ hY0
 clear hY0
 have k1:¬((K1:Nat):Int)<0:=by omega
 have k2:¬((K2:Nat):Int)<0:=by omega
 have k3:¬((K3:Nat):Int)<0:=by omega
 have k4:¬((K4:Nat):Int)<0:=by omega
 have k5:¬((K5:Nat):Int)<0:=by omega
 go_enter Tryz.func43,Tryz.ntmps43
 go_wp2_with fail
 rw [←HW.out]
 clear HW
 refine (E0.out _ B0.out).mono ?_
 rintro e y1 ⟨rfl,hb⟩
 have B1:=H_ (B0.out.trans (hb.mono B0.out.size))
 have Z1:=H_ (Z0.out.below hb)
 clear hb B0 Z0
 have xl:=Z1.out.1
 have x0:y1.cell? ⟨Y.heap.size,0,none⟩=some (.slice ma ml mc):=Z1.out.2 0 (by simp)
 have x1:y1.cell? ⟨Y.heap.size,1,none⟩=some (.slice ca cl cc):=Z1.out.2 1 (by simp)
 have x2:y1.cell? ⟨Y.heap.size,2,none⟩=some (.slice sa sl sc):=Z1.out.2 2 (by simp)
 have x3:y1.cell? ⟨Y.heap.size,3,none⟩=some (.slice na nl nc):=Z1.out.2 3 (by simp)
 have x4:y1.cell? ⟨Y.heap.size,4,none⟩=some (.slice ua ul uc):=Z1.out.2 4 (by simp)
 have x5:y1.cell? ⟨Y.heap.size,5,none⟩=some (.slice da dl dc):=Z1.out.2 5 (by simp)
 have x6:y1.cell? ⟨Y.heap.size,6,none⟩=some (.int .i64 fr):=Z1.out.2 6 (by simp)
 go_wp2_with fail
 refine (E1.out _ B1.out).mono ?_
 rintro e y2 ⟨rfl,hb⟩
 clear xl
 clear x0
 clear x1
 clear x2
 clear x3
 clear x4
 clear x5
 clear x6
 have B2:=H_ (B1.out.trans (hb.mono B1.out.size))
 have Z2:=H_ (Z1.out.below hb)
 clear hb B1 Z1
 have xl:=Z2.out.1
 have x0:y2.cell? ⟨Y.heap.size,0,none⟩=some (.slice ma ml mc):=Z2.out.2 0 (by simp)
 have x1:y2.cell? ⟨Y.heap.size,1,none⟩=some (.slice ca cl cc):=Z2.out.2 1 (by simp)
 have x2:y2.cell? ⟨Y.heap.size,2,none⟩=some (.slice sa sl sc):=Z2.out.2 2 (by simp)
 have x3:y2.cell? ⟨Y.heap.size,3,none⟩=some (.slice na nl nc):=Z2.out.2 3 (by simp)
 have x4:y2.cell? ⟨Y.heap.size,4,none⟩=some (.slice ua ul uc):=Z2.out.2 4 (by simp)
 have x5:y2.cell? ⟨Y.heap.size,5,none⟩=some (.slice da dl dc):=Z2.out.2 5 (by simp)
 have x6:y2.cell? ⟨Y.heap.size,6,none⟩=some (.int .i64 fr):=Z2.out.2 6 (by simp)
 go_wp2_with fail
 refine (E2.out _ B2.out).mono ?_
 rintro e y3 ⟨rfl,hb⟩
 clear xl
 clear x0
 clear x1
 clear x2
 clear x3
 clear x4
 clear x5
 clear x6
 have B3:=H_ (B2.out.trans (hb.mono B2.out.size))
 have Z3:=H_ (Z2.out.below hb)
 clear hb B2 Z2
 have xl:=Z3.out.1
 have x0:y3.cell? ⟨Y.heap.size,0,none⟩=some (.slice ma ml mc):=Z3.out.2 0 (by simp)
 have x1:y3.cell? ⟨Y.heap.size,1,none⟩=some (.slice ca cl cc):=Z3.out.2 1 (by simp)
 have x2:y3.cell? ⟨Y.heap.size,2,none⟩=some (.slice sa sl sc):=Z3.out.2 2 (by simp)
 have x3:y3.cell? ⟨Y.heap.size,3,none⟩=some (.slice na nl nc):=Z3.out.2 3 (by simp)
 have x4:y3.cell? ⟨Y.heap.size,4,none⟩=some (.slice ua ul uc):=Z3.out.2 4 (by simp)
 have x5:y3.cell? ⟨Y.heap.size,5,none⟩=some (.slice da dl dc):=Z3.out.2 5 (by simp)
 have x6:y3.cell? ⟨Y.heap.size,6,none⟩=some (.int .i64 fr):=Z3.out.2 6 (by simp)
 go_wp2_with fail
 refine (E3.out _ B3.out).mono ?_
 rintro e y4 ⟨rfl,hb⟩
 clear xl
 clear x0
 clear x1
 clear x2
 clear x3
 clear x4
 clear x5
 clear x6
 have B4:=H_ (B3.out.trans (hb.mono B3.out.size))
 have Z4:=H_ (Z3.out.below hb)
 clear hb B3 Z3
 have xl:=Z4.out.1
 have x0:y4.cell? ⟨Y.heap.size,0,none⟩=some (.slice ma ml mc):=Z4.out.2 0 (by simp)
 have x1:y4.cell? ⟨Y.heap.size,1,none⟩=some (.slice ca cl cc):=Z4.out.2 1 (by simp)
 have x2:y4.cell? ⟨Y.heap.size,2,none⟩=some (.slice sa sl sc):=Z4.out.2 2 (by simp)
 have x3:y4.cell? ⟨Y.heap.size,3,none⟩=some (.slice na nl nc):=Z4.out.2 3 (by simp)
 have x4:y4.cell? ⟨Y.heap.size,4,none⟩=some (.slice ua ul uc):=Z4.out.2 4 (by simp)
 have x5:y4.cell? ⟨Y.heap.size,5,none⟩=some (.slice da dl dc):=Z4.out.2 5 (by simp)
 have x6:y4.cell? ⟨Y.heap.size,6,none⟩=some (.int .i64 fr):=Z4.out.2 6 (by simp)
 go_wp2_with fail
 refine (E4.out _ B4.out).mono ?_
 rintro e y5 ⟨rfl,hb⟩
 clear xl
 clear x0
 clear x1
 clear x2
 clear x3
 clear x4
 clear x5
 clear x6
 have B5:=H_ (B4.out.trans (hb.mono B4.out.size))
 have Z5:=H_ (Z4.out.below hb)
 clear hb B4 Z4
 go_wp2_with fail
 go_ret
 exact ⟨rfl,B5.out⟩
set_option maxHeartbeats 4000000 in
theorem mkh_eout (ma:Option Addr) (ml mc:Nat) (ca:Option Addr) (cl cc:Nat) (sa:Option Addr) (sl sc:Nat) (na:Option Addr) (nl nc:Nat) (ua:Option Addr) (ul uc:Nat) (da:Option Addr) (dl dc:Nat) (oa:Option Addr) (ol oc:Nat) (fr c0 c1 c2 c3 c4 cd:Int) (K0 K1 K2:Nat) (T0 T1:Nat→Prop) (w:World)
 (h0:MkH 10 43 (.agg #[.slice ma ml mc,.slice ca cl cc,.slice sa sl sc,.slice na nl nc,.slice ua ul uc,.slice da dl dc,.int .i64 fr]) K0 K1 T0 w)
 (h1:MkH 42 44 (.slice oa ol oc) K1 K2 T1 w)
 (hl:∀b,T0 b∨T1 b→b<w.heap.size) (d01:∀b,T0 b→T1 b→False) :
 MkH 11 12 (.agg #[.slice ma ml mc,.slice ca cl cc,.slice sa sl sc,.slice na nl nc,.slice ua ul uc,.slice da dl dc,.int .i64 fr,.int .i64 c0,.int .i64 c1,.int .i64 c2,.int .i64 c3,.int .i64 c4,.slice oa ol oc,.int .i64 cd]) K0 K2 (fun b=>T0 b∨T1 b) w:=by
 intro S W hc hS
 have HC:=H_ hc
 have HS:=H_ hS
 have HL:=H_ hl
 have H0:=H_ h0
 have H1:=H_ h1
 have D01:=H_ d01
 clear hc hS hl h0 h1 d01
 obtain ⟨W0,hW0⟩:∃W0,W0=W.alloc (.cells #[.slice ma ml mc,.slice ca cl cc,.slice sa sl sc,.slice na nl nc,.slice ua ul uc,.slice da dl dc,.int .i64 fr,.int .i64 c0,.int .i64 c1,.int .i64 c2,.int .i64 c3,.int .i64 c4,.slice oa ol oc,.int .i64 cd] 46):=⟨_,rfl⟩
 have C0:Hid (Chg (fun _=>False) W W0):=H_ (by rw [hW0];exact Chg.of_below ((Below.refl _ _).alloc (Nat.le_refl _) _))
 have X0:Hid (Blk W.heap.size [.slice ma ml mc,.slice ca cl cc,.slice sa sl sc,.slice na nl nc,.slice ua ul uc,.slice da dl dc,.int .i64 fr,.int .i64 c0,.int .i64 c1,.int .i64 c2,.int .i64 c3,.int .i64 c4,.slice oa ol oc,.int .i64 cd] W0):=H_ (by rw [hW0];exact Blk.new W [.slice ma ml mc,.slice ca cl cc,.slice sa sl sc,.slice na nl nc,.slice ua ul uc,.slice da dl dc,.int .i64 fr,.int .i64 c0,.int .i64 c1,.int .i64 c2,.int .i64 c3,.int .i64 c4,.slice oa ol oc,.int .i64 cd] 46)
 have HW:=H_ hW0
 clear hW0
 go_enter Tryz.func11,Tryz.ntmps11
 go_wp2_with fail
 rw [←HW.out]
 clear HW
 have N0:=H_ (H0.out _ _ (HC.out.join C0.out) (by
  rintro b (q|q) q2
  ·exact HS.out b q (.inl q2)
  ·exact q))
 refine N0.out.mono ?_
 rintro e w1 ⟨rfl,hc,hh⟩
 clear N0
 have Q0:=H_ hc
 have G0:=H_ hh
 have X1:=H_ (hc.blk X0.out (fun q=>by have:=HL.out _ (.inl q);have:=HC.out.size;omega))
 have C1:Hid (Chg (fun b=>T0 b) W w1):=H_ ((C0.out.wide (fun _ q=>q.elim)).trans Q0.out)
 clear hc hh X0
 have xl:=X1.out.1
 have x0:w1.cell? ⟨W.heap.size,0,none⟩=some (.slice ma ml mc):=X1.out.2 0 (by simp)
 have x1:w1.cell? ⟨W.heap.size,1,none⟩=some (.slice ca cl cc):=X1.out.2 1 (by simp)
 have x2:w1.cell? ⟨W.heap.size,2,none⟩=some (.slice sa sl sc):=X1.out.2 2 (by simp)
 have x3:w1.cell? ⟨W.heap.size,3,none⟩=some (.slice na nl nc):=X1.out.2 3 (by simp)
 have x4:w1.cell? ⟨W.heap.size,4,none⟩=some (.slice ua ul uc):=X1.out.2 4 (by simp)
 have x5:w1.cell? ⟨W.heap.size,5,none⟩=some (.slice da dl dc):=X1.out.2 5 (by simp)
 have x6:w1.cell? ⟨W.heap.size,6,none⟩=some (.int .i64 fr):=X1.out.2 6 (by simp)
 have x7:w1.cell? ⟨W.heap.size,7,none⟩=some (.int .i64 c0):=X1.out.2 7 (by simp)
 have x8:w1.cell? ⟨W.heap.size,8,none⟩=some (.int .i64 c1):=X1.out.2 8 (by simp)
 have x9:w1.cell? ⟨W.heap.size,9,none⟩=some (.int .i64 c2):=X1.out.2 9 (by simp)
 have x10:w1.cell? ⟨W.heap.size,10,none⟩=some (.int .i64 c3):=X1.out.2 10 (by simp)
 have x11:w1.cell? ⟨W.heap.size,11,none⟩=some (.int .i64 c4):=X1.out.2 11 (by simp)
 have x12:w1.cell? ⟨W.heap.size,12,none⟩=some (.slice oa ol oc):=X1.out.2 12 (by simp)
 have x13:w1.cell? ⟨W.heap.size,13,none⟩=some (.int .i64 cd):=X1.out.2 13 (by simp)
 go_wp2_with fail
 have N1:=H_ (H1.out _ _ (HC.out.join C1.out) (by
  rintro b (q|q) q2
  ·exact HS.out b q (.inr (q2))
  ·exact D01.out b q q2))
 refine N1.out.mono ?_
 rintro e w2 ⟨rfl,hc,hh⟩
 clear N1
 clear xl
 clear x0
 clear x1
 clear x2
 clear x3
 clear x4
 clear x5
 clear x6
 clear x7
 clear x8
 clear x9
 clear x10
 clear x11
 clear x12
 clear x13
 have Q1:=H_ hc
 have G1:=H_ hh
 have X2:=H_ (hc.blk X1.out (fun q=>by have:=HL.out _ (.inr (q));have:=HC.out.size;omega))
 have C2:Hid (Chg (fun b=>T0 b∨T1 b) W w2):=H_ ((C1.out.wide (fun b q=>.inl q)).trans (Q1.out.wide (fun b q=>.inr (q))))
 clear hc hh X1
 go_wp2_with fail
 go_ret
 refine ⟨rfl,C2.out,?_⟩
 intro S2 Y hc hS2
 have HY:=H_ hc
 have HS2:=H_ hS2
 clear hc hS2 X2
 obtain ⟨Y0,hY0⟩:∃Y0,Y0=Y.alloc (.cells #[.slice ma ml mc,.slice ca cl cc,.slice sa sl sc,.slice na nl nc,.slice ua ul uc,.slice da dl dc,.int .i64 fr,.int .i64 c0,.int .i64 c1,.int .i64 c2,.int .i64 c3,.int .i64 c4,.slice oa ol oc,.int .i64 cd] 46):=⟨_,rfl⟩
 have B0:Hid (Below Y.heap.size Y Y0):=H_ (by rw [hY0];exact (Below.refl _ _).alloc (Nat.le_refl _) _)
 have Z0:Hid (Blk Y.heap.size [.slice ma ml mc,.slice ca cl cc,.slice sa sl sc,.slice na nl nc,.slice ua ul uc,.slice da dl dc,.int .i64 fr,.int .i64 c0,.int .i64 c1,.int .i64 c2,.int .i64 c3,.int .i64 c4,.slice oa ol oc,.int .i64 cd] Y0):=H_ (by rw [hY0];exact Blk.new Y [.slice ma ml mc,.slice ca cl cc,.slice sa sl sc,.slice na nl nc,.slice ua ul uc,.slice da dl dc,.int .i64 fr,.int .i64 c0,.int .i64 c1,.int .i64 c2,.int .i64 c3,.int .i64 c4,.slice oa ol oc,.int .i64 cd] 46)
 have E0:Hid (∀V,Below Y.heap.size Y V→Calls Tryz.prog 43 #[.agg #[.slice ma ml mc,.slice ca cl cc,.slice sa sl sc,.slice na nl nc,.slice ua ul uc,.slice da dl dc,.int .i64 fr],.int .i64 (K0:Nat)] V fun e w3=>e=.returned (.int .i64 (K1:Nat))∧Below V.heap.size V w3):=H_ (fun V hV=>G0.out _ V (((Q1.out).join HY.out).below hV) (by
  rintro b (q|q) q2
  ·exact D01.out b q2 q
  ·exact HS2.out b q (.inl q2)
  ))
 have E1:Hid (∀V,Below Y.heap.size Y V→Calls Tryz.prog 44 #[.slice oa ol oc,.int .i64 (K1:Nat)] V fun e w3=>e=.returned (.int .i64 (K2:Nat))∧Below V.heap.size V w3):=H_ (fun V hV=>G1.out _ V ((HY.out).below hV) (by
  rintro b q q2
  exact HS2.out b q (.inr (q2))
  ))
 clear Q0 Q1 G0 G1 HC HS HL HY HS2 C0 C1 C2 H0 H1
 have HW:=H_ hY0
 clear hY0
 have k1:¬((K1:Nat):Int)<0:=by omega
 have k2:¬((K2:Nat):Int)<0:=by omega
 go_enter Tryz.func12,Tryz.ntmps12
 go_wp2_with fail
 rw [←HW.out]
 clear HW
 refine (E0.out _ B0.out).mono ?_
 rintro e y1 ⟨rfl,hb⟩
 have B1:=H_ (B0.out.trans (hb.mono B0.out.size))
 have Z1:=H_ (Z0.out.below hb)
 clear hb B0 Z0
 have xl:=Z1.out.1
 have x0:y1.cell? ⟨Y.heap.size,0,none⟩=some (.slice ma ml mc):=Z1.out.2 0 (by simp)
 have x1:y1.cell? ⟨Y.heap.size,1,none⟩=some (.slice ca cl cc):=Z1.out.2 1 (by simp)
 have x2:y1.cell? ⟨Y.heap.size,2,none⟩=some (.slice sa sl sc):=Z1.out.2 2 (by simp)
 have x3:y1.cell? ⟨Y.heap.size,3,none⟩=some (.slice na nl nc):=Z1.out.2 3 (by simp)
 have x4:y1.cell? ⟨Y.heap.size,4,none⟩=some (.slice ua ul uc):=Z1.out.2 4 (by simp)
 have x5:y1.cell? ⟨Y.heap.size,5,none⟩=some (.slice da dl dc):=Z1.out.2 5 (by simp)
 have x6:y1.cell? ⟨Y.heap.size,6,none⟩=some (.int .i64 fr):=Z1.out.2 6 (by simp)
 have x7:y1.cell? ⟨Y.heap.size,7,none⟩=some (.int .i64 c0):=Z1.out.2 7 (by simp)
 have x8:y1.cell? ⟨Y.heap.size,8,none⟩=some (.int .i64 c1):=Z1.out.2 8 (by simp)
 have x9:y1.cell? ⟨Y.heap.size,9,none⟩=some (.int .i64 c2):=Z1.out.2 9 (by simp)
 have x10:y1.cell? ⟨Y.heap.size,10,none⟩=some (.int .i64 c3):=Z1.out.2 10 (by simp)
 have x11:y1.cell? ⟨Y.heap.size,11,none⟩=some (.int .i64 c4):=Z1.out.2 11 (by simp)
 have x12:y1.cell? ⟨Y.heap.size,12,none⟩=some (.slice oa ol oc):=Z1.out.2 12 (by simp)
 have x13:y1.cell? ⟨Y.heap.size,13,none⟩=some (.int .i64 cd):=Z1.out.2 13 (by simp)
 go_wp2_with fail
 refine (E1.out _ B1.out).mono ?_
 rintro e y2 ⟨rfl,hb⟩
 clear xl
 clear x0
 clear x1
 clear x2
 clear x3
 clear x4
 clear x5
 clear x6
 clear x7
 clear x8
 clear x9
 clear x10
 clear x11
 clear x12
 clear x13
 have B2:=H_ (B1.out.trans (hb.mono B1.out.size))
 have Z2:=H_ (Z1.out.below hb)
 clear hb B1 Z1
 go_wp2_with fail
 go_ret
 exact ⟨rfl,B2.out⟩
end ChG
end Go.Proofs.YtnceeaccbcfopaaGreatDoor
