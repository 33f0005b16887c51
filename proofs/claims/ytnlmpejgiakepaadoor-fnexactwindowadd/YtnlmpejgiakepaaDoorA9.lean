/-
  FnExactWindowAdd: for every window and event the law's call returns true (the program's WindowAdd hands back what the model's does, it writes into no argument, its answer owns its memory, behind another call too). The condition is the card's: the program's table starts as its text lays it.
  Windows that the law is given or handed, between two places of the memory. No condition.
-/
import Derived.Test.YtnlmpejgiakepaaDoorCards
import Derived.Deep.CutRange
import Derived.Carry
import Derived.OpenVars
import Derived.Lib.SmallJoins
import Derived.SevenTiedAt
import Derived.Test.YtnlmpejgiakepaaDoorA8
namespace Go.Proofs.YtnlmpejgiakepaaDoor
open Go.ChangeShapes Go.WideShapes Go.ChangeAt Go.RowKit
set_option linter.unusedVariables false
namespace WindowAddL
open WinR
open RowG (MadeG Rws)
open EvtR (Pt)
open CatR (Blk Blk.new)
open DateR (Laid)
def BX (W0 : World) (bA bB : Nat) (p0 p1 p2 p3 p4 p5 p6 p7 q0 q1 q2 q3 q4 q5 : Value) (W : World) : Prop := Below W0.heap.size W0 W ∧ bA < W.heap.size ∧ bB < W.heap.size ∧ W.cell? ⟨bA, 0, none⟩ = some (p0) ∧ W.cell? ⟨bA, 1, none⟩ = some (p1) ∧ W.cell? ⟨bA, 2, none⟩ = some (p2) ∧ W.cell? ⟨bA, 3, none⟩ = some (p3) ∧ W.cell? ⟨bA, 4, none⟩ = some (p4) ∧ W.cell? ⟨bA, 5, none⟩ = some (p5) ∧ W.cell? ⟨bA, 6, none⟩ = some (p6) ∧ W.cell? ⟨bA, 7, none⟩ = some (p7) ∧ W.cell? ⟨bB, 0, none⟩ = some (q0) ∧ W.cell? ⟨bB, 1, none⟩ = some (q1) ∧ W.cell? ⟨bB, 2, none⟩ = some (q2) ∧ W.cell? ⟨bB, 3, none⟩ = some (q3) ∧ W.cell? ⟨bB, 4, none⟩ = some (q4) ∧ W.cell? ⟨bB, 5, none⟩ = some (q5)
theorem BX.below {W0 : World} {bA bB : Nat} {p0 p1 p2 p3 p4 p5 p6 p7 q0 q1 q2 q3 q4 q5 : Value} {W W' : World} (h : BX W0 bA bB p0 p1 p2 p3 p4 p5 p6 p7 q0 q1 q2 q3 q4 q5 W) (hb : Below W.heap.size W W') : BX W0 bA bB p0 p1 p2 p3 p4 p5 p6 p7 q0 q1 q2 q3 q4 q5 W' := by
 obtain ⟨h0, h1, h2, c0, c1, c2, c3, c4, c5, c6, c7, d0, d1, d2, d3, d4, d5⟩ := h
 have c := fun o => hb.cell (p := ⟨bA, o, none⟩) h1
 have d := fun o => hb.cell (p := ⟨bB, o, none⟩) h2
 have := hb.size
 exact ⟨h0.trans (hb.mono h0.size), by omega, by omega, (c 0).trans c0, (c 1).trans c1, (c 2).trans c2, (c 3).trans c3, (c 4).trans c4, (c 5).trans c5, (c 6).trans c6, (c 7).trans c7, (d 0).trans d0, (d 1).trans d1, (d 2).trans d2, (d 3).trans d3, (d 4).trans d4, (d 5).trans d5⟩
theorem BX.grown {W0 : World} {bA bB : Nat} {p0 p1 p2 p3 p4 p5 p6 p7 q0 q1 q2 q3 q4 q5 : Value} {W W' : World} {g : Nat} (h : BX W0 bA bB p0 p1 p2 p3 p4 p5 p6 p7 q0 q1 q2 q3 q4 q5 W) (hq : W0.heap.size ≤ g) (hA : bA < W0.heap.size) (hB : bB < W0.heap.size) (hg : W.grownBy W' (some g)) : BX W0 bA bB p0 p1 p2 p3 p4 p5 p6 p7 q0 q1 q2 q3 q4 q5 W' := by
 obtain ⟨h0, h1, h2, c0, c1, c2, c3, c4, c5, c6, c7, d0, d1, d2, d3, d4, d5⟩ := h
 have c := fun o => World.cell?_of_block (a := ⟨bA, o, none⟩) (hg.block bA h1 (by simp; omega))
 have d := fun o => World.cell?_of_block (a := ⟨bB, o, none⟩) (hg.block bB h2 (by simp; omega))
 have hs := hg.size
 exact ⟨h0.grown hg h0.size (fun k e => by cases e; exact hq), by omega, by omega, (c 0).trans c0, (c 1).trans c1, (c 2).trans c2, (c 3).trans c3, (c 4).trans c4, (c 5).trans c5, (c 6).trans c6, (c 7).trans c7, (d 0).trans d0, (d 1).trans d1, (d 2).trans d2, (d 3).trans d3, (d 4).trans d4, (d 5).trans d5⟩
theorem BX.of {W0 : World} {bA bB : Nat} {p0 p1 p2 p3 p4 p5 p6 p7 q0 q1 q2 q3 q4 q5 : Value} (hA : Blk bA [p0, p1, p2, p3, p4, p5, p6, p7] W0) (hB : Blk bB [q0, q1, q2, q3, q4, q5] W0) : BX W0 bA bB p0 p1 p2 p3 p4 p5 p6 p7 q0 q1 q2 q3 q4 q5 W0.drew :=
 ⟨(Below.refl _ _).drew, hA.1, hB.1, hA.2 0 (by simp), hA.2 1 (by simp), hA.2 2 (by simp), hA.2 3 (by simp), hA.2 4 (by simp), hA.2 5 (by simp), hA.2 6 (by simp), hA.2 7 (by simp), hB.2 0 (by simp), hB.2 1 (by simp), hB.2 2 (by simp), hB.2 3 (by simp), hB.2 4 (by simp), hB.2 5 (by simp)⟩
def BW (W0 : World) (bA bB : Nat) (p0 p1 p2 p3 p4 p5 p6 p7 q0 q1 q2 q3 q4 q5 q6 q7 : Value) (W : World) : Prop := Below W0.heap.size W0 W ∧ bA < W.heap.size ∧ bB < W.heap.size ∧ W.cell? ⟨bA, 0, none⟩ = some (p0) ∧ W.cell? ⟨bA, 1, none⟩ = some (p1) ∧ W.cell? ⟨bA, 2, none⟩ = some (p2) ∧ W.cell? ⟨bA, 3, none⟩ = some (p3) ∧ W.cell? ⟨bA, 4, none⟩ = some (p4) ∧ W.cell? ⟨bA, 5, none⟩ = some (p5) ∧ W.cell? ⟨bA, 6, none⟩ = some (p6) ∧ W.cell? ⟨bA, 7, none⟩ = some (p7) ∧ W.cell? ⟨bB, 0, none⟩ = some (q0) ∧ W.cell? ⟨bB, 1, none⟩ = some (q1) ∧ W.cell? ⟨bB, 2, none⟩ = some (q2) ∧ W.cell? ⟨bB, 3, none⟩ = some (q3) ∧ W.cell? ⟨bB, 4, none⟩ = some (q4) ∧ W.cell? ⟨bB, 5, none⟩ = some (q5) ∧ W.cell? ⟨bB, 6, none⟩ = some (q6) ∧ W.cell? ⟨bB, 7, none⟩ = some (q7)
theorem BW.below {W0 : World} {bA bB : Nat} {p0 p1 p2 p3 p4 p5 p6 p7 q0 q1 q2 q3 q4 q5 q6 q7 : Value} {W W' : World} (h : BW W0 bA bB p0 p1 p2 p3 p4 p5 p6 p7 q0 q1 q2 q3 q4 q5 q6 q7 W) (hb : Below W.heap.size W W') : BW W0 bA bB p0 p1 p2 p3 p4 p5 p6 p7 q0 q1 q2 q3 q4 q5 q6 q7 W' := by
 obtain ⟨h0, h1, h2, c0, c1, c2, c3, c4, c5, c6, c7, d0, d1, d2, d3, d4, d5, d6, d7⟩ := h
 have c := fun o => hb.cell (p := ⟨bA, o, none⟩) h1
 have d := fun o => hb.cell (p := ⟨bB, o, none⟩) h2
 have := hb.size
 exact ⟨h0.trans (hb.mono h0.size), by omega, by omega, (c 0).trans c0, (c 1).trans c1, (c 2).trans c2, (c 3).trans c3, (c 4).trans c4, (c 5).trans c5, (c 6).trans c6, (c 7).trans c7, (d 0).trans d0, (d 1).trans d1, (d 2).trans d2, (d 3).trans d3, (d 4).trans d4, (d 5).trans d5, (d 6).trans d6, (d 7).trans d7⟩
theorem BW.grown {W0 : World} {bA bB : Nat} {p0 p1 p2 p3 p4 p5 p6 p7 q0 q1 q2 q3 q4 q5 q6 q7 : Value} {W W' : World} {g : Nat} (h : BW W0 bA bB p0 p1 p2 p3 p4 p5 p6 p7 q0 q1 q2 q3 q4 q5 q6 q7 W) (hq : W0.heap.size ≤ g) (hA : bA < W0.heap.size) (hB : bB < W0.heap.size) (hg : W.grownBy W' (some g)) : BW W0 bA bB p0 p1 p2 p3 p4 p5 p6 p7 q0 q1 q2 q3 q4 q5 q6 q7 W' := by
 obtain ⟨h0, h1, h2, c0, c1, c2, c3, c4, c5, c6, c7, d0, d1, d2, d3, d4, d5, d6, d7⟩ := h
 have c := fun o => World.cell?_of_block (a := ⟨bA, o, none⟩) (hg.block bA h1 (by simp; omega))
 have d := fun o => World.cell?_of_block (a := ⟨bB, o, none⟩) (hg.block bB h2 (by simp; omega))
 have hs := hg.size
 exact ⟨h0.grown hg h0.size (fun k e => by cases e; exact hq), by omega, by omega, (c 0).trans c0, (c 1).trans c1, (c 2).trans c2, (c 3).trans c3, (c 4).trans c4, (c 5).trans c5, (c 6).trans c6, (c 7).trans c7, (d 0).trans d0, (d 1).trans d1, (d 2).trans d2, (d 3).trans d3, (d 4).trans d4, (d 5).trans d5, (d 6).trans d6, (d 7).trans d7⟩
theorem BW.of {W0 : World} {bA bB : Nat} {p0 p1 p2 p3 p4 p5 p6 p7 q0 q1 q2 q3 q4 q5 q6 q7 : Value} (hA : Blk bA [p0, p1, p2, p3, p4, p5, p6, p7] W0) (hB : Blk bB [q0, q1, q2, q3, q4, q5, q6, q7] W0) : BW W0 bA bB p0 p1 p2 p3 p4 p5 p6 p7 q0 q1 q2 q3 q4 q5 q6 q7 W0.drew :=
 ⟨(Below.refl _ _).drew, hA.1, hB.1, hA.2 0 (by simp), hA.2 1 (by simp), hA.2 2 (by simp), hA.2 3 (by simp), hA.2 4 (by simp), hA.2 5 (by simp), hA.2 6 (by simp), hA.2 7 (by simp), hB.2 0 (by simp), hB.2 1 (by simp), hB.2 2 (by simp), hB.2 3 (by simp), hB.2 4 (by simp), hB.2 5 (by simp), hB.2 6 (by simp), hB.2 7 (by simp)⟩
set_option maxRecDepth 100000 in
set_option maxHeartbeats 16000000 in
theorem law_in (T1 : Nat → Nat → Nat → Nat → World → Prop) (N : Nat → Nat → Value → World → Prop) (J : Nat → Nat → Option Addr → Option Addr → World → Prop) (D : Option Addr → Option Addr → World → Prop) (a1 m1 : ByteArray) (mo1 ev1 su1 mx1 : Int) (ta1 : Option Addr) (tl1 tc1 : Nat) (ha1 : Option Addr) (hl1 hc1 : Nat) (iE aE mE : ByteArray) (nE kE : Int) (tE : ByteArray) (a m : ByteArray) (mo ev su mx : Int) (tl hl : Nat) (cd : Int) (left1 left2 Q1 QO : Int) (w : World) (hl1' : ¬ left1 < 0) (hl2' : ¬ left2 < 0) (hq1' : ¬ Q1 < 0) (hqo' : ¬ QO < 0) (hL : Laid w)
  (hK1 : ∀ b t g h W W', T1 b t g h W → Below W.heap.size W W' → T1 b t g h W')
  (hNb : ∀ b t v W W', N b t v W → Below W.heap.size W W' → N b t v W')
  (hNg : ∀ b t v W W' k, N b t v W → W.grownBy W' (some k) → (k < b ∨ t ≤ k) → N b t v W')
  (hNo : ∀ b t v b' t' W W', N b t v W → Outs b' t' W W' → (t ≤ b' ∨ t' ≤ b) → N b t v W')
  (hJb : ∀ b t p q W W', J b t p q W → Below W.heap.size W W' → J b t p q W')
  (hJg : ∀ b t p q W W' k, J b t p q W → W.grownBy W' (some k) → (k < b ∨ t ≤ k) → J b t p q W')
  (hJo : ∀ b t p q b' t' W W', J b t p q W → Outs b' t' W W' → t' ≤ b → J b t p q W')
  (hDb : ∀ p q W W', D p q W → Below W.heap.size W W' → D p q W')
  (hZ1 : ∀ W, Below w.heap.size w W → Calls Tryd.prog 5 #[.agg #[.string a1, .string m1, .int .i64 mo1, .int .i64 ev1, .int .i64 su1, .int .i64 mx1, .slice ta1 tl1 tc1, .slice ha1 hl1 hc1], .int .i64 1048576] W fun e w' => e = .returned (.int .i64 left1) ∧ Below W.heap.size W w')
  (hZ2 : ∀ W, Below w.heap.size w W → Calls Tryd.prog 6 #[.agg #[.string iE, .string aE, .string mE, .int .i64 nE, .int .i64 kE, .string tE], .int .i64 left1] W fun e w' => e = .returned (.int .i64 left2) ∧ Below W.heap.size W w')
  (hU1 : ∀ W, Below w.heap.size w W → Calls Tryd.prog 8 #[.agg #[.string a1, .string m1, .int .i64 mo1, .int .i64 ev1, .int .i64 su1, .int .i64 mx1, .slice ta1 tl1 tc1, .slice ha1 hl1 hc1]] W fun e w' => ∃ g h, e = .returned (.agg #[.string a1, .string m1, .int .i64 mo1, .int .i64 ev1, .int .i64 su1, .int .i64 mx1, .slice (some ⟨g, 0, none⟩) tl1 tl1, .slice (some ⟨h, 0, none⟩) hl1 hl1]) ∧ T1 W.heap.size w'.heap.size g h w' ∧ Below W.heap.size W w')
  (hU2 : ∀ W, Calls Tryd.prog 9 #[.agg #[.string iE, .string aE, .string mE, .int .i64 nE, .int .i64 kE, .string tE]] W fun e w' => e = .returned (.agg #[.string iE, .string aE, .string mE, .int .i64 nE, .int .i64 kE, .string tE]) ∧ Below W.heap.size W w')
  (hS : ∀ b t g h W, T1 b t g h W → Calls Tryd.prog 7 #[.agg #[.string a1, .string m1, .int .i64 mo1, .int .i64 ev1, .int .i64 su1, .int .i64 mx1, .slice (some ⟨g, 0, none⟩) tl1 tl1, .slice (some ⟨h, 0, none⟩) hl1 hl1], .agg #[.string iE, .string aE, .string mE, .int .i64 nE, .int .i64 kE, .string tE]] W fun e w' => ∃ t0 c0 h0 d0, e = .returned (.agg #[.string a, .string m, .int .i64 mo, .int .i64 ev, .int .i64 su, .int .i64 mx, .slice t0 tl c0, .slice h0 hl d0, .int .i64 cd]) ∧ N W.heap.size w'.heap.size (.agg #[.string a, .string m, .int .i64 mo, .int .i64 ev, .int .i64 su, .int .i64 mx, .slice t0 tl c0, .slice h0 hl d0, .int .i64 cd]) w' ∧ Below W.heap.size W w')
  (hJ : ∀ b t g h W, Laid W → T1 b t g h W → Calls Tryd.prog 10 #[.agg #[.string a1, .string m1, .int .i64 mo1, .int .i64 ev1, .int .i64 su1, .int .i64 mx1, .slice (some ⟨g, 0, none⟩) tl1 tl1, .slice (some ⟨h, 0, none⟩) hl1 hl1], .agg #[.string iE, .string aE, .string mE, .int .i64 nE, .int .i64 kE, .string tE]] W fun e w' => ∃ t0 c0 h0 d0, e = .returned (.agg #[.string a, .string m, .int .i64 mo, .int .i64 ev, .int .i64 su, .int .i64 mx, .slice t0 tl c0, .slice h0 hl d0, .int .i64 cd]) ∧ N W.heap.size w'.heap.size (.agg #[.string a, .string m, .int .i64 mo, .int .i64 ev, .int .i64 su, .int .i64 mx, .slice t0 tl c0, .slice h0 hl d0, .int .i64 cd]) w' ∧ J W.heap.size w'.heap.size t0 h0 w' ∧ Below W.heap.size W w')
  (hE1 : ∀ b t g h b' t' g' h' W, T1 b t g h W → T1 b' t' g' h' W → Calls Tryd.prog 12 #[.agg #[.string a1, .string m1, .int .i64 mo1, .int .i64 ev1, .int .i64 su1, .int .i64 mx1, .slice (some ⟨g, 0, none⟩) tl1 tl1, .slice (some ⟨h, 0, none⟩) hl1 hl1], .agg #[.string a1, .string m1, .int .i64 mo1, .int .i64 ev1, .int .i64 su1, .int .i64 mx1, .slice (some ⟨g', 0, none⟩) tl1 tl1, .slice (some ⟨h', 0, none⟩) hl1 hl1]] W fun e w' => e = .returned (.bool true) ∧ Below W.heap.size W w')
  (hEO : ∀ b t b' t' v v' W, N b t v W → N b' t' v' W → Calls Tryd.prog 11 #[v, v'] W fun e w' => e = .returned (.bool true) ∧ Below W.heap.size W w')
  (hG1 : ∀ b t g h W, T1 b t g h W → Calls Tryd.prog 13 #[.agg #[.string a1, .string m1, .int .i64 mo1, .int .i64 ev1, .int .i64 su1, .int .i64 mx1, .slice (some ⟨g, 0, none⟩) tl1 tl1, .slice (some ⟨h, 0, none⟩) hl1 hl1], .int .i64 1] W fun e w' => e = .returned (.int .i64 Q1) ∧ Outs b t W w')
  (hGO : ∀ b t p c q d W, J b t p q W → Calls Tryd.prog 14 #[.agg #[.string a, .string m, .int .i64 mo, .int .i64 ev, .int .i64 su, .int .i64 mx, .slice p tl c, .slice q hl d, .int .i64 cd], .int .i64 1] W fun e w' => e = .returned (.int .i64 QO) ∧ D p q w' ∧ Outs b t W w')
  (hHO : ∀ p c q d W, D p q W → Calls Tryd.prog 15 #[.agg #[.string a, .string m, .int .i64 mo, .int .i64 ev, .int .i64 su, .int .i64 mx, .slice p tl c, .slice q hl d, .int .i64 cd], .int .i64 1] W fun e w' => e = .returned (.int .i64 QO) ∧ Below W.heap.size W w') :
  Calls Tryd.prog 3 #[.agg #[.string a1, .string m1, .int .i64 mo1, .int .i64 ev1, .int .i64 su1, .int .i64 mx1, .slice ta1 tl1 tc1, .slice ha1 hl1 hc1], .agg #[.string iE, .string aE, .string mE, .int .i64 nE, .int .i64 kE, .string tE]] w fun e w' => e = .returned (.bool true) ∧ Below w.heap.size w w' := by
 have HL := hid_intro hL
 have HK1 := hid_intro hK1
 have HNB := hid_intro hNb
 have HNG := hid_intro hNg
 have HNO := hid_intro hNo
 have HJB := hid_intro hJb
 have HJG := hid_intro hJg
 have HJO := hid_intro hJo
 have HDB := hid_intro hDb
 have HZ1 := hid_intro hZ1
 have HZ2 := hid_intro hZ2
 have HU1 := hid_intro hU1
 have HU2 := hid_intro hU2
 have HS := hid_intro hS
 have HJJ := hid_intro hJ
 have HE1 := hid_intro hE1
 have HEO := hid_intro hEO
 have HG1 := hid_intro hG1
 have HGO := hid_intro hGO
 have HHO := hid_intro hHO
 clear hL hK1 hNb hNg hNo hJb hJg hJo hDb hZ1 hZ2 hU1 hU2 hS hJ hE1 hEO hG1 hGO hHO
 obtain ⟨W0, hW0⟩ : ∃ W0, W0 = ((w.alloc (.cells #[.string a1, .string m1, .int .i64 mo1, .int .i64 ev1, .int .i64 su1, .int .i64 mx1, .slice ta1 tl1 tc1, .slice ha1 hl1 hc1] 25)).alloc (.cells #[.string iE, .string aE, .string mE, .int .i64 nE, .int .i64 kE, .string tE] 27)) := ⟨_, rfl⟩
 have HB0 : Hid (Below w.heap.size w W0) := hid_intro (by rw [hW0]; exact ((Below.refl _ _).alloc (by simp; try omega) _).alloc (by simp; try omega) _)
 have HA0 : Hid (Blk w.heap.size [.string a1, .string m1, .int .i64 mo1, .int .i64 ev1, .int .i64 su1, .int .i64 mx1, .slice ta1 tl1 tc1, .slice ha1 hl1 hc1] W0) := hid_intro (by rw [hW0]; exact (Blk.new w [.string a1, .string m1, .int .i64 mo1, .int .i64 ev1, .int .i64 su1, .int .i64 mx1, .slice ta1 tl1 tc1, .slice ha1 hl1 hc1] 25).below ((Below.refl _ _).alloc (Nat.le_refl _) _))
 have HC0 : Hid (Blk (w.heap.size + 1) [.string iE, .string aE, .string mE, .int .i64 nE, .int .i64 kE, .string tE] W0) := hid_intro (by
  have := Blk.new (w.alloc (.cells #[.string a1, .string m1, .int .i64 mo1, .int .i64 ev1, .int .i64 su1, .int .i64 mx1, .slice ta1 tl1 tc1, .slice ha1 hl1 hc1] 25)) [.string iE, .string aE, .string mE, .int .i64 nE, .int .i64 kE, .string tE] 27
  rw [hW0]
  simp only [World.size_alloc] at this
  exact this)
 have HW := hid_intro hW0
 clear hW0
 go_enter Tryd.func3, Tryd.ntmps3
 have p0 : W0.cell? ⟨w.heap.size, 0, none⟩ = some (.string a1) := HA0.out.2 0 (by simp)
 have p1 : W0.cell? ⟨w.heap.size, 1, none⟩ = some (.string m1) := HA0.out.2 1 (by simp)
 have p2 : W0.cell? ⟨w.heap.size, 2, none⟩ = some (.int .i64 mo1) := HA0.out.2 2 (by simp)
 have p3 : W0.cell? ⟨w.heap.size, 3, none⟩ = some (.int .i64 ev1) := HA0.out.2 3 (by simp)
 have p4 : W0.cell? ⟨w.heap.size, 4, none⟩ = some (.int .i64 su1) := HA0.out.2 4 (by simp)
 have p5 : W0.cell? ⟨w.heap.size, 5, none⟩ = some (.int .i64 mx1) := HA0.out.2 5 (by simp)
 have p6 : W0.cell? ⟨w.heap.size, 6, none⟩ = some (.slice ta1 tl1 tc1) := HA0.out.2 6 (by simp)
 have p7 : W0.cell? ⟨w.heap.size, 7, none⟩ = some (.slice ha1 hl1 hc1) := HA0.out.2 7 (by simp)
 have pl := HA0.out.1
 go_wp2_with fail
 rw [← HW.out]
 refine (HZ1.out _ HB0.out).mono ?_
 rintro e w1 ⟨rfl, hb1⟩
 clear HW
 have HB1 := hid_intro (HB0.out.trans (hb1.mono HB0.out.size))
 have HA1 := hid_intro (HA0.out.below hb1)
 have HC1 := hid_intro (HC0.out.below hb1)
 clear HB0 HA0 HC0
 clear hb1
 clear p0 p1 p2 p3 p4 p5 p6 p7 pl
 have p0 : w1.cell? ⟨w.heap.size + 1, 0, none⟩ = some (.string iE) := HC1.out.2 0 (by simp)
 have p1 : w1.cell? ⟨w.heap.size + 1, 1, none⟩ = some (.string aE) := HC1.out.2 1 (by simp)
 have p2 : w1.cell? ⟨w.heap.size + 1, 2, none⟩ = some (.string mE) := HC1.out.2 2 (by simp)
 have p3 : w1.cell? ⟨w.heap.size + 1, 3, none⟩ = some (.int .i64 nE) := HC1.out.2 3 (by simp)
 have p4 : w1.cell? ⟨w.heap.size + 1, 4, none⟩ = some (.int .i64 kE) := HC1.out.2 4 (by simp)
 have p5 : w1.cell? ⟨w.heap.size + 1, 5, none⟩ = some (.string tE) := HC1.out.2 5 (by simp)
 have pl := HC1.out.1
 go_wp2_with fail
 refine (HZ2.out _ HB1.out).mono ?_
 rintro e w2 ⟨rfl, hb2⟩
 have HB2 := hid_intro (HB1.out.trans (hb2.mono HB1.out.size))
 have HA2 := hid_intro (HA1.out.below hb2)
 have HC2 := hid_intro (HC1.out.below hb2)
 clear HB1 HA1 HC1
 clear hb2
 clear p0 p1 p2 p3 p4 p5 pl
 go_wp2_with fail
 go_cut [6] from 23 (fun v wx => ∃ bO t0 c0 h0 d0 bN tN, v = .pointer (some ⟨bO, 0, none⟩) ∧ Hid (Blk bO [.string a, .string m, .int .i64 mo, .int .i64 ev, .int .i64 su, .int .i64 mx, .slice t0 tl c0, .slice h0 hl d0, .int .i64 cd] wx) ∧ Hid (N bN tN (.agg #[.string a, .string m, .int .i64 mo, .int .i64 ev, .int .i64 su, .int .i64 mx, .slice t0 tl c0, .slice h0 hl d0, .int .i64 cd]) wx) ∧ Hid (tN ≤ wx.heap.size) ∧ Hid ((bO < bN ∨ tN ≤ bO) ∧ w2.heap.size ≤ bO ∧ w2.heap.size ≤ bN) ∧ Hid (BX w2 (w.heap.size) (w.heap.size + 1) (.string a1) (.string m1) (.int .i64 mo1) (.int .i64 ev1) (.int .i64 su1) (.int .i64 mx1) (.slice ta1 tl1 tc1) (.slice ha1 hl1 hc1) (.string iE) (.string aE) (.string mE) (.int .i64 nE) (.int .i64 kE) (.string tE) wx))
 case first =>
  have a0 : w.heap.size < w2.heap.size := HA2.out.1
  have b0 : w.heap.size + 1 < w2.heap.size := HC2.out.1
  have HX := hid_intro (BX.of HA2.out HC2.out)
  have HBW := hid_intro HB2.out
  refine wp_region_held_drew (S := (fun W => Below w2.heap.size w2 W ∧ w.heap.size < W.heap.size ∧ w.heap.size + 1 < W.heap.size ∧ W.cell? ⟨w.heap.size, 0, none⟩ = some (.string a1) ∧ W.cell? ⟨w.heap.size, 1, none⟩ = some (.string m1) ∧ W.cell? ⟨w.heap.size, 2, none⟩ = some (.int .i64 mo1) ∧ W.cell? ⟨w.heap.size, 3, none⟩ = some (.int .i64 ev1) ∧ W.cell? ⟨w.heap.size, 4, none⟩ = some (.int .i64 su1) ∧ W.cell? ⟨w.heap.size, 5, none⟩ = some (.int .i64 mx1) ∧ W.cell? ⟨w.heap.size, 6, none⟩ = some (.slice ta1 tl1 tc1) ∧ W.cell? ⟨w.heap.size, 7, none⟩ = some (.slice ha1 hl1 hc1) ∧ W.cell? ⟨w.heap.size + 1, 0, none⟩ = some (.string iE) ∧ W.cell? ⟨w.heap.size + 1, 1, none⟩ = some (.string aE) ∧ W.cell? ⟨w.heap.size + 1, 2, none⟩ = some (.string mE) ∧ W.cell? ⟨w.heap.size + 1, 3, none⟩ = some (.int .i64 nE) ∧ W.cell? ⟨w.heap.size + 1, 4, none⟩ = some (.int .i64 kE) ∧ W.cell? ⟨w.heap.size + 1, 5, none⟩ = some (.string tE))) (by kernel_rfl) HX.out (fun hHeld => ?_)
  have HX2 : Hid (BX w2 (w.heap.size) (w.heap.size + 1) (.string a1) (.string m1) (.int .i64 mo1) (.int .i64 ev1) (.int .i64 su1) (.int .i64 mx1) (.slice ta1 tl1 tc1) (.slice ha1 hl1 hc1) (.string iE) (.string aE) (.string mE) (.int .i64 nE) (.int .i64 kE) (.string tE) w2.drew) := hid_intro HX.out
  clear HX
  generalize w2.drew = kd at *
  refine tk (i := 0) (oi := { dst := some 23, op := Op.load 25 (Operand.tmp 2), type := 25, pos := "exact.go:2661", after := #[], guard := none }) (v := ?_) ?_ ?_
  rotate_left
  ·(intro w hSw; (try dsimp only at hSw); go_simp) <;> with_reducible rfl
  try simp only [Act.put, SL]
  refine tk (i := 2) (oi := { dst := some 25, op := Op.load 27 (Operand.tmp 3), type := 27, pos := "exact.go:2661", after := #[], guard := none }) (v := ?_) ?_ ?_
  rotate_left
  ·(intro w hSw; (try dsimp only at hSw); go_simp) <;> with_reducible rfl
  try simp only [Act.put, SL]
  refine wpAnyH_ready (rs := [1, 5]) (by kernel_rfl) (by simp) ?_
  refine AllReadyH.cons (o := { dst := some 24, op := Op.call { callee := Callee.value (Operand.func 8), args := #[Operand.tmp 23], argTypes := #[25] }, type := 32, pos := "exact.go:2661", after := #[{ on := 0, ground := Ground.data }], guard := none }) rfl (fun K hK => ?_) (AllReadyH.cons (o := { dst := some 6, op := Op.alloc 34, type := 0, pos := "exact.go:2661", after := #[], guard := none }) rfl (fun K hK => ?_) AllReadyH.nil)
  ·go_simp
   go_at_call 8
   refine (HU1.out _ (HBW.out.trans ((show BX w2 (w.heap.size) (w.heap.size + 1) (.string a1) (.string m1) (.int .i64 mo1) (.int .i64 ev1) (.int .i64 su1) (.int .i64 mx1) (.slice ta1 tl1 tc1) (.slice ha1 hl1 hc1) (.string iE) (.string aE) (.string mE) (.int .i64 nE) (.int .i64 kE) (.string tE) kd from HX2.out).1.mono HBW.out.size))).mono ?_
   rintro e u1 ⟨g1x, h1x, rfl, hT1, hq1⟩
   try go_wp2_with fail
   have hh1 := BX.below (show BX w2 (w.heap.size) (w.heap.size + 1) (.string a1) (.string m1) (.int .i64 mo1) (.int .i64 ev1) (.int .i64 su1) (.int .i64 mx1) (.slice ta1 tl1 tc1) (.slice ha1 hl1 hc1) (.string iE) (.string aE) (.string mE) (.int .i64 nE) (.int .i64 kE) (.string tE) kd from HX2.out) hq1
   refine hK.out _ _ hh1 (fun _ => ?_)
   clear hK K
   try simp only [Act.put, SL]
   refine wpAnyH_ready (rs := [3, 5]) (by kernel_rfl) (by simp) ?_
   refine AllReadyH.cons (o := { dst := some 26, op := Op.call { callee := Callee.value (Operand.func 9), args := #[Operand.tmp 25], argTypes := #[27] }, type := 37, pos := "exact.go:2661", after := #[{ on := 2, ground := Ground.data }, { on := 1, ground := Ground.chain }], guard := none }) rfl (fun K hK => ?_) (AllReadyH.cons (o := { dst := some 6, op := Op.alloc 34, type := 0, pos := "exact.go:2661", after := #[], guard := none }) rfl (fun K hK => ?_) AllReadyH.nil)
   ·go_simp
    go_at_call 9
    refine (HU2.out _).mono ?_
    rintro e u2 ⟨rfl, hq2⟩
    try go_wp2_with fail
    have hh2 := BX.below (show BX w2 (w.heap.size) (w.heap.size + 1) (.string a1) (.string m1) (.int .i64 mo1) (.int .i64 ev1) (.int .i64 su1) (.int .i64 mx1) (.slice ta1 tl1 tc1) (.slice ha1 hl1 hc1) (.string iE) (.string aE) (.string mE) (.int .i64 nE) (.int .i64 kE) (.string tE) u1 from hh1) hq2
    have hT1_2 := HK1.out _ _ _ _ _ _  hT1 hq2
    refine hK.out _ _ hh2 (fun _ => ?_)
    clear hK K
    try simp only [Act.put, SL]
    refine wpAnyH_ready (rs := [4, 5]) (by kernel_rfl) (by simp) ?_
    refine AllReadyH.cons (o := { dst := some 27, op := Op.call { callee := Callee.value (Operand.func 7), args := #[Operand.tmp 24, Operand.tmp 26], argTypes := #[32, 37] }, type := 34, pos := "exact.go:2661", after := #[{ on := 1, ground := Ground.data }, { on := 3, ground := Ground.data }, { on := 3, ground := Ground.chain }], guard := none }) rfl (fun K hK => ?_) (AllReadyH.cons (o := { dst := some 6, op := Op.alloc 34, type := 0, pos := "exact.go:2661", after := #[], guard := none }) rfl (fun K hK => ?_) AllReadyH.nil)
    ·go_simp
     go_at_call 7
     refine (HS.out _ _ _ _ _ hT1_2).mono ?_
     rintro e u3 ⟨t0, c0, h0, d0, rfl, hN, hq3⟩
     try go_wp2_with fail
     have hbn : w2.heap.size ≤ u2.heap.size := (show BX w2 (w.heap.size) (w.heap.size + 1) (.string a1) (.string m1) (.int .i64 mo1) (.int .i64 ev1) (.int .i64 su1) (.int .i64 mx1) (.slice ta1 tl1 tc1) (.slice ha1 hl1 hc1) (.string iE) (.string aE) (.string mE) (.int .i64 nE) (.int .i64 kE) (.string tE) u2 from hh2).1.size
     have hh3 := BX.below (show BX w2 (w.heap.size) (w.heap.size + 1) (.string a1) (.string m1) (.int .i64 mo1) (.int .i64 ev1) (.int .i64 su1) (.int .i64 mx1) (.slice ta1 tl1 tc1) (.slice ha1 hl1 hc1) (.string iE) (.string aE) (.string mE) (.int .i64 nE) (.int .i64 kE) (.string tE) u2 from hh2) hq3
     have hT1_3 := HK1.out _ _ _ _ _ _  hT1_2 hq3
     refine hK.out _ _ hh3 (fun _ => ?_)
     clear hK K
     try simp only [Act.put, SL]
     refine wpAnyH_ready (rs := [5]) (by kernel_rfl) (by simp) ?_
     refine AllReadyH.cons (o := { dst := some 6, op := Op.alloc 34, type := 0, pos := "exact.go:2661", after := #[], guard := none }) rfl (fun K hK => ?_) AllReadyH.nil
     go_simp
     try go_wp2_with fail
     have hlo : w2.heap.size ≤ u3.heap.size := (show BX w2 (w.heap.size) (w.heap.size + 1) (.string a1) (.string m1) (.int .i64 mo1) (.int .i64 ev1) (.int .i64 su1) (.int .i64 mx1) (.slice ta1 tl1 tc1) (.slice ha1 hl1 hc1) (.string iE) (.string aE) (.string mE) (.int .i64 nE) (.int .i64 kE) (.string tE) u3 from hh3).1.size
     have hrel : u3.heap.size < u2.heap.size ∨ u3.heap.size ≤ u3.heap.size := .inr (by first | exact Nat.le_refl _ | omega)
     have hh4 := BX.below (show BX w2 (w.heap.size) (w.heap.size + 1) (.string a1) (.string m1) (.int .i64 mo1) (.int .i64 ev1) (.int .i64 su1) (.int .i64 mx1) (.slice ta1 tl1 tc1) (.slice ha1 hl1 hc1) (.string iE) (.string aE) (.string mE) (.int .i64 nE) (.int .i64 kE) (.string tE) u3 from hh3) ((Below.refl u3.heap.size u3).alloc (Nat.le_refl _) (Obj.cells #[.string ⟨#[]⟩, .string ⟨#[]⟩, .int .i64 0, .int .i64 0, .int .i64 0, .int .i64 0, .slice none 0 0, .slice none 0 0, .int .i64 0] 34))
     have hT1_4 := HK1.out _ _ _ _ _ _  hT1_3 ((Below.refl u3.heap.size u3).alloc (Nat.le_refl _) (Obj.cells #[.string ⟨#[]⟩, .string ⟨#[]⟩, .int .i64 0, .int .i64 0, .int .i64 0, .int .i64 0, .slice none 0 0, .slice none 0 0, .int .i64 0] 34))
     have hN_4 := HNB.out _ _ _ _ _  hN ((Below.refl u3.heap.size u3).alloc (Nat.le_refl _) (Obj.cells #[.string ⟨#[]⟩, .string ⟨#[]⟩, .int .i64 0, .int .i64 0, .int .i64 0, .int .i64 0, .slice none 0 0, .slice none 0 0, .int .i64 0] 34))
     have pt_4 : Pt u3.heap.size 9 (u3.alloc (Obj.cells #[.string ⟨#[]⟩, .string ⟨#[]⟩, .int .i64 0, .int .i64 0, .int .i64 0, .int .i64 0, .slice none 0 0, .slice none 0 0, .int .i64 0] 34)) := StR.pt_new u3 [.string ⟨#[]⟩, .string ⟨#[]⟩, .int .i64 0, .int .i64 0, .int .i64 0, .int .i64 0, .slice none 0 0, .slice none 0 0, .int .i64 0] 34
     refine hK.out _ _ hh4 (fun _ => ?_)
     clear hK K
     try simp only [Act.put, SL]
     generalize (u3.alloc (Obj.cells #[.string ⟨#[]⟩, .string ⟨#[]⟩, .int .i64 0, .int .i64 0, .int .i64 0, .int .i64 0, .slice none 0 0, .slice none 0 0, .int .i64 0] 34)) = k4 at *
     refine wpAnyH_ready (rs := [6]) (by kernel_rfl) (by simp) ?_
     refine AllReadyH.cons (o := { dst := none, op := Op.store 34 (Operand.tmp 6) (Operand.tmp 27), type := 0, pos := "exact.go:2661", after := #[{ on := 5, ground := Ground.data }, { on := 4, ground := Ground.data }, { on := 4, ground := Ground.chain }, { on := 0, ground := Ground.phase }, { on := 1, ground := Ground.phase }, { on := 2, ground := Ground.phase }, { on := 3, ground := Ground.phase }, { on := 4, ground := Ground.phase }, { on := 5, ground := Ground.phase }], guard := none }) rfl (fun K hK => ?_) AllReadyH.nil
     have htn2 : u3.heap.size ≤ k4.heap.size := by first | exact Nat.le_refl _ | (have := (show BX w2 (w.heap.size) (w.heap.size + 1) (.string a1) (.string m1) (.int .i64 mo1) (.int .i64 ev1) (.int .i64 su1) (.int .i64 mx1) (.slice ta1 tl1 tc1) (.slice ha1 hl1 hc1) (.string iE) (.string aE) (.string mE) (.int .i64 nE) (.int .i64 kE) (.string tE) k4 from hh4).1.size; omega) | (have := pt_4.lt; omega)
     have zl5 := pt_4.lt
     obtain ⟨e5_0, y5_0⟩ := pt_4.has 0 (by omega)
     have z5_0 := pt_4.free 0 (by omega)
     obtain ⟨e5_1, y5_1⟩ := pt_4.has 1 (by omega)
     have z5_1 := pt_4.free 1 (by omega)
     obtain ⟨e5_2, y5_2⟩ := pt_4.has 2 (by omega)
     have z5_2 := pt_4.free 2 (by omega)
     obtain ⟨e5_3, y5_3⟩ := pt_4.has 3 (by omega)
     have z5_3 := pt_4.free 3 (by omega)
     obtain ⟨e5_4, y5_4⟩ := pt_4.has 4 (by omega)
     have z5_4 := pt_4.free 4 (by omega)
     obtain ⟨e5_5, y5_5⟩ := pt_4.has 5 (by omega)
     have z5_5 := pt_4.free 5 (by omega)
     obtain ⟨e5_6, y5_6⟩ := pt_4.has 6 (by omega)
     have z5_6 := pt_4.free 6 (by omega)
     obtain ⟨e5_7, y5_7⟩ := pt_4.has 7 (by omega)
     have z5_7 := pt_4.free 7 (by omega)
     obtain ⟨e5_8, y5_8⟩ := pt_4.has 8 (by omega)
     have z5_8 := pt_4.free 8 (by omega)
     go_simp
     try go_wp2_with fail
     have hg5 := StR.stL_grown u3.heap.size [.string a, .string m, .int .i64 mo, .int .i64 ev, .int .i64 su, .int .i64 mx, .slice t0 tl c0, .slice h0 hl d0, .int .i64 cd] 0 k4
     have hbO := StR.stL_blk (vs := [.string a, .string m, .int .i64 mo, .int .i64 ev, .int .i64 su, .int .i64 mx, .slice t0 tl c0, .slice h0 hl d0, .int .i64 cd]) (W := k4) pt_4 (by simp)
     have hh5 := BX.grown (show BX w2 (w.heap.size) (w.heap.size + 1) (.string a1) (.string m1) (.int .i64 mo1) (.int .i64 ev1) (.int .i64 su1) (.int .i64 mx1) (.slice ta1 tl1 tc1) (.slice ha1 hl1 hc1) (.string iE) (.string aE) (.string mE) (.int .i64 nE) (.int .i64 kE) (.string tE) k4 from hh4) hlo a0 b0 hg5
     have hNn := HNG.out _ _ _ _ _ _ hN_4 hg5 hrel
     have hsz := Nat.le_trans htn2 hg5.size
     have hpos := And.intro hrel (And.intro hlo hbn)
     simp only [StR.stL, Nat.zero_add, Nat.reduceAdd] at hh5 hbO hNn hsz
     refine hK.out _ _ hh5 (fun _ => ?_)
     clear hK K
     try simp only [Act.put, SL]
     generalize (((((((((k4.setCell ⟨u3.heap.size, 0, none⟩ (.string a)).setCell ⟨u3.heap.size, 1, none⟩ (.string m)).setCell ⟨u3.heap.size, 2, none⟩ (.int .i64 mo)).setCell ⟨u3.heap.size, 3, none⟩ (.int .i64 ev)).setCell ⟨u3.heap.size, 4, none⟩ (.int .i64 su)).setCell ⟨u3.heap.size, 5, none⟩ (.int .i64 mx)).setCell ⟨u3.heap.size, 6, none⟩ (.slice t0 tl c0)).setCell ⟨u3.heap.size, 7, none⟩ (.slice h0 hl d0)).setCell ⟨u3.heap.size, 8, none⟩ (.int .i64 cd)) = k5 at *
     refine wpAnyH_done (by kernel_rfl) ?_ _
     have F1 := hid_intro hbO
     have F2 := hid_intro hNn
     have F3 := hid_intro hsz
     have F5 := hid_intro hpos
     have F4 := hid_intro (show BX w2 (w.heap.size) (w.heap.size + 1) (.string a1) (.string m1) (.int .i64 mo1) (.int .i64 ev1) (.int .i64 su1) (.int .i64 mx1) (.slice ta1 tl1 tc1) (.slice ha1 hl1 hc1) (.string iE) (.string aE) (.string mE) (.int .i64 nE) (.int .i64 kE) (.string tE) k5 from hh5)
     try clear y5_8
     try clear y5_7
     try clear y5_6
     try clear y5_5
     try clear y5_4
     try clear y5_3
     try clear y5_2
     try clear y5_1
     try clear y5_0
     try clear hpos
     try clear hsz
     try clear hNn
     try clear hh5
     try clear hbO
     try clear hg5
     try clear z5_8
     try clear z5_7
     try clear z5_6
     try clear z5_5
     try clear z5_4
     try clear z5_3
     try clear z5_2
     try clear z5_1
     try clear z5_0
     try clear zl5
     try clear htn2
     try clear pt_4
     try clear hN_4
     try clear hT1_4
     try clear hh4
     try clear hrel
     try clear hlo
     try clear hq3
     try clear hN
     try clear hT1_3
     try clear hh3
     try clear hbn
     try clear hq2
     try clear hT1_2
     try clear hh2
     try clear hq1
     try clear hT1
     try clear hh1
     go_wp2_with fail
     go_meet
     case rel => exact ⟨_, _, _, _, _, _, _, rfl, F1, F2, F3, F5, F4⟩
    ·go_simp
     try go_wp2_with fail
     have hlo : w2.heap.size ≤ u2.heap.size := (show BX w2 (w.heap.size) (w.heap.size + 1) (.string a1) (.string m1) (.int .i64 mo1) (.int .i64 ev1) (.int .i64 su1) (.int .i64 mx1) (.slice ta1 tl1 tc1) (.slice ha1 hl1 hc1) (.string iE) (.string aE) (.string mE) (.int .i64 nE) (.int .i64 kE) (.string tE) u2 from hh2).1.size
     have hh3 := BX.below (show BX w2 (w.heap.size) (w.heap.size + 1) (.string a1) (.string m1) (.int .i64 mo1) (.int .i64 ev1) (.int .i64 su1) (.int .i64 mx1) (.slice ta1 tl1 tc1) (.slice ha1 hl1 hc1) (.string iE) (.string aE) (.string mE) (.int .i64 nE) (.int .i64 kE) (.string tE) u2 from hh2) ((Below.refl u2.heap.size u2).alloc (Nat.le_refl _) (Obj.cells #[.string ⟨#[]⟩, .string ⟨#[]⟩, .int .i64 0, .int .i64 0, .int .i64 0, .int .i64 0, .slice none 0 0, .slice none 0 0, .int .i64 0] 34))
     have hT1_3 := HK1.out _ _ _ _ _ _  hT1_2 ((Below.refl u2.heap.size u2).alloc (Nat.le_refl _) (Obj.cells #[.string ⟨#[]⟩, .string ⟨#[]⟩, .int .i64 0, .int .i64 0, .int .i64 0, .int .i64 0, .slice none 0 0, .slice none 0 0, .int .i64 0] 34))
     have pt_3 : Pt u2.heap.size 9 (u2.alloc (Obj.cells #[.string ⟨#[]⟩, .string ⟨#[]⟩, .int .i64 0, .int .i64 0, .int .i64 0, .int .i64 0, .slice none 0 0, .slice none 0 0, .int .i64 0] 34)) := StR.pt_new u2 [.string ⟨#[]⟩, .string ⟨#[]⟩, .int .i64 0, .int .i64 0, .int .i64 0, .int .i64 0, .slice none 0 0, .slice none 0 0, .int .i64 0] 34
     refine hK.out _ _ hh3 (fun _ => ?_)
     clear hK K
     try simp only [Act.put, SL]
     generalize (u2.alloc (Obj.cells #[.string ⟨#[]⟩, .string ⟨#[]⟩, .int .i64 0, .int .i64 0, .int .i64 0, .int .i64 0, .slice none 0 0, .slice none 0 0, .int .i64 0] 34)) = k3 at *
     refine wpAnyH_ready (rs := [4]) (by kernel_rfl) (by simp) ?_
     refine AllReadyH.cons (o := { dst := some 27, op := Op.call { callee := Callee.value (Operand.func 7), args := #[Operand.tmp 24, Operand.tmp 26], argTypes := #[32, 37] }, type := 34, pos := "exact.go:2661", after := #[{ on := 1, ground := Ground.data }, { on := 3, ground := Ground.data }, { on := 3, ground := Ground.chain }], guard := none }) rfl (fun K hK => ?_) AllReadyH.nil
     go_simp
     go_at_call 7
     refine (HS.out _ _ _ _ _ hT1_3).mono ?_
     rintro e u4 ⟨t0, c0, h0, d0, rfl, hN, hq4⟩
     try go_wp2_with fail
     have hrel : u2.heap.size < k3.heap.size ∨ u4.heap.size ≤ u2.heap.size := .inl pt_3.lt
     have hbn : w2.heap.size ≤ k3.heap.size := (show BX w2 (w.heap.size) (w.heap.size + 1) (.string a1) (.string m1) (.int .i64 mo1) (.int .i64 ev1) (.int .i64 su1) (.int .i64 mx1) (.slice ta1 tl1 tc1) (.slice ha1 hl1 hc1) (.string iE) (.string aE) (.string mE) (.int .i64 nE) (.int .i64 kE) (.string tE) k3 from hh3).1.size
     have hh4 := BX.below (show BX w2 (w.heap.size) (w.heap.size + 1) (.string a1) (.string m1) (.int .i64 mo1) (.int .i64 ev1) (.int .i64 su1) (.int .i64 mx1) (.slice ta1 tl1 tc1) (.slice ha1 hl1 hc1) (.string iE) (.string aE) (.string mE) (.int .i64 nE) (.int .i64 kE) (.string tE) k3 from hh3) hq4
     have hT1_4 := HK1.out _ _ _ _ _ _  hT1_3 hq4
     have pt_4 := pt_3.below hq4
     refine hK.out _ _ hh4 (fun _ => ?_)
     clear hK K
     try simp only [Act.put, SL]
     refine wpAnyH_ready (rs := [6]) (by kernel_rfl) (by simp) ?_
     refine AllReadyH.cons (o := { dst := none, op := Op.store 34 (Operand.tmp 6) (Operand.tmp 27), type := 0, pos := "exact.go:2661", after := #[{ on := 5, ground := Ground.data }, { on := 4, ground := Ground.data }, { on := 4, ground := Ground.chain }, { on := 0, ground := Ground.phase }, { on := 1, ground := Ground.phase }, { on := 2, ground := Ground.phase }, { on := 3, ground := Ground.phase }, { on := 4, ground := Ground.phase }, { on := 5, ground := Ground.phase }], guard := none }) rfl (fun K hK => ?_) AllReadyH.nil
     have htn2 : u4.heap.size ≤ u4.heap.size := by first | exact Nat.le_refl _ | (have := (show BX w2 (w.heap.size) (w.heap.size + 1) (.string a1) (.string m1) (.int .i64 mo1) (.int .i64 ev1) (.int .i64 su1) (.int .i64 mx1) (.slice ta1 tl1 tc1) (.slice ha1 hl1 hc1) (.string iE) (.string aE) (.string mE) (.int .i64 nE) (.int .i64 kE) (.string tE) u4 from hh4).1.size; omega) | (have := pt_4.lt; omega)
     have zl5 := pt_4.lt
     obtain ⟨e5_0, y5_0⟩ := pt_4.has 0 (by omega)
     have z5_0 := pt_4.free 0 (by omega)
     obtain ⟨e5_1, y5_1⟩ := pt_4.has 1 (by omega)
     have z5_1 := pt_4.free 1 (by omega)
     obtain ⟨e5_2, y5_2⟩ := pt_4.has 2 (by omega)
     have z5_2 := pt_4.free 2 (by omega)
     obtain ⟨e5_3, y5_3⟩ := pt_4.has 3 (by omega)
     have z5_3 := pt_4.free 3 (by omega)
     obtain ⟨e5_4, y5_4⟩ := pt_4.has 4 (by omega)
     have z5_4 := pt_4.free 4 (by omega)
     obtain ⟨e5_5, y5_5⟩ := pt_4.has 5 (by omega)
     have z5_5 := pt_4.free 5 (by omega)
     obtain ⟨e5_6, y5_6⟩ := pt_4.has 6 (by omega)
     have z5_6 := pt_4.free 6 (by omega)
     obtain ⟨e5_7, y5_7⟩ := pt_4.has 7 (by omega)
     have z5_7 := pt_4.free 7 (by omega)
     obtain ⟨e5_8, y5_8⟩ := pt_4.has 8 (by omega)
     have z5_8 := pt_4.free 8 (by omega)
     go_simp
     try go_wp2_with fail
     have hg5 := StR.stL_grown u2.heap.size [.string a, .string m, .int .i64 mo, .int .i64 ev, .int .i64 su, .int .i64 mx, .slice t0 tl c0, .slice h0 hl d0, .int .i64 cd] 0 u4
     have hbO := StR.stL_blk (vs := [.string a, .string m, .int .i64 mo, .int .i64 ev, .int .i64 su, .int .i64 mx, .slice t0 tl c0, .slice h0 hl d0, .int .i64 cd]) (W := u4) pt_4 (by simp)
     have hh5 := BX.grown (show BX w2 (w.heap.size) (w.heap.size + 1) (.string a1) (.string m1) (.int .i64 mo1) (.int .i64 ev1) (.int .i64 su1) (.int .i64 mx1) (.slice ta1 tl1 tc1) (.slice ha1 hl1 hc1) (.string iE) (.string aE) (.string mE) (.int .i64 nE) (.int .i64 kE) (.string tE) u4 from hh4) hlo a0 b0 hg5
     have hNn := HNG.out _ _ _ _ _ _ hN hg5 hrel
     have hsz := Nat.le_trans htn2 hg5.size
     have hpos := And.intro hrel (And.intro hlo hbn)
     simp only [StR.stL, Nat.zero_add, Nat.reduceAdd] at hh5 hbO hNn hsz
     refine hK.out _ _ hh5 (fun _ => ?_)
     clear hK K
     try simp only [Act.put, SL]
     generalize (((((((((u4.setCell ⟨u2.heap.size, 0, none⟩ (.string a)).setCell ⟨u2.heap.size, 1, none⟩ (.string m)).setCell ⟨u2.heap.size, 2, none⟩ (.int .i64 mo)).setCell ⟨u2.heap.size, 3, none⟩ (.int .i64 ev)).setCell ⟨u2.heap.size, 4, none⟩ (.int .i64 su)).setCell ⟨u2.heap.size, 5, none⟩ (.int .i64 mx)).setCell ⟨u2.heap.size, 6, none⟩ (.slice t0 tl c0)).setCell ⟨u2.heap.size, 7, none⟩ (.slice h0 hl d0)).setCell ⟨u2.heap.size, 8, none⟩ (.int .i64 cd)) = k5 at *
     refine wpAnyH_done (by kernel_rfl) ?_ _
     have F1 := hid_intro hbO
     have F2 := hid_intro hNn
     have F3 := hid_intro hsz
     have F5 := hid_intro hpos
     have F4 := hid_intro (show BX w2 (w.heap.size) (w.heap.size + 1) (.string a1) (.string m1) (.int .i64 mo1) (.int .i64 ev1) (.int .i64 su1) (.int .i64 mx1) (.slice ta1 tl1 tc1) (.slice ha1 hl1 hc1) (.string iE) (.string aE) (.string mE) (.int .i64 nE) (.int .i64 kE) (.string tE) k5 from hh5)
     try clear y5_8
     try clear y5_7
     try clear y5_6
     try clear y5_5
     try clear y5_4
     try clear y5_3
     try clear y5_2
     try clear y5_1
     try clear y5_0
     try clear hpos
     try clear hsz
     try clear hNn
     try clear hh5
     try clear hbO
     try clear hg5
     try clear z5_8
     try clear z5_7
     try clear z5_6
     try clear z5_5
     try clear z5_4
     try clear z5_3
     try clear z5_2
     try clear z5_1
     try clear z5_0
     try clear zl5
     try clear htn2
     try clear hq4
     try clear hN
     try clear pt_4
     try clear hT1_4
     try clear hh4
     try clear hbn
     try clear hrel
     try clear pt_3
     try clear hT1_3
     try clear hh3
     try clear hlo
     try clear hq2
     try clear hT1_2
     try clear hh2
     try clear hq1
     try clear hT1
     try clear hh1
     go_wp2_with fail
     go_meet
     case rel => exact ⟨_, _, _, _, _, _, _, rfl, F1, F2, F3, F5, F4⟩
   ·go_simp
    try go_wp2_with fail
    have hlo : w2.heap.size ≤ u1.heap.size := (show BX w2 (w.heap.size) (w.heap.size + 1) (.string a1) (.string m1) (.int .i64 mo1) (.int .i64 ev1) (.int .i64 su1) (.int .i64 mx1) (.slice ta1 tl1 tc1) (.slice ha1 hl1 hc1) (.string iE) (.string aE) (.string mE) (.int .i64 nE) (.int .i64 kE) (.string tE) u1 from hh1).1.size
    have hh2 := BX.below (show BX w2 (w.heap.size) (w.heap.size + 1) (.string a1) (.string m1) (.int .i64 mo1) (.int .i64 ev1) (.int .i64 su1) (.int .i64 mx1) (.slice ta1 tl1 tc1) (.slice ha1 hl1 hc1) (.string iE) (.string aE) (.string mE) (.int .i64 nE) (.int .i64 kE) (.string tE) u1 from hh1) ((Below.refl u1.heap.size u1).alloc (Nat.le_refl _) (Obj.cells #[.string ⟨#[]⟩, .string ⟨#[]⟩, .int .i64 0, .int .i64 0, .int .i64 0, .int .i64 0, .slice none 0 0, .slice none 0 0, .int .i64 0] 34))
    have hT1_2 := HK1.out _ _ _ _ _ _  hT1 ((Below.refl u1.heap.size u1).alloc (Nat.le_refl _) (Obj.cells #[.string ⟨#[]⟩, .string ⟨#[]⟩, .int .i64 0, .int .i64 0, .int .i64 0, .int .i64 0, .slice none 0 0, .slice none 0 0, .int .i64 0] 34))
    have pt_2 : Pt u1.heap.size 9 (u1.alloc (Obj.cells #[.string ⟨#[]⟩, .string ⟨#[]⟩, .int .i64 0, .int .i64 0, .int .i64 0, .int .i64 0, .slice none 0 0, .slice none 0 0, .int .i64 0] 34)) := StR.pt_new u1 [.string ⟨#[]⟩, .string ⟨#[]⟩, .int .i64 0, .int .i64 0, .int .i64 0, .int .i64 0, .slice none 0 0, .slice none 0 0, .int .i64 0] 34
    refine hK.out _ _ hh2 (fun _ => ?_)
    clear hK K
    try simp only [Act.put, SL]
    generalize (u1.alloc (Obj.cells #[.string ⟨#[]⟩, .string ⟨#[]⟩, .int .i64 0, .int .i64 0, .int .i64 0, .int .i64 0, .slice none 0 0, .slice none 0 0, .int .i64 0] 34)) = k2 at *
    refine wpAnyH_ready (rs := [3]) (by kernel_rfl) (by simp) ?_
    refine AllReadyH.cons (o := { dst := some 26, op := Op.call { callee := Callee.value (Operand.func 9), args := #[Operand.tmp 25], argTypes := #[27] }, type := 37, pos := "exact.go:2661", after := #[{ on := 2, ground := Ground.data }, { on := 1, ground := Ground.chain }], guard := none }) rfl (fun K hK => ?_) AllReadyH.nil
    go_simp
    go_at_call 9
    refine (HU2.out _).mono ?_
    rintro e u3 ⟨rfl, hq3⟩
    try go_wp2_with fail
    have hh3 := BX.below (show BX w2 (w.heap.size) (w.heap.size + 1) (.string a1) (.string m1) (.int .i64 mo1) (.int .i64 ev1) (.int .i64 su1) (.int .i64 mx1) (.slice ta1 tl1 tc1) (.slice ha1 hl1 hc1) (.string iE) (.string aE) (.string mE) (.int .i64 nE) (.int .i64 kE) (.string tE) k2 from hh2) hq3
    have hT1_3 := HK1.out _ _ _ _ _ _  hT1_2 hq3
    have pt_3 := pt_2.below hq3
    refine hK.out _ _ hh3 (fun _ => ?_)
    clear hK K
    try simp only [Act.put, SL]
    refine wpAnyH_ready (rs := [4]) (by kernel_rfl) (by simp) ?_
    refine AllReadyH.cons (o := { dst := some 27, op := Op.call { callee := Callee.value (Operand.func 7), args := #[Operand.tmp 24, Operand.tmp 26], argTypes := #[32, 37] }, type := 34, pos := "exact.go:2661", after := #[{ on := 1, ground := Ground.data }, { on := 3, ground := Ground.data }, { on := 3, ground := Ground.chain }], guard := none }) rfl (fun K hK => ?_) AllReadyH.nil
    go_simp
    go_at_call 7
    refine (HS.out _ _ _ _ _ hT1_3).mono ?_
    rintro e u4 ⟨t0, c0, h0, d0, rfl, hN, hq4⟩
    try go_wp2_with fail
    have hrel : u1.heap.size < u3.heap.size ∨ u4.heap.size ≤ u1.heap.size := .inl pt_3.lt
    have hbn : w2.heap.size ≤ u3.heap.size := (show BX w2 (w.heap.size) (w.heap.size + 1) (.string a1) (.string m1) (.int .i64 mo1) (.int .i64 ev1) (.int .i64 su1) (.int .i64 mx1) (.slice ta1 tl1 tc1) (.slice ha1 hl1 hc1) (.string iE) (.string aE) (.string mE) (.int .i64 nE) (.int .i64 kE) (.string tE) u3 from hh3).1.size
    have hh4 := BX.below (show BX w2 (w.heap.size) (w.heap.size + 1) (.string a1) (.string m1) (.int .i64 mo1) (.int .i64 ev1) (.int .i64 su1) (.int .i64 mx1) (.slice ta1 tl1 tc1) (.slice ha1 hl1 hc1) (.string iE) (.string aE) (.string mE) (.int .i64 nE) (.int .i64 kE) (.string tE) u3 from hh3) hq4
    have hT1_4 := HK1.out _ _ _ _ _ _  hT1_3 hq4
    have pt_4 := pt_3.below hq4
    refine hK.out _ _ hh4 (fun _ => ?_)
    clear hK K
    try simp only [Act.put, SL]
    refine wpAnyH_ready (rs := [6]) (by kernel_rfl) (by simp) ?_
    refine AllReadyH.cons (o := { dst := none, op := Op.store 34 (Operand.tmp 6) (Operand.tmp 27), type := 0, pos := "exact.go:2661", after := #[{ on := 5, ground := Ground.data }, { on := 4, ground := Ground.data }, { on := 4, ground := Ground.chain }, { on := 0, ground := Ground.phase }, { on := 1, ground := Ground.phase }, { on := 2, ground := Ground.phase }, { on := 3, ground := Ground.phase }, { on := 4, ground := Ground.phase }, { on := 5, ground := Ground.phase }], guard := none }) rfl (fun K hK => ?_) AllReadyH.nil
    have htn2 : u4.heap.size ≤ u4.heap.size := by first | exact Nat.le_refl _ | (have := (show BX w2 (w.heap.size) (w.heap.size + 1) (.string a1) (.string m1) (.int .i64 mo1) (.int .i64 ev1) (.int .i64 su1) (.int .i64 mx1) (.slice ta1 tl1 tc1) (.slice ha1 hl1 hc1) (.string iE) (.string aE) (.string mE) (.int .i64 nE) (.int .i64 kE) (.string tE) u4 from hh4).1.size; omega) | (have := pt_4.lt; omega)
    have zl5 := pt_4.lt
    obtain ⟨e5_0, y5_0⟩ := pt_4.has 0 (by omega)
    have z5_0 := pt_4.free 0 (by omega)
    obtain ⟨e5_1, y5_1⟩ := pt_4.has 1 (by omega)
    have z5_1 := pt_4.free 1 (by omega)
    obtain ⟨e5_2, y5_2⟩ := pt_4.has 2 (by omega)
    have z5_2 := pt_4.free 2 (by omega)
    obtain ⟨e5_3, y5_3⟩ := pt_4.has 3 (by omega)
    have z5_3 := pt_4.free 3 (by omega)
    obtain ⟨e5_4, y5_4⟩ := pt_4.has 4 (by omega)
    have z5_4 := pt_4.free 4 (by omega)
    obtain ⟨e5_5, y5_5⟩ := pt_4.has 5 (by omega)
    have z5_5 := pt_4.free 5 (by omega)
    obtain ⟨e5_6, y5_6⟩ := pt_4.has 6 (by omega)
    have z5_6 := pt_4.free 6 (by omega)
    obtain ⟨e5_7, y5_7⟩ := pt_4.has 7 (by omega)
    have z5_7 := pt_4.free 7 (by omega)
    obtain ⟨e5_8, y5_8⟩ := pt_4.has 8 (by omega)
    have z5_8 := pt_4.free 8 (by omega)
    go_simp
    try go_wp2_with fail
    have hg5 := StR.stL_grown u1.heap.size [.string a, .string m, .int .i64 mo, .int .i64 ev, .int .i64 su, .int .i64 mx, .slice t0 tl c0, .slice h0 hl d0, .int .i64 cd] 0 u4
    have hbO := StR.stL_blk (vs := [.string a, .string m, .int .i64 mo, .int .i64 ev, .int .i64 su, .int .i64 mx, .slice t0 tl c0, .slice h0 hl d0, .int .i64 cd]) (W := u4) pt_4 (by simp)
    have hh5 := BX.grown (show BX w2 (w.heap.size) (w.heap.size + 1) (.string a1) (.string m1) (.int .i64 mo1) (.int .i64 ev1) (.int .i64 su1) (.int .i64 mx1) (.slice ta1 tl1 tc1) (.slice ha1 hl1 hc1) (.string iE) (.string aE) (.string mE) (.int .i64 nE) (.int .i64 kE) (.string tE) u4 from hh4) hlo a0 b0 hg5
    have hNn := HNG.out _ _ _ _ _ _ hN hg5 hrel
    have hsz := Nat.le_trans htn2 hg5.size
    have hpos := And.intro hrel (And.intro hlo hbn)
    simp only [StR.stL, Nat.zero_add, Nat.reduceAdd] at hh5 hbO hNn hsz
    refine hK.out _ _ hh5 (fun _ => ?_)
    clear hK K
    try simp only [Act.put, SL]
    generalize (((((((((u4.setCell ⟨u1.heap.size, 0, none⟩ (.string a)).setCell ⟨u1.heap.size, 1, none⟩ (.string m)).setCell ⟨u1.heap.size, 2, none⟩ (.int .i64 mo)).setCell ⟨u1.heap.size, 3, none⟩ (.int .i64 ev)).setCell ⟨u1.heap.size, 4, none⟩ (.int .i64 su)).setCell ⟨u1.heap.size, 5, none⟩ (.int .i64 mx)).setCell ⟨u1.heap.size, 6, none⟩ (.slice t0 tl c0)).setCell ⟨u1.heap.size, 7, none⟩ (.slice h0 hl d0)).setCell ⟨u1.heap.size, 8, none⟩ (.int .i64 cd)) = k5 at *
    refine wpAnyH_done (by kernel_rfl) ?_ _
    have F1 := hid_intro hbO
    have F2 := hid_intro hNn
    have F3 := hid_intro hsz
    have F5 := hid_intro hpos
    have F4 := hid_intro (show BX w2 (w.heap.size) (w.heap.size + 1) (.string a1) (.string m1) (.int .i64 mo1) (.int .i64 ev1) (.int .i64 su1) (.int .i64 mx1) (.slice ta1 tl1 tc1) (.slice ha1 hl1 hc1) (.string iE) (.string aE) (.string mE) (.int .i64 nE) (.int .i64 kE) (.string tE) k5 from hh5)
    try clear y5_8
    try clear y5_7
    try clear y5_6
    try clear y5_5
    try clear y5_4
    try clear y5_3
    try clear y5_2
    try clear y5_1
    try clear y5_0
    try clear hpos
    try clear hsz
    try clear hNn
    try clear hh5
    try clear hbO
    try clear hg5
    try clear z5_8
    try clear z5_7
    try clear z5_6
    try clear z5_5
    try clear z5_4
    try clear z5_3
    try clear z5_2
    try clear z5_1
    try clear z5_0
    try clear zl5
    try clear htn2
    try clear hq4
    try clear hN
    try clear pt_4
    try clear hT1_4
    try clear hh4
    try clear hbn
    try clear hrel
    try clear hq3
    try clear pt_3
    try clear hT1_3
    try clear hh3
    try clear pt_2
    try clear hT1_2
    try clear hh2
    try clear hlo
    try clear hq1
    try clear hT1
    try clear hh1
    go_wp2_with fail
    go_meet
    case rel => exact ⟨_, _, _, _, _, _, _, rfl, F1, F2, F3, F5, F4⟩
  ·go_simp
   try go_wp2_with fail
   have hlo : w2.heap.size ≤ kd.heap.size := (show BX w2 (w.heap.size) (w.heap.size + 1) (.string a1) (.string m1) (.int .i64 mo1) (.int .i64 ev1) (.int .i64 su1) (.int .i64 mx1) (.slice ta1 tl1 tc1) (.slice ha1 hl1 hc1) (.string iE) (.string aE) (.string mE) (.int .i64 nE) (.int .i64 kE) (.string tE) kd from HX2.out).1.size
   have hh1 := BX.below (show BX w2 (w.heap.size) (w.heap.size + 1) (.string a1) (.string m1) (.int .i64 mo1) (.int .i64 ev1) (.int .i64 su1) (.int .i64 mx1) (.slice ta1 tl1 tc1) (.slice ha1 hl1 hc1) (.string iE) (.string aE) (.string mE) (.int .i64 nE) (.int .i64 kE) (.string tE) kd from HX2.out) ((Below.refl kd.heap.size kd).alloc (Nat.le_refl _) (Obj.cells #[.string ⟨#[]⟩, .string ⟨#[]⟩, .int .i64 0, .int .i64 0, .int .i64 0, .int .i64 0, .slice none 0 0, .slice none 0 0, .int .i64 0] 34))
   have pt_1 : Pt kd.heap.size 9 (kd.alloc (Obj.cells #[.string ⟨#[]⟩, .string ⟨#[]⟩, .int .i64 0, .int .i64 0, .int .i64 0, .int .i64 0, .slice none 0 0, .slice none 0 0, .int .i64 0] 34)) := StR.pt_new kd [.string ⟨#[]⟩, .string ⟨#[]⟩, .int .i64 0, .int .i64 0, .int .i64 0, .int .i64 0, .slice none 0 0, .slice none 0 0, .int .i64 0] 34
   refine hK.out _ _ hh1 (fun _ => ?_)
   clear hK K
   try simp only [Act.put, SL]
   generalize (kd.alloc (Obj.cells #[.string ⟨#[]⟩, .string ⟨#[]⟩, .int .i64 0, .int .i64 0, .int .i64 0, .int .i64 0, .slice none 0 0, .slice none 0 0, .int .i64 0] 34)) = k1 at *
   refine wpAnyH_ready (rs := [1]) (by kernel_rfl) (by simp) ?_
   refine AllReadyH.cons (o := { dst := some 24, op := Op.call { callee := Callee.value (Operand.func 8), args := #[Operand.tmp 23], argTypes := #[25] }, type := 32, pos := "exact.go:2661", after := #[{ on := 0, ground := Ground.data }], guard := none }) rfl (fun K hK => ?_) AllReadyH.nil
   go_simp
   go_at_call 8
   refine (HU1.out _ (HBW.out.trans ((show BX w2 (w.heap.size) (w.heap.size + 1) (.string a1) (.string m1) (.int .i64 mo1) (.int .i64 ev1) (.int .i64 su1) (.int .i64 mx1) (.slice ta1 tl1 tc1) (.slice ha1 hl1 hc1) (.string iE) (.string aE) (.string mE) (.int .i64 nE) (.int .i64 kE) (.string tE) k1 from hh1).1.mono HBW.out.size))).mono ?_
   rintro e u2 ⟨g1x, h1x, rfl, hT1, hq2⟩
   try go_wp2_with fail
   have hh2 := BX.below (show BX w2 (w.heap.size) (w.heap.size + 1) (.string a1) (.string m1) (.int .i64 mo1) (.int .i64 ev1) (.int .i64 su1) (.int .i64 mx1) (.slice ta1 tl1 tc1) (.slice ha1 hl1 hc1) (.string iE) (.string aE) (.string mE) (.int .i64 nE) (.int .i64 kE) (.string tE) k1 from hh1) hq2
   have pt_2 := pt_1.below hq2
   refine hK.out _ _ hh2 (fun _ => ?_)
   clear hK K
   try simp only [Act.put, SL]
   refine wpAnyH_ready (rs := [3]) (by kernel_rfl) (by simp) ?_
   refine AllReadyH.cons (o := { dst := some 26, op := Op.call { callee := Callee.value (Operand.func 9), args := #[Operand.tmp 25], argTypes := #[27] }, type := 37, pos := "exact.go:2661", after := #[{ on := 2, ground := Ground.data }, { on := 1, ground := Ground.chain }], guard := none }) rfl (fun K hK => ?_) AllReadyH.nil
   go_simp
   go_at_call 9
   refine (HU2.out _).mono ?_
   rintro e u3 ⟨rfl, hq3⟩
   try go_wp2_with fail
   have hh3 := BX.below (show BX w2 (w.heap.size) (w.heap.size + 1) (.string a1) (.string m1) (.int .i64 mo1) (.int .i64 ev1) (.int .i64 su1) (.int .i64 mx1) (.slice ta1 tl1 tc1) (.slice ha1 hl1 hc1) (.string iE) (.string aE) (.string mE) (.int .i64 nE) (.int .i64 kE) (.string tE) u2 from hh2) hq3
   have pt_3 := pt_2.below hq3
   have hT1_3 := HK1.out _ _ _ _ _ _  hT1 hq3
   refine hK.out _ _ hh3 (fun _ => ?_)
   clear hK K
   try simp only [Act.put, SL]
   refine wpAnyH_ready (rs := [4]) (by kernel_rfl) (by simp) ?_
   refine AllReadyH.cons (o := { dst := some 27, op := Op.call { callee := Callee.value (Operand.func 7), args := #[Operand.tmp 24, Operand.tmp 26], argTypes := #[32, 37] }, type := 34, pos := "exact.go:2661", after := #[{ on := 1, ground := Ground.data }, { on := 3, ground := Ground.data }, { on := 3, ground := Ground.chain }], guard := none }) rfl (fun K hK => ?_) AllReadyH.nil
   go_simp
   go_at_call 7
   refine (HS.out _ _ _ _ _ hT1_3).mono ?_
   rintro e u4 ⟨t0, c0, h0, d0, rfl, hN, hq4⟩
   try go_wp2_with fail
   have hrel : kd.heap.size < u3.heap.size ∨ u4.heap.size ≤ kd.heap.size := .inl pt_3.lt
   have hbn : w2.heap.size ≤ u3.heap.size := (show BX w2 (w.heap.size) (w.heap.size + 1) (.string a1) (.string m1) (.int .i64 mo1) (.int .i64 ev1) (.int .i64 su1) (.int .i64 mx1) (.slice ta1 tl1 tc1) (.slice ha1 hl1 hc1) (.string iE) (.string aE) (.string mE) (.int .i64 nE) (.int .i64 kE) (.string tE) u3 from hh3).1.size
   have hh4 := BX.below (show BX w2 (w.heap.size) (w.heap.size + 1) (.string a1) (.string m1) (.int .i64 mo1) (.int .i64 ev1) (.int .i64 su1) (.int .i64 mx1) (.slice ta1 tl1 tc1) (.slice ha1 hl1 hc1) (.string iE) (.string aE) (.string mE) (.int .i64 nE) (.int .i64 kE) (.string tE) u3 from hh3) hq4
   have pt_4 := pt_3.below hq4
   have hT1_4 := HK1.out _ _ _ _ _ _  hT1_3 hq4
   refine hK.out _ _ hh4 (fun _ => ?_)
   clear hK K
   try simp only [Act.put, SL]
   refine wpAnyH_ready (rs := [6]) (by kernel_rfl) (by simp) ?_
   refine AllReadyH.cons (o := { dst := none, op := Op.store 34 (Operand.tmp 6) (Operand.tmp 27), type := 0, pos := "exact.go:2661", after := #[{ on := 5, ground := Ground.data }, { on := 4, ground := Ground.data }, { on := 4, ground := Ground.chain }, { on := 0, ground := Ground.phase }, { on := 1, ground := Ground.phase }, { on := 2, ground := Ground.phase }, { on := 3, ground := Ground.phase }, { on := 4, ground := Ground.phase }, { on := 5, ground := Ground.phase }], guard := none }) rfl (fun K hK => ?_) AllReadyH.nil
   have htn2 : u4.heap.size ≤ u4.heap.size := by first | exact Nat.le_refl _ | (have := (show BX w2 (w.heap.size) (w.heap.size + 1) (.string a1) (.string m1) (.int .i64 mo1) (.int .i64 ev1) (.int .i64 su1) (.int .i64 mx1) (.slice ta1 tl1 tc1) (.slice ha1 hl1 hc1) (.string iE) (.string aE) (.string mE) (.int .i64 nE) (.int .i64 kE) (.string tE) u4 from hh4).1.size; omega) | (have := pt_4.lt; omega)
   have zl5 := pt_4.lt
   obtain ⟨e5_0, y5_0⟩ := pt_4.has 0 (by omega)
   have z5_0 := pt_4.free 0 (by omega)
   obtain ⟨e5_1, y5_1⟩ := pt_4.has 1 (by omega)
   have z5_1 := pt_4.free 1 (by omega)
   obtain ⟨e5_2, y5_2⟩ := pt_4.has 2 (by omega)
   have z5_2 := pt_4.free 2 (by omega)
   obtain ⟨e5_3, y5_3⟩ := pt_4.has 3 (by omega)
   have z5_3 := pt_4.free 3 (by omega)
   obtain ⟨e5_4, y5_4⟩ := pt_4.has 4 (by omega)
   have z5_4 := pt_4.free 4 (by omega)
   obtain ⟨e5_5, y5_5⟩ := pt_4.has 5 (by omega)
   have z5_5 := pt_4.free 5 (by omega)
   obtain ⟨e5_6, y5_6⟩ := pt_4.has 6 (by omega)
   have z5_6 := pt_4.free 6 (by omega)
   obtain ⟨e5_7, y5_7⟩ := pt_4.has 7 (by omega)
   have z5_7 := pt_4.free 7 (by omega)
   obtain ⟨e5_8, y5_8⟩ := pt_4.has 8 (by omega)
   have z5_8 := pt_4.free 8 (by omega)
   go_simp
   try go_wp2_with fail
   have hg5 := StR.stL_grown kd.heap.size [.string a, .string m, .int .i64 mo, .int .i64 ev, .int .i64 su, .int .i64 mx, .slice t0 tl c0, .slice h0 hl d0, .int .i64 cd] 0 u4
   have hbO := StR.stL_blk (vs := [.string a, .string m, .int .i64 mo, .int .i64 ev, .int .i64 su, .int .i64 mx, .slice t0 tl c0, .slice h0 hl d0, .int .i64 cd]) (W := u4) pt_4 (by simp)
   have hh5 := BX.grown (show BX w2 (w.heap.size) (w.heap.size + 1) (.string a1) (.string m1) (.int .i64 mo1) (.int .i64 ev1) (.int .i64 su1) (.int .i64 mx1) (.slice ta1 tl1 tc1) (.slice ha1 hl1 hc1) (.string iE) (.string aE) (.string mE) (.int .i64 nE) (.int .i64 kE) (.string tE) u4 from hh4) hlo a0 b0 hg5
   have hNn := HNG.out _ _ _ _ _ _ hN hg5 hrel
   have hsz := Nat.le_trans htn2 hg5.size
   have hpos := And.intro hrel (And.intro hlo hbn)
   simp only [StR.stL, Nat.zero_add, Nat.reduceAdd] at hh5 hbO hNn hsz
   refine hK.out _ _ hh5 (fun _ => ?_)
   clear hK K
   try simp only [Act.put, SL]
   generalize (((((((((u4.setCell ⟨kd.heap.size, 0, none⟩ (.string a)).setCell ⟨kd.heap.size, 1, none⟩ (.string m)).setCell ⟨kd.heap.size, 2, none⟩ (.int .i64 mo)).setCell ⟨kd.heap.size, 3, none⟩ (.int .i64 ev)).setCell ⟨kd.heap.size, 4, none⟩ (.int .i64 su)).setCell ⟨kd.heap.size, 5, none⟩ (.int .i64 mx)).setCell ⟨kd.heap.size, 6, none⟩ (.slice t0 tl c0)).setCell ⟨kd.heap.size, 7, none⟩ (.slice h0 hl d0)).setCell ⟨kd.heap.size, 8, none⟩ (.int .i64 cd)) = k5 at *
   refine wpAnyH_done (by kernel_rfl) ?_ _
   have F1 := hid_intro hbO
   have F2 := hid_intro hNn
   have F3 := hid_intro hsz
   have F5 := hid_intro hpos
   have F4 := hid_intro (show BX w2 (w.heap.size) (w.heap.size + 1) (.string a1) (.string m1) (.int .i64 mo1) (.int .i64 ev1) (.int .i64 su1) (.int .i64 mx1) (.slice ta1 tl1 tc1) (.slice ha1 hl1 hc1) (.string iE) (.string aE) (.string mE) (.int .i64 nE) (.int .i64 kE) (.string tE) k5 from hh5)
   try clear y5_8
   try clear y5_7
   try clear y5_6
   try clear y5_5
   try clear y5_4
   try clear y5_3
   try clear y5_2
   try clear y5_1
   try clear y5_0
   try clear hpos
   try clear hsz
   try clear hNn
   try clear hh5
   try clear hbO
   try clear hg5
   try clear z5_8
   try clear z5_7
   try clear z5_6
   try clear z5_5
   try clear z5_4
   try clear z5_3
   try clear z5_2
   try clear z5_1
   try clear z5_0
   try clear zl5
   try clear htn2
   try clear hq4
   try clear hN
   try clear hT1_4
   try clear pt_4
   try clear hh4
   try clear hbn
   try clear hrel
   try clear hq3
   try clear hT1_3
   try clear pt_3
   try clear hh3
   try clear hq2
   try clear hT1
   try clear pt_2
   try clear hh2
   try clear pt_1
   try clear hh1
   try clear hlo
   go_wp2_with fail
   go_meet
   case rel => exact ⟨_, _, _, _, _, _, _, rfl, F1, F2, F3, F5, F4⟩
 case rest =>
  obtain ⟨wx0, hwx0⟩ : ∃ z, z = wc := ⟨_, rfl⟩
  subst hwx0
  obtain ⟨b6, t0, c0, h0, d0, bN, tN, rfl, H6, HN, HT6, _, HX⟩ := hcut
  have HB3 := hid_intro (HB2.out.trans (HX.out.1.mono HB2.out.size))
  have HA3 : Hid (Blk w.heap.size [.string a1, .string m1, .int .i64 mo1, .int .i64 ev1, .int .i64 su1, .int .i64 mx1, .slice ta1 tl1 tc1, .slice ha1 hl1 hc1] wx0) := hid_intro (HA2.out.below HX.out.1)
  have HC3 : Hid (Blk (w.heap.size + 1) [.string iE, .string aE, .string mE, .int .i64 nE, .int .i64 kE, .string tE] wx0) := hid_intro (HC2.out.below HX.out.1)
  have H63 := H6
  have HN3 := HN
  have HSW : Hid (w.heap.size + 1 < wx0.heap.size) := hid_intro HC3.out.1
  have H6L : Hid (b6 < wx0.heap.size) := hid_intro H63.out.1
  clear HX HB2 HA2 HC2 H6 HN
  have p0 : wx0.cell? ⟨w.heap.size, 0, none⟩ = some (.string a1) := HA3.out.2 0 (by simp)
  have p1 : wx0.cell? ⟨w.heap.size, 1, none⟩ = some (.string m1) := HA3.out.2 1 (by simp)
  have p2 : wx0.cell? ⟨w.heap.size, 2, none⟩ = some (.int .i64 mo1) := HA3.out.2 2 (by simp)
  have p3 : wx0.cell? ⟨w.heap.size, 3, none⟩ = some (.int .i64 ev1) := HA3.out.2 3 (by simp)
  have p4 : wx0.cell? ⟨w.heap.size, 4, none⟩ = some (.int .i64 su1) := HA3.out.2 4 (by simp)
  have p5 : wx0.cell? ⟨w.heap.size, 5, none⟩ = some (.int .i64 mx1) := HA3.out.2 5 (by simp)
  have p6 : wx0.cell? ⟨w.heap.size, 6, none⟩ = some (.slice ta1 tl1 tc1) := HA3.out.2 6 (by simp)
  have p7 : wx0.cell? ⟨w.heap.size, 7, none⟩ = some (.slice ha1 hl1 hc1) := HA3.out.2 7 (by simp)
  have pl := HA3.out.1
  go_wp2_with fail
  refine (HU1.out _ HB3.out).mono ?_
  rintro e w4 ⟨gA, kA, rfl, hT4, hb4⟩
  have HS4 : Hid (wx0.heap.size ≤ w4.heap.size) := hid_intro hb4.size
  have HB4 := hid_intro (HB3.out.trans (hb4.mono HB3.out.size))
  have HA4 := hid_intro (HA3.out.below hb4)
  have HC4 := hid_intro (HC3.out.below hb4)
  have H64 := hid_intro (H63.out.below hb4)
  have HN4 := hid_intro (HNB.out _ _ _ _ _  HN3.out hb4)
  clear HB3 HA3 HC3 H63 HN3
  have HT4 := hid_intro hT4
  clear hT4 hb4
  clear p0 p1 p2 p3 p4 p5 p6 p7 pl
  have AL : Hid (Below w4.heap.size w4 (w4.alloc (.cells #[.string a1, .string m1, .int .i64 mo1, .int .i64 ev1, .int .i64 su1, .int .i64 mx1, .slice (some ⟨gA, 0, none⟩) tl1 tl1, .slice (some ⟨kA, 0, none⟩) hl1 hl1] 32))) := hid_intro ((Below.refl _ _).alloc (Nat.le_refl _) _)
  have H75 := hid_intro (Blk.new w4 [.string a1, .string m1, .int .i64 mo1, .int .i64 ev1, .int .i64 su1, .int .i64 mx1, .slice (some ⟨gA, 0, none⟩) tl1 tl1, .slice (some ⟨kA, 0, none⟩) hl1 hl1] 32)
  have HB5 := hid_intro (HB4.out.trans (AL.out.mono HB4.out.size))
  have HA5 := hid_intro (HA4.out.below AL.out)
  have HC5 := hid_intro (HC4.out.below AL.out)
  have H65 := hid_intro (H64.out.below AL.out)
  have HN5 := hid_intro (HNB.out _ _ _ _ _  HN4.out AL.out)
  have HT5 := hid_intro (HK1.out _ _ _ _ _ _  HT4.out AL.out)
  clear HB4 HA4 HC4 H64 HN4 HT4
  have HS5 : Hid (w4.heap.size < (w4.alloc (.cells #[.string a1, .string m1, .int .i64 mo1, .int .i64 ev1, .int .i64 su1, .int .i64 mx1, .slice (some ⟨gA, 0, none⟩) tl1 tl1, .slice (some ⟨kA, 0, none⟩) hl1 hl1] 32)).heap.size) := hid_intro (by simp)
  clear AL
  obtain ⟨w5, hw5⟩ : ∃ w5, w5 = (w4.alloc (.cells #[.string a1, .string m1, .int .i64 mo1, .int .i64 ev1, .int .i64 su1, .int .i64 mx1, .slice (some ⟨gA, 0, none⟩) tl1 tl1, .slice (some ⟨kA, 0, none⟩) hl1 hl1] 32)) := ⟨_, rfl⟩
  rw [← hw5] at HS5 HB5 HA5 HC5 H65 HN5 HT5 H75
  have HW5 := hid_intro hw5
  clear hw5
  go_wp2_with fail
  rw [← HW5.out]
  clear HW5
  go_cut [8] from 30 (fun v wx => ∃ bO t1 c1 h1 d1 bN tN, v = .pointer (some ⟨bO, 0, none⟩) ∧ Hid (Blk bO [.string a, .string m, .int .i64 mo, .int .i64 ev, .int .i64 su, .int .i64 mx, .slice t1 tl c1, .slice h1 hl d1, .int .i64 cd] wx) ∧ Hid (N bN tN (.agg #[.string a, .string m, .int .i64 mo, .int .i64 ev, .int .i64 su, .int .i64 mx, .slice t1 tl c1, .slice h1 hl d1, .int .i64 cd]) wx) ∧ Hid (J bN tN t1 h1 wx) ∧ Hid (tN ≤ wx.heap.size) ∧ Hid ((bO < bN ∨ tN ≤ bO) ∧ w5.heap.size ≤ bO ∧ w5.heap.size ≤ bN) ∧ Hid (BX w5 (w4.heap.size) (w.heap.size + 1) (.string a1) (.string m1) (.int .i64 mo1) (.int .i64 ev1) (.int .i64 su1) (.int .i64 mx1) (.slice (some ⟨gA, 0, none⟩) tl1 tl1) (.slice (some ⟨kA, 0, none⟩) hl1 hl1) (.string iE) (.string aE) (.string mE) (.int .i64 nE) (.int .i64 kE) (.string tE) wx))
  case first =>
   have a0 : w4.heap.size < w5.heap.size := H75.out.1
   have b0 : w.heap.size + 1 < w5.heap.size := HC5.out.1
   have HX := hid_intro (BX.of H75.out HC5.out)
   have HBW := hid_intro HB5.out
   have HTW := HT5
   refine wp_region_held_drew (S := (fun W => Below w5.heap.size w5 W ∧ w4.heap.size < W.heap.size ∧ w.heap.size + 1 < W.heap.size ∧ W.cell? ⟨w4.heap.size, 0, none⟩ = some (.string a1) ∧ W.cell? ⟨w4.heap.size, 1, none⟩ = some (.string m1) ∧ W.cell? ⟨w4.heap.size, 2, none⟩ = some (.int .i64 mo1) ∧ W.cell? ⟨w4.heap.size, 3, none⟩ = some (.int .i64 ev1) ∧ W.cell? ⟨w4.heap.size, 4, none⟩ = some (.int .i64 su1) ∧ W.cell? ⟨w4.heap.size, 5, none⟩ = some (.int .i64 mx1) ∧ W.cell? ⟨w4.heap.size, 6, none⟩ = some (.slice (some ⟨gA, 0, none⟩) tl1 tl1) ∧ W.cell? ⟨w4.heap.size, 7, none⟩ = some (.slice (some ⟨kA, 0, none⟩) hl1 hl1) ∧ W.cell? ⟨w.heap.size + 1, 0, none⟩ = some (.string iE) ∧ W.cell? ⟨w.heap.size + 1, 1, none⟩ = some (.string aE) ∧ W.cell? ⟨w.heap.size + 1, 2, none⟩ = some (.string mE) ∧ W.cell? ⟨w.heap.size + 1, 3, none⟩ = some (.int .i64 nE) ∧ W.cell? ⟨w.heap.size + 1, 4, none⟩ = some (.int .i64 kE) ∧ W.cell? ⟨w.heap.size + 1, 5, none⟩ = some (.string tE))) (by kernel_rfl) HX.out (fun hHeld => ?_)
   have HX2 : Hid (BX w5 (w4.heap.size) (w.heap.size + 1) (.string a1) (.string m1) (.int .i64 mo1) (.int .i64 ev1) (.int .i64 su1) (.int .i64 mx1) (.slice (some ⟨gA, 0, none⟩) tl1 tl1) (.slice (some ⟨kA, 0, none⟩) hl1 hl1) (.string iE) (.string aE) (.string mE) (.int .i64 nE) (.int .i64 kE) (.string tE) w5.drew) := hid_intro HX.out
   clear HX
   generalize w5.drew = kd at *
   refine tk (i := 0) (oi := { dst := some 30, op := Op.load 32 (Operand.tmp 7), type := 32, pos := "exact.go:2663", after := #[], guard := none }) (v := ?_) ?_ ?_
   rotate_left
   ·(intro w hSw; (try dsimp only at hSw); go_simp) <;> with_reducible rfl
   try simp only [Act.put, SL]
   refine tk (i := 1) (oi := { dst := some 31, op := Op.load 27 (Operand.tmp 3), type := 27, pos := "exact.go:2663", after := #[], guard := none }) (v := ?_) ?_ ?_
   rotate_left
   ·(intro w hSw; (try dsimp only at hSw); go_simp) <;> with_reducible rfl
   try simp only [Act.put, SL]
   refine wpAnyH_ready (rs := [2, 4]) (by kernel_rfl) (by simp) ?_
   refine AllReadyH.cons (o := { dst := some 32, op := Op.call { callee := Callee.value (Operand.func 9), args := #[Operand.tmp 31], argTypes := #[27] }, type := 37, pos := "exact.go:2663", after := #[{ on := 1, ground := Ground.data }], guard := none }) rfl (fun K hK => ?_) (AllReadyH.cons (o := { dst := some 8, op := Op.alloc 34, type := 0, pos := "exact.go:2663", after := #[], guard := none }) rfl (fun K hK => ?_) AllReadyH.nil)
   ·go_simp
    go_at_call 9
    refine (HU2.out _).mono ?_
    rintro e u1 ⟨rfl, hq1⟩
    try go_wp2_with fail
    have hh1 := BX.below (show BX w5 (w4.heap.size) (w.heap.size + 1) (.string a1) (.string m1) (.int .i64 mo1) (.int .i64 ev1) (.int .i64 su1) (.int .i64 mx1) (.slice (some ⟨gA, 0, none⟩) tl1 tl1) (.slice (some ⟨kA, 0, none⟩) hl1 hl1) (.string iE) (.string aE) (.string mE) (.int .i64 nE) (.int .i64 kE) (.string tE) kd from HX2.out) hq1
    refine hK.out _ _ hh1 (fun _ => ?_)
    clear hK K
    try simp only [Act.put, SL]
    refine wpAnyH_ready (rs := [3, 4]) (by kernel_rfl) (by simp) ?_
    refine AllReadyH.cons (o := { dst := some 33, op := Op.call { callee := Callee.value (Operand.func 10), args := #[Operand.tmp 30, Operand.tmp 32], argTypes := #[32, 37] }, type := 34, pos := "exact.go:2663", after := #[{ on := 0, ground := Ground.data }, { on := 2, ground := Ground.data }, { on := 2, ground := Ground.chain }], guard := none }) rfl (fun K hK => ?_) (AllReadyH.cons (o := { dst := some 8, op := Op.alloc 34, type := 0, pos := "exact.go:2663", after := #[], guard := none }) rfl (fun K hK => ?_) AllReadyH.nil)
    ·go_simp
     have hLL := HL.out.below (HBW.out.trans ((show BX w5 (w4.heap.size) (w.heap.size + 1) (.string a1) (.string m1) (.int .i64 mo1) (.int .i64 ev1) (.int .i64 su1) (.int .i64 mx1) (.slice (some ⟨gA, 0, none⟩) tl1 tl1) (.slice (some ⟨kA, 0, none⟩) hl1 hl1) (.string iE) (.string aE) (.string mE) (.int .i64 nE) (.int .i64 kE) (.string tE) u1 from hh1).1.mono HBW.out.size))
     go_at_call 10
     refine (HJJ.out _ _ _ _ _ hLL (HK1.out _ _ _ _ _ _ HTW.out (show BX w5 (w4.heap.size) (w.heap.size + 1) (.string a1) (.string m1) (.int .i64 mo1) (.int .i64 ev1) (.int .i64 su1) (.int .i64 mx1) (.slice (some ⟨gA, 0, none⟩) tl1 tl1) (.slice (some ⟨kA, 0, none⟩) hl1 hl1) (.string iE) (.string aE) (.string mE) (.int .i64 nE) (.int .i64 kE) (.string tE) u1 from hh1).1)).mono ?_
     rintro e u2 ⟨t1, c1, h1, d1, rfl, hN, hJN, hq2⟩
     try go_wp2_with fail
     have hbn : w5.heap.size ≤ u1.heap.size := (show BX w5 (w4.heap.size) (w.heap.size + 1) (.string a1) (.string m1) (.int .i64 mo1) (.int .i64 ev1) (.int .i64 su1) (.int .i64 mx1) (.slice (some ⟨gA, 0, none⟩) tl1 tl1) (.slice (some ⟨kA, 0, none⟩) hl1 hl1) (.string iE) (.string aE) (.string mE) (.int .i64 nE) (.int .i64 kE) (.string tE) u1 from hh1).1.size
     have hh2 := BX.below (show BX w5 (w4.heap.size) (w.heap.size + 1) (.string a1) (.string m1) (.int .i64 mo1) (.int .i64 ev1) (.int .i64 su1) (.int .i64 mx1) (.slice (some ⟨gA, 0, none⟩) tl1 tl1) (.slice (some ⟨kA, 0, none⟩) hl1 hl1) (.string iE) (.string aE) (.string mE) (.int .i64 nE) (.int .i64 kE) (.string tE) u1 from hh1) hq2
     refine hK.out _ _ hh2 (fun _ => ?_)
     clear hK K
     try simp only [Act.put, SL]
     refine wpAnyH_ready (rs := [4]) (by kernel_rfl) (by simp) ?_
     refine AllReadyH.cons (o := { dst := some 8, op := Op.alloc 34, type := 0, pos := "exact.go:2663", after := #[], guard := none }) rfl (fun K hK => ?_) AllReadyH.nil
     go_simp
     try go_wp2_with fail
     have hlo : w5.heap.size ≤ u2.heap.size := (show BX w5 (w4.heap.size) (w.heap.size + 1) (.string a1) (.string m1) (.int .i64 mo1) (.int .i64 ev1) (.int .i64 su1) (.int .i64 mx1) (.slice (some ⟨gA, 0, none⟩) tl1 tl1) (.slice (some ⟨kA, 0, none⟩) hl1 hl1) (.string iE) (.string aE) (.string mE) (.int .i64 nE) (.int .i64 kE) (.string tE) u2 from hh2).1.size
     have hrel : u2.heap.size < u1.heap.size ∨ u2.heap.size ≤ u2.heap.size := .inr (by first | exact Nat.le_refl _ | omega)
     have hh3 := BX.below (show BX w5 (w4.heap.size) (w.heap.size + 1) (.string a1) (.string m1) (.int .i64 mo1) (.int .i64 ev1) (.int .i64 su1) (.int .i64 mx1) (.slice (some ⟨gA, 0, none⟩) tl1 tl1) (.slice (some ⟨kA, 0, none⟩) hl1 hl1) (.string iE) (.string aE) (.string mE) (.int .i64 nE) (.int .i64 kE) (.string tE) u2 from hh2) ((Below.refl u2.heap.size u2).alloc (Nat.le_refl _) (Obj.cells #[.string ⟨#[]⟩, .string ⟨#[]⟩, .int .i64 0, .int .i64 0, .int .i64 0, .int .i64 0, .slice none 0 0, .slice none 0 0, .int .i64 0] 34))
     have hN_3 := HNB.out _ _ _ _ _  hN ((Below.refl u2.heap.size u2).alloc (Nat.le_refl _) (Obj.cells #[.string ⟨#[]⟩, .string ⟨#[]⟩, .int .i64 0, .int .i64 0, .int .i64 0, .int .i64 0, .slice none 0 0, .slice none 0 0, .int .i64 0] 34))
     have hJN_3 := HJB.out _ _ _ _ _ _  hJN ((Below.refl u2.heap.size u2).alloc (Nat.le_refl _) (Obj.cells #[.string ⟨#[]⟩, .string ⟨#[]⟩, .int .i64 0, .int .i64 0, .int .i64 0, .int .i64 0, .slice none 0 0, .slice none 0 0, .int .i64 0] 34))
     have pt_3 : Pt u2.heap.size 9 (u2.alloc (Obj.cells #[.string ⟨#[]⟩, .string ⟨#[]⟩, .int .i64 0, .int .i64 0, .int .i64 0, .int .i64 0, .slice none 0 0, .slice none 0 0, .int .i64 0] 34)) := StR.pt_new u2 [.string ⟨#[]⟩, .string ⟨#[]⟩, .int .i64 0, .int .i64 0, .int .i64 0, .int .i64 0, .slice none 0 0, .slice none 0 0, .int .i64 0] 34
     refine hK.out _ _ hh3 (fun _ => ?_)
     clear hK K
     try simp only [Act.put, SL]
     generalize (u2.alloc (Obj.cells #[.string ⟨#[]⟩, .string ⟨#[]⟩, .int .i64 0, .int .i64 0, .int .i64 0, .int .i64 0, .slice none 0 0, .slice none 0 0, .int .i64 0] 34)) = k3 at *
     refine wpAnyH_ready (rs := [5]) (by kernel_rfl) (by simp) ?_
     refine AllReadyH.cons (o := { dst := none, op := Op.store 34 (Operand.tmp 8) (Operand.tmp 33), type := 0, pos := "exact.go:2663", after := #[{ on := 4, ground := Ground.data }, { on := 3, ground := Ground.data }, { on := 3, ground := Ground.chain }, { on := 0, ground := Ground.phase }, { on := 1, ground := Ground.phase }, { on := 2, ground := Ground.phase }, { on := 3, ground := Ground.phase }, { on := 4, ground := Ground.phase }], guard := none }) rfl (fun K hK => ?_) AllReadyH.nil
     have htn2 : u2.heap.size ≤ k3.heap.size := by first | exact Nat.le_refl _ | (have := (show BX w5 (w4.heap.size) (w.heap.size + 1) (.string a1) (.string m1) (.int .i64 mo1) (.int .i64 ev1) (.int .i64 su1) (.int .i64 mx1) (.slice (some ⟨gA, 0, none⟩) tl1 tl1) (.slice (some ⟨kA, 0, none⟩) hl1 hl1) (.string iE) (.string aE) (.string mE) (.int .i64 nE) (.int .i64 kE) (.string tE) k3 from hh3).1.size; omega) | (have := pt_3.lt; omega)
     have zl4 := pt_3.lt
     obtain ⟨e4_0, y4_0⟩ := pt_3.has 0 (by omega)
     have z4_0 := pt_3.free 0 (by omega)
     obtain ⟨e4_1, y4_1⟩ := pt_3.has 1 (by omega)
     have z4_1 := pt_3.free 1 (by omega)
     obtain ⟨e4_2, y4_2⟩ := pt_3.has 2 (by omega)
     have z4_2 := pt_3.free 2 (by omega)
     obtain ⟨e4_3, y4_3⟩ := pt_3.has 3 (by omega)
     have z4_3 := pt_3.free 3 (by omega)
     obtain ⟨e4_4, y4_4⟩ := pt_3.has 4 (by omega)
     have z4_4 := pt_3.free 4 (by omega)
     obtain ⟨e4_5, y4_5⟩ := pt_3.has 5 (by omega)
     have z4_5 := pt_3.free 5 (by omega)
     obtain ⟨e4_6, y4_6⟩ := pt_3.has 6 (by omega)
     have z4_6 := pt_3.free 6 (by omega)
     obtain ⟨e4_7, y4_7⟩ := pt_3.has 7 (by omega)
     have z4_7 := pt_3.free 7 (by omega)
     obtain ⟨e4_8, y4_8⟩ := pt_3.has 8 (by omega)
     have z4_8 := pt_3.free 8 (by omega)
     go_simp
     try go_wp2_with fail
     have hg4 := StR.stL_grown u2.heap.size [.string a, .string m, .int .i64 mo, .int .i64 ev, .int .i64 su, .int .i64 mx, .slice t1 tl c1, .slice h1 hl d1, .int .i64 cd] 0 k3
     have hbO := StR.stL_blk (vs := [.string a, .string m, .int .i64 mo, .int .i64 ev, .int .i64 su, .int .i64 mx, .slice t1 tl c1, .slice h1 hl d1, .int .i64 cd]) (W := k3) pt_3 (by simp)
     have hh4 := BX.grown (show BX w5 (w4.heap.size) (w.heap.size + 1) (.string a1) (.string m1) (.int .i64 mo1) (.int .i64 ev1) (.int .i64 su1) (.int .i64 mx1) (.slice (some ⟨gA, 0, none⟩) tl1 tl1) (.slice (some ⟨kA, 0, none⟩) hl1 hl1) (.string iE) (.string aE) (.string mE) (.int .i64 nE) (.int .i64 kE) (.string tE) k3 from hh3) hlo a0 b0 hg4
     have hNn := HNG.out _ _ _ _ _ _ hN_3 hg4 hrel
     have hJn := HJG.out _ _ _ _ _ _ _ hJN_3 hg4 hrel
     have hsz := Nat.le_trans htn2 hg4.size
     have hpos := And.intro hrel (And.intro hlo hbn)
     simp only [StR.stL, Nat.zero_add, Nat.reduceAdd] at hh4 hbO hNn hsz hJn
     refine hK.out _ _ hh4 (fun _ => ?_)
     clear hK K
     try simp only [Act.put, SL]
     generalize (((((((((k3.setCell ⟨u2.heap.size, 0, none⟩ (.string a)).setCell ⟨u2.heap.size, 1, none⟩ (.string m)).setCell ⟨u2.heap.size, 2, none⟩ (.int .i64 mo)).setCell ⟨u2.heap.size, 3, none⟩ (.int .i64 ev)).setCell ⟨u2.heap.size, 4, none⟩ (.int .i64 su)).setCell ⟨u2.heap.size, 5, none⟩ (.int .i64 mx)).setCell ⟨u2.heap.size, 6, none⟩ (.slice t1 tl c1)).setCell ⟨u2.heap.size, 7, none⟩ (.slice h1 hl d1)).setCell ⟨u2.heap.size, 8, none⟩ (.int .i64 cd)) = k4 at *
     refine wpAnyH_done (by kernel_rfl) ?_ _
     have F1 := hid_intro hbO
     have F2 := hid_intro hNn
     have F2J := hid_intro hJn
     have F3 := hid_intro hsz
     have F5 := hid_intro hpos
     have F4 := hid_intro (show BX w5 (w4.heap.size) (w.heap.size + 1) (.string a1) (.string m1) (.int .i64 mo1) (.int .i64 ev1) (.int .i64 su1) (.int .i64 mx1) (.slice (some ⟨gA, 0, none⟩) tl1 tl1) (.slice (some ⟨kA, 0, none⟩) hl1 hl1) (.string iE) (.string aE) (.string mE) (.int .i64 nE) (.int .i64 kE) (.string tE) k4 from hh4)
     try clear y4_8
     try clear y4_7
     try clear y4_6
     try clear y4_5
     try clear y4_4
     try clear y4_3
     try clear y4_2
     try clear y4_1
     try clear y4_0
     try clear hpos
     try clear hsz
     try clear hJn
     try clear hNn
     try clear hh4
     try clear hbO
     try clear hg4
     try clear z4_8
     try clear z4_7
     try clear z4_6
     try clear z4_5
     try clear z4_4
     try clear z4_3
     try clear z4_2
     try clear z4_1
     try clear z4_0
     try clear zl4
     try clear htn2
     try clear pt_3
     try clear hJN_3
     try clear hN_3
     try clear hh3
     try clear hrel
     try clear hlo
     try clear hq2
     try clear hJN
     try clear hN
     try clear hh2
     try clear hbn
     try clear hLL
     try clear hq1
     try clear hh1
     go_wp2_with fail
     go_meet
     case rel => exact ⟨_, _, _, _, _, _, _, rfl, F1, F2, F2J, F3, F5, F4⟩
    ·go_simp
     try go_wp2_with fail
     have hlo : w5.heap.size ≤ u1.heap.size := (show BX w5 (w4.heap.size) (w.heap.size + 1) (.string a1) (.string m1) (.int .i64 mo1) (.int .i64 ev1) (.int .i64 su1) (.int .i64 mx1) (.slice (some ⟨gA, 0, none⟩) tl1 tl1) (.slice (some ⟨kA, 0, none⟩) hl1 hl1) (.string iE) (.string aE) (.string mE) (.int .i64 nE) (.int .i64 kE) (.string tE) u1 from hh1).1.size
     have hh2 := BX.below (show BX w5 (w4.heap.size) (w.heap.size + 1) (.string a1) (.string m1) (.int .i64 mo1) (.int .i64 ev1) (.int .i64 su1) (.int .i64 mx1) (.slice (some ⟨gA, 0, none⟩) tl1 tl1) (.slice (some ⟨kA, 0, none⟩) hl1 hl1) (.string iE) (.string aE) (.string mE) (.int .i64 nE) (.int .i64 kE) (.string tE) u1 from hh1) ((Below.refl u1.heap.size u1).alloc (Nat.le_refl _) (Obj.cells #[.string ⟨#[]⟩, .string ⟨#[]⟩, .int .i64 0, .int .i64 0, .int .i64 0, .int .i64 0, .slice none 0 0, .slice none 0 0, .int .i64 0] 34))
     have pt_2 : Pt u1.heap.size 9 (u1.alloc (Obj.cells #[.string ⟨#[]⟩, .string ⟨#[]⟩, .int .i64 0, .int .i64 0, .int .i64 0, .int .i64 0, .slice none 0 0, .slice none 0 0, .int .i64 0] 34)) := StR.pt_new u1 [.string ⟨#[]⟩, .string ⟨#[]⟩, .int .i64 0, .int .i64 0, .int .i64 0, .int .i64 0, .slice none 0 0, .slice none 0 0, .int .i64 0] 34
     refine hK.out _ _ hh2 (fun _ => ?_)
     clear hK K
     try simp only [Act.put, SL]
     generalize (u1.alloc (Obj.cells #[.string ⟨#[]⟩, .string ⟨#[]⟩, .int .i64 0, .int .i64 0, .int .i64 0, .int .i64 0, .slice none 0 0, .slice none 0 0, .int .i64 0] 34)) = k2 at *
     refine wpAnyH_ready (rs := [3]) (by kernel_rfl) (by simp) ?_
     refine AllReadyH.cons (o := { dst := some 33, op := Op.call { callee := Callee.value (Operand.func 10), args := #[Operand.tmp 30, Operand.tmp 32], argTypes := #[32, 37] }, type := 34, pos := "exact.go:2663", after := #[{ on := 0, ground := Ground.data }, { on := 2, ground := Ground.data }, { on := 2, ground := Ground.chain }], guard := none }) rfl (fun K hK => ?_) AllReadyH.nil
     go_simp
     have hLL := HL.out.below (HBW.out.trans ((show BX w5 (w4.heap.size) (w.heap.size + 1) (.string a1) (.string m1) (.int .i64 mo1) (.int .i64 ev1) (.int .i64 su1) (.int .i64 mx1) (.slice (some ⟨gA, 0, none⟩) tl1 tl1) (.slice (some ⟨kA, 0, none⟩) hl1 hl1) (.string iE) (.string aE) (.string mE) (.int .i64 nE) (.int .i64 kE) (.string tE) k2 from hh2).1.mono HBW.out.size))
     go_at_call 10
     refine (HJJ.out _ _ _ _ _ hLL (HK1.out _ _ _ _ _ _ HTW.out (show BX w5 (w4.heap.size) (w.heap.size + 1) (.string a1) (.string m1) (.int .i64 mo1) (.int .i64 ev1) (.int .i64 su1) (.int .i64 mx1) (.slice (some ⟨gA, 0, none⟩) tl1 tl1) (.slice (some ⟨kA, 0, none⟩) hl1 hl1) (.string iE) (.string aE) (.string mE) (.int .i64 nE) (.int .i64 kE) (.string tE) k2 from hh2).1)).mono ?_
     rintro e u3 ⟨t1, c1, h1, d1, rfl, hN, hJN, hq3⟩
     try go_wp2_with fail
     have hrel : u1.heap.size < k2.heap.size ∨ u3.heap.size ≤ u1.heap.size := .inl pt_2.lt
     have hbn : w5.heap.size ≤ k2.heap.size := (show BX w5 (w4.heap.size) (w.heap.size + 1) (.string a1) (.string m1) (.int .i64 mo1) (.int .i64 ev1) (.int .i64 su1) (.int .i64 mx1) (.slice (some ⟨gA, 0, none⟩) tl1 tl1) (.slice (some ⟨kA, 0, none⟩) hl1 hl1) (.string iE) (.string aE) (.string mE) (.int .i64 nE) (.int .i64 kE) (.string tE) k2 from hh2).1.size
     have hh3 := BX.below (show BX w5 (w4.heap.size) (w.heap.size + 1) (.string a1) (.string m1) (.int .i64 mo1) (.int .i64 ev1) (.int .i64 su1) (.int .i64 mx1) (.slice (some ⟨gA, 0, none⟩) tl1 tl1) (.slice (some ⟨kA, 0, none⟩) hl1 hl1) (.string iE) (.string aE) (.string mE) (.int .i64 nE) (.int .i64 kE) (.string tE) k2 from hh2) hq3
     have pt_3 := pt_2.below hq3
     refine hK.out _ _ hh3 (fun _ => ?_)
     clear hK K
     try simp only [Act.put, SL]
     refine wpAnyH_ready (rs := [5]) (by kernel_rfl) (by simp) ?_
     refine AllReadyH.cons (o := { dst := none, op := Op.store 34 (Operand.tmp 8) (Operand.tmp 33), type := 0, pos := "exact.go:2663", after := #[{ on := 4, ground := Ground.data }, { on := 3, ground := Ground.data }, { on := 3, ground := Ground.chain }, { on := 0, ground := Ground.phase }, { on := 1, ground := Ground.phase }, { on := 2, ground := Ground.phase }, { on := 3, ground := Ground.phase }, { on := 4, ground := Ground.phase }], guard := none }) rfl (fun K hK => ?_) AllReadyH.nil
     have htn2 : u3.heap.size ≤ u3.heap.size := by first | exact Nat.le_refl _ | (have := (show BX w5 (w4.heap.size) (w.heap.size + 1) (.string a1) (.string m1) (.int .i64 mo1) (.int .i64 ev1) (.int .i64 su1) (.int .i64 mx1) (.slice (some ⟨gA, 0, none⟩) tl1 tl1) (.slice (some ⟨kA, 0, none⟩) hl1 hl1) (.string iE) (.string aE) (.string mE) (.int .i64 nE) (.int .i64 kE) (.string tE) u3 from hh3).1.size; omega) | (have := pt_3.lt; omega)
     have zl4 := pt_3.lt
     obtain ⟨e4_0, y4_0⟩ := pt_3.has 0 (by omega)
     have z4_0 := pt_3.free 0 (by omega)
     obtain ⟨e4_1, y4_1⟩ := pt_3.has 1 (by omega)
     have z4_1 := pt_3.free 1 (by omega)
     obtain ⟨e4_2, y4_2⟩ := pt_3.has 2 (by omega)
     have z4_2 := pt_3.free 2 (by omega)
     obtain ⟨e4_3, y4_3⟩ := pt_3.has 3 (by omega)
     have z4_3 := pt_3.free 3 (by omega)
     obtain ⟨e4_4, y4_4⟩ := pt_3.has 4 (by omega)
     have z4_4 := pt_3.free 4 (by omega)
     obtain ⟨e4_5, y4_5⟩ := pt_3.has 5 (by omega)
     have z4_5 := pt_3.free 5 (by omega)
     obtain ⟨e4_6, y4_6⟩ := pt_3.has 6 (by omega)
     have z4_6 := pt_3.free 6 (by omega)
     obtain ⟨e4_7, y4_7⟩ := pt_3.has 7 (by omega)
     have z4_7 := pt_3.free 7 (by omega)
     obtain ⟨e4_8, y4_8⟩ := pt_3.has 8 (by omega)
     have z4_8 := pt_3.free 8 (by omega)
     go_simp
     try go_wp2_with fail
     have hg4 := StR.stL_grown u1.heap.size [.string a, .string m, .int .i64 mo, .int .i64 ev, .int .i64 su, .int .i64 mx, .slice t1 tl c1, .slice h1 hl d1, .int .i64 cd] 0 u3
     have hbO := StR.stL_blk (vs := [.string a, .string m, .int .i64 mo, .int .i64 ev, .int .i64 su, .int .i64 mx, .slice t1 tl c1, .slice h1 hl d1, .int .i64 cd]) (W := u3) pt_3 (by simp)
     have hh4 := BX.grown (show BX w5 (w4.heap.size) (w.heap.size + 1) (.string a1) (.string m1) (.int .i64 mo1) (.int .i64 ev1) (.int .i64 su1) (.int .i64 mx1) (.slice (some ⟨gA, 0, none⟩) tl1 tl1) (.slice (some ⟨kA, 0, none⟩) hl1 hl1) (.string iE) (.string aE) (.string mE) (.int .i64 nE) (.int .i64 kE) (.string tE) u3 from hh3) hlo a0 b0 hg4
     have hNn := HNG.out _ _ _ _ _ _ hN hg4 hrel
     have hJn := HJG.out _ _ _ _ _ _ _ hJN hg4 hrel
     have hsz := Nat.le_trans htn2 hg4.size
     have hpos := And.intro hrel (And.intro hlo hbn)
     simp only [StR.stL, Nat.zero_add, Nat.reduceAdd] at hh4 hbO hNn hsz hJn
     refine hK.out _ _ hh4 (fun _ => ?_)
     clear hK K
     try simp only [Act.put, SL]
     generalize (((((((((u3.setCell ⟨u1.heap.size, 0, none⟩ (.string a)).setCell ⟨u1.heap.size, 1, none⟩ (.string m)).setCell ⟨u1.heap.size, 2, none⟩ (.int .i64 mo)).setCell ⟨u1.heap.size, 3, none⟩ (.int .i64 ev)).setCell ⟨u1.heap.size, 4, none⟩ (.int .i64 su)).setCell ⟨u1.heap.size, 5, none⟩ (.int .i64 mx)).setCell ⟨u1.heap.size, 6, none⟩ (.slice t1 tl c1)).setCell ⟨u1.heap.size, 7, none⟩ (.slice h1 hl d1)).setCell ⟨u1.heap.size, 8, none⟩ (.int .i64 cd)) = k4 at *
     refine wpAnyH_done (by kernel_rfl) ?_ _
     have F1 := hid_intro hbO
     have F2 := hid_intro hNn
     have F2J := hid_intro hJn
     have F3 := hid_intro hsz
     have F5 := hid_intro hpos
     have F4 := hid_intro (show BX w5 (w4.heap.size) (w.heap.size + 1) (.string a1) (.string m1) (.int .i64 mo1) (.int .i64 ev1) (.int .i64 su1) (.int .i64 mx1) (.slice (some ⟨gA, 0, none⟩) tl1 tl1) (.slice (some ⟨kA, 0, none⟩) hl1 hl1) (.string iE) (.string aE) (.string mE) (.int .i64 nE) (.int .i64 kE) (.string tE) k4 from hh4)
     try clear y4_8
     try clear y4_7
     try clear y4_6
     try clear y4_5
     try clear y4_4
     try clear y4_3
     try clear y4_2
     try clear y4_1
     try clear y4_0
     try clear hpos
     try clear hsz
     try clear hJn
     try clear hNn
     try clear hh4
     try clear hbO
     try clear hg4
     try clear z4_8
     try clear z4_7
     try clear z4_6
     try clear z4_5
     try clear z4_4
     try clear z4_3
     try clear z4_2
     try clear z4_1
     try clear z4_0
     try clear zl4
     try clear htn2
     try clear hq3
     try clear hJN
     try clear hN
     try clear pt_3
     try clear hh3
     try clear hbn
     try clear hrel
     try clear hLL
     try clear pt_2
     try clear hh2
     try clear hlo
     try clear hq1
     try clear hh1
     go_wp2_with fail
     go_meet
     case rel => exact ⟨_, _, _, _, _, _, _, rfl, F1, F2, F2J, F3, F5, F4⟩
   ·go_simp
    try go_wp2_with fail
    have hlo : w5.heap.size ≤ kd.heap.size := (show BX w5 (w4.heap.size) (w.heap.size + 1) (.string a1) (.string m1) (.int .i64 mo1) (.int .i64 ev1) (.int .i64 su1) (.int .i64 mx1) (.slice (some ⟨gA, 0, none⟩) tl1 tl1) (.slice (some ⟨kA, 0, none⟩) hl1 hl1) (.string iE) (.string aE) (.string mE) (.int .i64 nE) (.int .i64 kE) (.string tE) kd from HX2.out).1.size
    have hh1 := BX.below (show BX w5 (w4.heap.size) (w.heap.size + 1) (.string a1) (.string m1) (.int .i64 mo1) (.int .i64 ev1) (.int .i64 su1) (.int .i64 mx1) (.slice (some ⟨gA, 0, none⟩) tl1 tl1) (.slice (some ⟨kA, 0, none⟩) hl1 hl1) (.string iE) (.string aE) (.string mE) (.int .i64 nE) (.int .i64 kE) (.string tE) kd from HX2.out) ((Below.refl kd.heap.size kd).alloc (Nat.le_refl _) (Obj.cells #[.string ⟨#[]⟩, .string ⟨#[]⟩, .int .i64 0, .int .i64 0, .int .i64 0, .int .i64 0, .slice none 0 0, .slice none 0 0, .int .i64 0] 34))
    have pt_1 : Pt kd.heap.size 9 (kd.alloc (Obj.cells #[.string ⟨#[]⟩, .string ⟨#[]⟩, .int .i64 0, .int .i64 0, .int .i64 0, .int .i64 0, .slice none 0 0, .slice none 0 0, .int .i64 0] 34)) := StR.pt_new kd [.string ⟨#[]⟩, .string ⟨#[]⟩, .int .i64 0, .int .i64 0, .int .i64 0, .int .i64 0, .slice none 0 0, .slice none 0 0, .int .i64 0] 34
    refine hK.out _ _ hh1 (fun _ => ?_)
    clear hK K
    try simp only [Act.put, SL]
    generalize (kd.alloc (Obj.cells #[.string ⟨#[]⟩, .string ⟨#[]⟩, .int .i64 0, .int .i64 0, .int .i64 0, .int .i64 0, .slice none 0 0, .slice none 0 0, .int .i64 0] 34)) = k1 at *
    refine wpAnyH_ready (rs := [2]) (by kernel_rfl) (by simp) ?_
    refine AllReadyH.cons (o := { dst := some 32, op := Op.call { callee := Callee.value (Operand.func 9), args := #[Operand.tmp 31], argTypes := #[27] }, type := 37, pos := "exact.go:2663", after := #[{ on := 1, ground := Ground.data }], guard := none }) rfl (fun K hK => ?_) AllReadyH.nil
    go_simp
    go_at_call 9
    refine (HU2.out _).mono ?_
    rintro e u2 ⟨rfl, hq2⟩
    try go_wp2_with fail
    have hh2 := BX.below (show BX w5 (w4.heap.size) (w.heap.size + 1) (.string a1) (.string m1) (.int .i64 mo1) (.int .i64 ev1) (.int .i64 su1) (.int .i64 mx1) (.slice (some ⟨gA, 0, none⟩) tl1 tl1) (.slice (some ⟨kA, 0, none⟩) hl1 hl1) (.string iE) (.string aE) (.string mE) (.int .i64 nE) (.int .i64 kE) (.string tE) k1 from hh1) hq2
    have pt_2 := pt_1.below hq2
    refine hK.out _ _ hh2 (fun _ => ?_)
    clear hK K
    try simp only [Act.put, SL]
    refine wpAnyH_ready (rs := [3]) (by kernel_rfl) (by simp) ?_
    refine AllReadyH.cons (o := { dst := some 33, op := Op.call { callee := Callee.value (Operand.func 10), args := #[Operand.tmp 30, Operand.tmp 32], argTypes := #[32, 37] }, type := 34, pos := "exact.go:2663", after := #[{ on := 0, ground := Ground.data }, { on := 2, ground := Ground.data }, { on := 2, ground := Ground.chain }], guard := none }) rfl (fun K hK => ?_) AllReadyH.nil
    go_simp
    have hLL := HL.out.below (HBW.out.trans ((show BX w5 (w4.heap.size) (w.heap.size + 1) (.string a1) (.string m1) (.int .i64 mo1) (.int .i64 ev1) (.int .i64 su1) (.int .i64 mx1) (.slice (some ⟨gA, 0, none⟩) tl1 tl1) (.slice (some ⟨kA, 0, none⟩) hl1 hl1) (.string iE) (.string aE) (.string mE) (.int .i64 nE) (.int .i64 kE) (.string tE) u2 from hh2).1.mono HBW.out.size))
    go_at_call 10
    refine (HJJ.out _ _ _ _ _ hLL (HK1.out _ _ _ _ _ _ HTW.out (show BX w5 (w4.heap.size) (w.heap.size + 1) (.string a1) (.string m1) (.int .i64 mo1) (.int .i64 ev1) (.int .i64 su1) (.int .i64 mx1) (.slice (some ⟨gA, 0, none⟩) tl1 tl1) (.slice (some ⟨kA, 0, none⟩) hl1 hl1) (.string iE) (.string aE) (.string mE) (.int .i64 nE) (.int .i64 kE) (.string tE) u2 from hh2).1)).mono ?_
    rintro e u3 ⟨t1, c1, h1, d1, rfl, hN, hJN, hq3⟩
    try go_wp2_with fail
    have hrel : kd.heap.size < u2.heap.size ∨ u3.heap.size ≤ kd.heap.size := .inl pt_2.lt
    have hbn : w5.heap.size ≤ u2.heap.size := (show BX w5 (w4.heap.size) (w.heap.size + 1) (.string a1) (.string m1) (.int .i64 mo1) (.int .i64 ev1) (.int .i64 su1) (.int .i64 mx1) (.slice (some ⟨gA, 0, none⟩) tl1 tl1) (.slice (some ⟨kA, 0, none⟩) hl1 hl1) (.string iE) (.string aE) (.string mE) (.int .i64 nE) (.int .i64 kE) (.string tE) u2 from hh2).1.size
    have hh3 := BX.below (show BX w5 (w4.heap.size) (w.heap.size + 1) (.string a1) (.string m1) (.int .i64 mo1) (.int .i64 ev1) (.int .i64 su1) (.int .i64 mx1) (.slice (some ⟨gA, 0, none⟩) tl1 tl1) (.slice (some ⟨kA, 0, none⟩) hl1 hl1) (.string iE) (.string aE) (.string mE) (.int .i64 nE) (.int .i64 kE) (.string tE) u2 from hh2) hq3
    have pt_3 := pt_2.below hq3
    refine hK.out _ _ hh3 (fun _ => ?_)
    clear hK K
    try simp only [Act.put, SL]
    refine wpAnyH_ready (rs := [5]) (by kernel_rfl) (by simp) ?_
    refine AllReadyH.cons (o := { dst := none, op := Op.store 34 (Operand.tmp 8) (Operand.tmp 33), type := 0, pos := "exact.go:2663", after := #[{ on := 4, ground := Ground.data }, { on := 3, ground := Ground.data }, { on := 3, ground := Ground.chain }, { on := 0, ground := Ground.phase }, { on := 1, ground := Ground.phase }, { on := 2, ground := Ground.phase }, { on := 3, ground := Ground.phase }, { on := 4, ground := Ground.phase }], guard := none }) rfl (fun K hK => ?_) AllReadyH.nil
    have htn2 : u3.heap.size ≤ u3.heap.size := by first | exact Nat.le_refl _ | (have := (show BX w5 (w4.heap.size) (w.heap.size + 1) (.string a1) (.string m1) (.int .i64 mo1) (.int .i64 ev1) (.int .i64 su1) (.int .i64 mx1) (.slice (some ⟨gA, 0, none⟩) tl1 tl1) (.slice (some ⟨kA, 0, none⟩) hl1 hl1) (.string iE) (.string aE) (.string mE) (.int .i64 nE) (.int .i64 kE) (.string tE) u3 from hh3).1.size; omega) | (have := pt_3.lt; omega)
    have zl4 := pt_3.lt
    obtain ⟨e4_0, y4_0⟩ := pt_3.has 0 (by omega)
    have z4_0 := pt_3.free 0 (by omega)
    obtain ⟨e4_1, y4_1⟩ := pt_3.has 1 (by omega)
    have z4_1 := pt_3.free 1 (by omega)
    obtain ⟨e4_2, y4_2⟩ := pt_3.has 2 (by omega)
    have z4_2 := pt_3.free 2 (by omega)
    obtain ⟨e4_3, y4_3⟩ := pt_3.has 3 (by omega)
    have z4_3 := pt_3.free 3 (by omega)
    obtain ⟨e4_4, y4_4⟩ := pt_3.has 4 (by omega)
    have z4_4 := pt_3.free 4 (by omega)
    obtain ⟨e4_5, y4_5⟩ := pt_3.has 5 (by omega)
    have z4_5 := pt_3.free 5 (by omega)
    obtain ⟨e4_6, y4_6⟩ := pt_3.has 6 (by omega)
    have z4_6 := pt_3.free 6 (by omega)
    obtain ⟨e4_7, y4_7⟩ := pt_3.has 7 (by omega)
    have z4_7 := pt_3.free 7 (by omega)
    obtain ⟨e4_8, y4_8⟩ := pt_3.has 8 (by omega)
    have z4_8 := pt_3.free 8 (by omega)
    go_simp
    try go_wp2_with fail
    have hg4 := StR.stL_grown kd.heap.size [.string a, .string m, .int .i64 mo, .int .i64 ev, .int .i64 su, .int .i64 mx, .slice t1 tl c1, .slice h1 hl d1, .int .i64 cd] 0 u3
    have hbO := StR.stL_blk (vs := [.string a, .string m, .int .i64 mo, .int .i64 ev, .int .i64 su, .int .i64 mx, .slice t1 tl c1, .slice h1 hl d1, .int .i64 cd]) (W := u3) pt_3 (by simp)
    have hh4 := BX.grown (show BX w5 (w4.heap.size) (w.heap.size + 1) (.string a1) (.string m1) (.int .i64 mo1) (.int .i64 ev1) (.int .i64 su1) (.int .i64 mx1) (.slice (some ⟨gA, 0, none⟩) tl1 tl1) (.slice (some ⟨kA, 0, none⟩) hl1 hl1) (.string iE) (.string aE) (.string mE) (.int .i64 nE) (.int .i64 kE) (.string tE) u3 from hh3) hlo a0 b0 hg4
    have hNn := HNG.out _ _ _ _ _ _ hN hg4 hrel
    have hJn := HJG.out _ _ _ _ _ _ _ hJN hg4 hrel
    have hsz := Nat.le_trans htn2 hg4.size
    have hpos := And.intro hrel (And.intro hlo hbn)
    simp only [StR.stL, Nat.zero_add, Nat.reduceAdd] at hh4 hbO hNn hsz hJn
    refine hK.out _ _ hh4 (fun _ => ?_)
    clear hK K
    try simp only [Act.put, SL]
    generalize (((((((((u3.setCell ⟨kd.heap.size, 0, none⟩ (.string a)).setCell ⟨kd.heap.size, 1, none⟩ (.string m)).setCell ⟨kd.heap.size, 2, none⟩ (.int .i64 mo)).setCell ⟨kd.heap.size, 3, none⟩ (.int .i64 ev)).setCell ⟨kd.heap.size, 4, none⟩ (.int .i64 su)).setCell ⟨kd.heap.size, 5, none⟩ (.int .i64 mx)).setCell ⟨kd.heap.size, 6, none⟩ (.slice t1 tl c1)).setCell ⟨kd.heap.size, 7, none⟩ (.slice h1 hl d1)).setCell ⟨kd.heap.size, 8, none⟩ (.int .i64 cd)) = k4 at *
    refine wpAnyH_done (by kernel_rfl) ?_ _
    have F1 := hid_intro hbO
    have F2 := hid_intro hNn
    have F2J := hid_intro hJn
    have F3 := hid_intro hsz
    have F5 := hid_intro hpos
    have F4 := hid_intro (show BX w5 (w4.heap.size) (w.heap.size + 1) (.string a1) (.string m1) (.int .i64 mo1) (.int .i64 ev1) (.int .i64 su1) (.int .i64 mx1) (.slice (some ⟨gA, 0, none⟩) tl1 tl1) (.slice (some ⟨kA, 0, none⟩) hl1 hl1) (.string iE) (.string aE) (.string mE) (.int .i64 nE) (.int .i64 kE) (.string tE) k4 from hh4)
    try clear y4_8
    try clear y4_7
    try clear y4_6
    try clear y4_5
    try clear y4_4
    try clear y4_3
    try clear y4_2
    try clear y4_1
    try clear y4_0
    try clear hpos
    try clear hsz
    try clear hJn
    try clear hNn
    try clear hh4
    try clear hbO
    try clear hg4
    try clear z4_8
    try clear z4_7
    try clear z4_6
    try clear z4_5
    try clear z4_4
    try clear z4_3
    try clear z4_2
    try clear z4_1
    try clear z4_0
    try clear zl4
    try clear htn2
    try clear hq3
    try clear hJN
    try clear hN
    try clear pt_3
    try clear hh3
    try clear hbn
    try clear hrel
    try clear hLL
    try clear hq2
    try clear pt_2
    try clear hh2
    try clear pt_1
    try clear hh1
    try clear hlo
    go_wp2_with fail
    go_meet
    case rel => exact ⟨_, _, _, _, _, _, _, rfl, F1, F2, F2J, F3, F5, F4⟩
  case rest =>
   obtain ⟨wy0, hwy0⟩ : ∃ z, z = wc := ⟨_, rfl⟩
   subst hwy0
   obtain ⟨b9, t1, c1, h1, d1, bM, tM, rfl, H9, HM, HJ, HTM, HPS, HX⟩ := hcut
   have hbx := HX.out.1
   have HS9 : Hid (w5.heap.size ≤ wy0.heap.size) := hid_intro hbx.size
   have H9L : Hid (b9 < wy0.heap.size) := hid_intro H9.out.1
   have HB9 := hid_intro (HB5.out.trans (hbx.mono HB5.out.size))
   have HA9 := hid_intro (HA5.out.below hbx)
   have HC9 := hid_intro (HC5.out.below hbx)
   have H69 := hid_intro (H65.out.below hbx)
   have HN9 := hid_intro (HNB.out _ _ _ _ _  HN5.out hbx)
   have HT9 := hid_intro (HK1.out _ _ _ _ _ _  HT5.out hbx)
   have H79 := hid_intro (H75.out.below hbx)
   clear HB5 HA5 HC5 H65 HN5 HT5 H75
   have H99 := H9
   have HM9 := HM
   have HJ9 := HJ
   clear hbx HX H9 HM HJ
   have p0 : wy0.cell? ⟨b9, 0, none⟩ = some (.string a) := H99.out.2 0 (by simp)
   have p1 : wy0.cell? ⟨b9, 1, none⟩ = some (.string m) := H99.out.2 1 (by simp)
   have p2 : wy0.cell? ⟨b9, 2, none⟩ = some (.int .i64 mo) := H99.out.2 2 (by simp)
   have p3 : wy0.cell? ⟨b9, 3, none⟩ = some (.int .i64 ev) := H99.out.2 3 (by simp)
   have p4 : wy0.cell? ⟨b9, 4, none⟩ = some (.int .i64 su) := H99.out.2 4 (by simp)
   have p5 : wy0.cell? ⟨b9, 5, none⟩ = some (.int .i64 mx) := H99.out.2 5 (by simp)
   have p6 : wy0.cell? ⟨b9, 6, none⟩ = some (.slice t1 tl c1) := H99.out.2 6 (by simp)
   have p7 : wy0.cell? ⟨b9, 7, none⟩ = some (.slice h1 hl d1) := H99.out.2 7 (by simp)
   have p8 : wy0.cell? ⟨b9, 8, none⟩ = some (.int .i64 cd) := H99.out.2 8 (by simp)
   have pl := H99.out.1
   have q0 : wy0.cell? ⟨b6, 0, none⟩ = some (.string a) := H69.out.2 0 (by simp)
   have q1 : wy0.cell? ⟨b6, 1, none⟩ = some (.string m) := H69.out.2 1 (by simp)
   have q2 : wy0.cell? ⟨b6, 2, none⟩ = some (.int .i64 mo) := H69.out.2 2 (by simp)
   have q3 : wy0.cell? ⟨b6, 3, none⟩ = some (.int .i64 ev) := H69.out.2 3 (by simp)
   have q4 : wy0.cell? ⟨b6, 4, none⟩ = some (.int .i64 su) := H69.out.2 4 (by simp)
   have q5 : wy0.cell? ⟨b6, 5, none⟩ = some (.int .i64 mx) := H69.out.2 5 (by simp)
   have q6 : wy0.cell? ⟨b6, 6, none⟩ = some (.slice t0 tl c0) := H69.out.2 6 (by simp)
   have q7 : wy0.cell? ⟨b6, 7, none⟩ = some (.slice h0 hl d0) := H69.out.2 7 (by simp)
   have q8 : wy0.cell? ⟨b6, 8, none⟩ = some (.int .i64 cd) := H69.out.2 8 (by simp)
   have ql := H69.out.1
   go_wp2_with fail
   refine (HEO.out _ _ _ _ _ _ _ HM9.out HN9.out).mono ?_
   rintro e wa ⟨rfl, hba⟩
   have HBa := hid_intro (HB9.out.trans (hba.mono HB9.out.size))
   have HAa := hid_intro (HA9.out.below hba)
   have HCa := hid_intro (HC9.out.below hba)
   have H6a := hid_intro (H69.out.below hba)
   have HNa := hid_intro (HNB.out _ _ _ _ _  HN9.out hba)
   have HTa := hid_intro (HK1.out _ _ _ _ _ _  HT9.out hba)
   have H7a := hid_intro (H79.out.below hba)
   have HMa := hid_intro (HNB.out _ _ _ _ _  HM9.out hba)
   have HJa := hid_intro (HJB.out _ _ _ _ _ _  HJ9.out hba)
   have H9a := hid_intro (H99.out.below hba)
   clear HB9 HA9 HC9 H69 HN9 HT9 H79 HM9 HJ9 H99
   clear hba
   clear p0 p1 p2 p3 p4 p5 p6 p7 p8 pl
   clear q0 q1 q2 q3 q4 q5 q6 q7 q8 ql
   have HX := hid_intro (BW.of H7a.out HAa.out)
   go_wp2_with fail
   refine wp_region_held_drew (S := (fun W => Below wa.heap.size wa W ∧ w4.heap.size < W.heap.size ∧ w.heap.size < W.heap.size ∧ W.cell? ⟨w4.heap.size, 0, none⟩ = some (.string a1) ∧ W.cell? ⟨w4.heap.size, 1, none⟩ = some (.string m1) ∧ W.cell? ⟨w4.heap.size, 2, none⟩ = some (.int .i64 mo1) ∧ W.cell? ⟨w4.heap.size, 3, none⟩ = some (.int .i64 ev1) ∧ W.cell? ⟨w4.heap.size, 4, none⟩ = some (.int .i64 su1) ∧ W.cell? ⟨w4.heap.size, 5, none⟩ = some (.int .i64 mx1) ∧ W.cell? ⟨w4.heap.size, 6, none⟩ = some (.slice (some ⟨gA, 0, none⟩) tl1 tl1) ∧ W.cell? ⟨w4.heap.size, 7, none⟩ = some (.slice (some ⟨kA, 0, none⟩) hl1 hl1) ∧ W.cell? ⟨w.heap.size, 0, none⟩ = some (.string a1) ∧ W.cell? ⟨w.heap.size, 1, none⟩ = some (.string m1) ∧ W.cell? ⟨w.heap.size, 2, none⟩ = some (.int .i64 mo1) ∧ W.cell? ⟨w.heap.size, 3, none⟩ = some (.int .i64 ev1) ∧ W.cell? ⟨w.heap.size, 4, none⟩ = some (.int .i64 su1) ∧ W.cell? ⟨w.heap.size, 5, none⟩ = some (.int .i64 mx1) ∧ W.cell? ⟨w.heap.size, 6, none⟩ = some (.slice ta1 tl1 tc1) ∧ W.cell? ⟨w.heap.size, 7, none⟩ = some (.slice ha1 hl1 hc1))) (by kernel_rfl) HX.out (fun hHeld => ?_)
   have HX2 : Hid (BW wa (w4.heap.size) (w.heap.size) (.string a1) (.string m1) (.int .i64 mo1) (.int .i64 ev1) (.int .i64 su1) (.int .i64 mx1) (.slice (some ⟨gA, 0, none⟩) tl1 tl1) (.slice (some ⟨kA, 0, none⟩) hl1 hl1) (.string a1) (.string m1) (.int .i64 mo1) (.int .i64 ev1) (.int .i64 su1) (.int .i64 mx1) (.slice ta1 tl1 tc1) (.slice ha1 hl1 hc1) wa.drew) := hid_intro HX.out
   clear HX
   refine tk (i := 0) (oi := { dst := some 38, op := Op.load 32 (Operand.tmp 7), type := 32, pos := "exact.go:2667", after := #[], guard := none }) (v := ?_) ?_ ?_
   rotate_left
   ·(intro w hSw; (try dsimp only at hSw); go_simp) <;> with_reducible rfl
   try simp only [Act.put, SL]
   refine tk (i := 1) (oi := { dst := some 39, op := Op.load 25 (Operand.tmp 2), type := 25, pos := "exact.go:2667", after := #[], guard := none }) (v := ?_) ?_ ?_
   rotate_left
   ·(intro w hSw; (try dsimp only at hSw); go_simp) <;> with_reducible rfl
   try simp only [Act.put, SL]
   refine wpAnyH_ready (rs := [2]) (by kernel_rfl) (by simp) ?_
   refine AllReadyH.cons (o := { dst := some 40, op := Op.call { callee := Callee.value (Operand.func 8), args := #[Operand.tmp 39], argTypes := #[25] }, type := 32, pos := "exact.go:2667", after := #[{ on := 1, ground := Ground.data }], guard := none }) rfl (fun K hK => ?_) AllReadyH.nil
   go_simp
   go_at_call 8
   refine (HU1.out _ (HBa.out.trans (HX2.out.1.mono HBa.out.size))).mono ?_
   rintro e q1 ⟨gx, kx, rfl, hTx, hq1⟩
   try go_wp2_with fail
   have hk1 := BW.below (show BW wa (w4.heap.size) (w.heap.size) (.string a1) (.string m1) (.int .i64 mo1) (.int .i64 ev1) (.int .i64 su1) (.int .i64 mx1) (.slice (some ⟨gA, 0, none⟩) tl1 tl1) (.slice (some ⟨kA, 0, none⟩) hl1 hl1) (.string a1) (.string m1) (.int .i64 mo1) (.int .i64 ev1) (.int .i64 su1) (.int .i64 mx1) (.slice ta1 tl1 tc1) (.slice ha1 hl1 hc1) wa.drew from HX2.out) hq1
   refine hK.out _ _ hk1 (fun _ => ?_)
   clear hK K
   try simp only [Act.put, SL]
   have hTy := HK1.out _ _ _ _ _ _ (HK1.out _ _ _ _ _ _ HTa.out (Below.refl _ _).drew) hq1
   refine wpAnyH_ready (rs := [3]) (by kernel_rfl) (by simp) ?_
   refine AllReadyH.cons (o := { dst := some 41, op := Op.call { callee := Callee.value (Operand.func 12), args := #[Operand.tmp 38, Operand.tmp 40], argTypes := #[32, 32] }, type := 4, pos := "exact.go:2667", after := #[{ on := 0, ground := Ground.data }, { on := 2, ground := Ground.data }, { on := 2, ground := Ground.chain }], guard := none }) rfl (fun K hK => ?_) AllReadyH.nil
   go_simp
   go_at_call 12
   refine (HE1.out _ _ _ _ _ _ _ _ _ hTy hTx).mono ?_
   rintro e q2 ⟨rfl, hq2⟩
   try go_wp2_with fail
   have hk2 := BW.below (show BW wa (w4.heap.size) (w.heap.size) (.string a1) (.string m1) (.int .i64 mo1) (.int .i64 ev1) (.int .i64 su1) (.int .i64 mx1) (.slice (some ⟨gA, 0, none⟩) tl1 tl1) (.slice (some ⟨kA, 0, none⟩) hl1 hl1) (.string a1) (.string m1) (.int .i64 mo1) (.int .i64 ev1) (.int .i64 su1) (.int .i64 mx1) (.slice ta1 tl1 tc1) (.slice ha1 hl1 hc1) q1 from hk1) hq2
   refine hK.out _ _ hk2 (fun _ => ?_)
   clear hK K
   try simp only [Act.put, SL]
   refine tk (i := 4) (oi := { dst := some 42, op := Op.unOp UnOp.not 4 (Operand.tmp 41), type := 4, pos := "exact.go:2667", after := #[{ on := 3, ground := Ground.data }], guard := none }) (v := ?_) ?_ ?_
   rotate_left
   ·(intro w hSw; (try dsimp only at hSw); go_simp) <;> with_reducible rfl
   try simp only [Act.put, SL]
   refine wpAnyH_done (by kernel_rfl) ?_ _
   have hbz : Below wa.heap.size wa q2 := (show BW wa (w4.heap.size) (w.heap.size) (.string a1) (.string m1) (.int .i64 mo1) (.int .i64 ev1) (.int .i64 su1) (.int .i64 mx1) (.slice (some ⟨gA, 0, none⟩) tl1 tl1) (.slice (some ⟨kA, 0, none⟩) hl1 hl1) (.string a1) (.string m1) (.int .i64 mo1) (.int .i64 ev1) (.int .i64 su1) (.int .i64 mx1) (.slice ta1 tl1 tc1) (.slice ha1 hl1 hc1) q2 from hk2).1
   obtain ⟨wd, hwz⟩ : ∃ wz, wz = q2 := ⟨_, rfl⟩
   subst hwz
   have HBd := hid_intro (HBa.out.trans (hbz.mono HBa.out.size))
   have HAd := hid_intro (HAa.out.below hbz)
   have HCd := hid_intro (HCa.out.below hbz)
   have H6d := hid_intro (H6a.out.below hbz)
   have HNd := hid_intro (HNB.out _ _ _ _ _  HNa.out hbz)
   have HTd := hid_intro (HK1.out _ _ _ _ _ _  HTa.out hbz)
   have H7d := hid_intro (H7a.out.below hbz)
   have HMd := hid_intro (HNB.out _ _ _ _ _  HMa.out hbz)
   have HJd := hid_intro (HJB.out _ _ _ _ _ _  HJa.out hbz)
   have H9d := hid_intro (H9a.out.below hbz)
   clear HBa HAa HCa H6a HNa HTa H7a HMa HJa H9a
   clear hbz hk1 hk2 hTx hTy hq1 hq2 HX2
   have p0 : wd.cell? ⟨w4.heap.size, 0, none⟩ = some (.string a1) := H7d.out.2 0 (by simp)
   have p1 : wd.cell? ⟨w4.heap.size, 1, none⟩ = some (.string m1) := H7d.out.2 1 (by simp)
   have p2 : wd.cell? ⟨w4.heap.size, 2, none⟩ = some (.int .i64 mo1) := H7d.out.2 2 (by simp)
   have p3 : wd.cell? ⟨w4.heap.size, 3, none⟩ = some (.int .i64 ev1) := H7d.out.2 3 (by simp)
   have p4 : wd.cell? ⟨w4.heap.size, 4, none⟩ = some (.int .i64 su1) := H7d.out.2 4 (by simp)
   have p5 : wd.cell? ⟨w4.heap.size, 5, none⟩ = some (.int .i64 mx1) := H7d.out.2 5 (by simp)
   have p6 : wd.cell? ⟨w4.heap.size, 6, none⟩ = some (.slice (some ⟨gA, 0, none⟩) tl1 tl1) := H7d.out.2 6 (by simp)
   have p7 : wd.cell? ⟨w4.heap.size, 7, none⟩ = some (.slice (some ⟨kA, 0, none⟩) hl1 hl1) := H7d.out.2 7 (by simp)
   have pl := H7d.out.1
   go_wp2_with fail
   refine (HG1.out _ _ _ _ _ HTd.out).mono ?_
   rintro e we ⟨rfl, hoe⟩
   have o0 := HSW.out
   have o2 := HT6.out
   have o3 := HS4.out
   have o4 := HS5.out
   obtain ⟨o5, o6, o7⟩ := HPS.out
   have o8 := H6L.out
   have o9 := HTM.out
   have HBe := hid_intro (HBd.out.trans (hoe.bel (B := w.heap.size) (by omega) HBd.out.size))
   have HAe := hid_intro (hoe.blk HAd.out (.inl (by omega)))
   have HCe := hid_intro (hoe.blk HCd.out (.inl (by omega)))
   have H6e := hid_intro (hoe.blk H6d.out (.inl (by omega)))
   have H9e := hid_intro (hoe.blk H9d.out (.inr (by omega)))
   have HNe := hid_intro (HNO.out _ _ _ _ _ _ _ HNd.out hoe (.inl (by omega)))
   have HMe := hid_intro (HNO.out _ _ _ _ _ _ _ HMd.out hoe (.inr (by omega)))
   have HJe := hid_intro (HJO.out _ _ _ _ _ _ _ _  HJd.out hoe (by omega))
   clear hoe HBd HAd HCd H6d H9d HNd HMd HJd HTd H7d
   clear o0 o2 o3 o4 o5 o6 o7 o8 o9
   clear p0 p1 p2 p3 p4 p5 p6 p7 pl
   have p0 : we.cell? ⟨b9, 0, none⟩ = some (.string a) := H9e.out.2 0 (by simp)
   have p1 : we.cell? ⟨b9, 1, none⟩ = some (.string m) := H9e.out.2 1 (by simp)
   have p2 : we.cell? ⟨b9, 2, none⟩ = some (.int .i64 mo) := H9e.out.2 2 (by simp)
   have p3 : we.cell? ⟨b9, 3, none⟩ = some (.int .i64 ev) := H9e.out.2 3 (by simp)
   have p4 : we.cell? ⟨b9, 4, none⟩ = some (.int .i64 su) := H9e.out.2 4 (by simp)
   have p5 : we.cell? ⟨b9, 5, none⟩ = some (.int .i64 mx) := H9e.out.2 5 (by simp)
   have p6 : we.cell? ⟨b9, 6, none⟩ = some (.slice t1 tl c1) := H9e.out.2 6 (by simp)
   have p7 : we.cell? ⟨b9, 7, none⟩ = some (.slice h1 hl d1) := H9e.out.2 7 (by simp)
   have p8 : we.cell? ⟨b9, 8, none⟩ = some (.int .i64 cd) := H9e.out.2 8 (by simp)
   have pl := H9e.out.1
   have q0 : we.cell? ⟨b6, 0, none⟩ = some (.string a) := H6e.out.2 0 (by simp)
   have q1 : we.cell? ⟨b6, 1, none⟩ = some (.string m) := H6e.out.2 1 (by simp)
   have q2 : we.cell? ⟨b6, 2, none⟩ = some (.int .i64 mo) := H6e.out.2 2 (by simp)
   have q3 : we.cell? ⟨b6, 3, none⟩ = some (.int .i64 ev) := H6e.out.2 3 (by simp)
   have q4 : we.cell? ⟨b6, 4, none⟩ = some (.int .i64 su) := H6e.out.2 4 (by simp)
   have q5 : we.cell? ⟨b6, 5, none⟩ = some (.int .i64 mx) := H6e.out.2 5 (by simp)
   have q6 : we.cell? ⟨b6, 6, none⟩ = some (.slice t0 tl c0) := H6e.out.2 6 (by simp)
   have q7 : we.cell? ⟨b6, 7, none⟩ = some (.slice h0 hl d0) := H6e.out.2 7 (by simp)
   have q8 : we.cell? ⟨b6, 8, none⟩ = some (.int .i64 cd) := H6e.out.2 8 (by simp)
   have ql := H6e.out.1
   go_wp2_with fail
   refine (HEO.out _ _ _ _ _ _ _ HMe.out HNe.out).mono ?_
   rintro e wg ⟨rfl, hbg⟩
   have HBg := hid_intro (HBe.out.trans (hbg.mono HBe.out.size))
   have HAg := hid_intro (HAe.out.below hbg)
   have HCg := hid_intro (HCe.out.below hbg)
   have H6g := hid_intro (H6e.out.below hbg)
   have H9g := hid_intro (H9e.out.below hbg)
   have HNg := hid_intro (HNB.out _ _ _ _ _  HNe.out hbg)
   have HMg := hid_intro (HNB.out _ _ _ _ _  HMe.out hbg)
   have HJg := hid_intro (HJB.out _ _ _ _ _ _  HJe.out hbg)
   clear HBe HAe HCe H6e H9e HNe HMe HJe
   clear hbg
   clear p0 p1 p2 p3 p4 p5 p6 p7 p8 pl
   clear q0 q1 q2 q3 q4 q5 q6 q7 q8 ql
   have p0 : wg.cell? ⟨b9, 0, none⟩ = some (.string a) := H9g.out.2 0 (by simp)
   have p1 : wg.cell? ⟨b9, 1, none⟩ = some (.string m) := H9g.out.2 1 (by simp)
   have p2 : wg.cell? ⟨b9, 2, none⟩ = some (.int .i64 mo) := H9g.out.2 2 (by simp)
   have p3 : wg.cell? ⟨b9, 3, none⟩ = some (.int .i64 ev) := H9g.out.2 3 (by simp)
   have p4 : wg.cell? ⟨b9, 4, none⟩ = some (.int .i64 su) := H9g.out.2 4 (by simp)
   have p5 : wg.cell? ⟨b9, 5, none⟩ = some (.int .i64 mx) := H9g.out.2 5 (by simp)
   have p6 : wg.cell? ⟨b9, 6, none⟩ = some (.slice t1 tl c1) := H9g.out.2 6 (by simp)
   have p7 : wg.cell? ⟨b9, 7, none⟩ = some (.slice h1 hl d1) := H9g.out.2 7 (by simp)
   have p8 : wg.cell? ⟨b9, 8, none⟩ = some (.int .i64 cd) := H9g.out.2 8 (by simp)
   have pl := H9g.out.1
   go_wp2_with fail
   refine (HGO.out _ _ _ _ _ _ _ HJg.out).mono ?_
   rintro e wh ⟨rfl, hDh, hoh⟩
   have o0 := HSW.out
   have o2 := HT6.out
   have o3 := HS4.out
   have o4 := HS5.out
   obtain ⟨o5, o6, o7⟩ := HPS.out
   have o8 := H6L.out
   have o9 := HTM.out
   have HBh := hid_intro (HBg.out.trans (hoh.bel (B := w.heap.size) (by omega) HBg.out.size))
   have HAh := hid_intro (hoh.blk HAg.out (.inl (by omega)))
   have HCh := hid_intro (hoh.blk HCg.out (.inl (by omega)))
   have H6h := hid_intro (hoh.blk H6g.out (.inl (by omega)))
   have H9h := hid_intro (hoh.blk H9g.out (by omega))
   have HNh := hid_intro (HNO.out _ _ _ _ _ _ _ HNg.out hoh (.inl (by omega)))
   have HDh := hid_intro hDh
   clear hDh hoh HBg HAg HCg H6g H9g HNg HMg HJg
   clear o0 o2 o3 o4 o5 o6 o7 o8 o9
   clear p0 p1 p2 p3 p4 p5 p6 p7 p8 pl
   have p0 : wh.cell? ⟨b9, 0, none⟩ = some (.string a) := H9h.out.2 0 (by simp)
   have p1 : wh.cell? ⟨b9, 1, none⟩ = some (.string m) := H9h.out.2 1 (by simp)
   have p2 : wh.cell? ⟨b9, 2, none⟩ = some (.int .i64 mo) := H9h.out.2 2 (by simp)
   have p3 : wh.cell? ⟨b9, 3, none⟩ = some (.int .i64 ev) := H9h.out.2 3 (by simp)
   have p4 : wh.cell? ⟨b9, 4, none⟩ = some (.int .i64 su) := H9h.out.2 4 (by simp)
   have p5 : wh.cell? ⟨b9, 5, none⟩ = some (.int .i64 mx) := H9h.out.2 5 (by simp)
   have p6 : wh.cell? ⟨b9, 6, none⟩ = some (.slice t1 tl c1) := H9h.out.2 6 (by simp)
   have p7 : wh.cell? ⟨b9, 7, none⟩ = some (.slice h1 hl d1) := H9h.out.2 7 (by simp)
   have p8 : wh.cell? ⟨b9, 8, none⟩ = some (.int .i64 cd) := H9h.out.2 8 (by simp)
   have pl := H9h.out.1
   go_wp2_with fail
   refine (HHO.out _ _ _ _ _ HDh.out).mono ?_
   rintro e wi ⟨rfl, hbi⟩
   have HBi := hid_intro (HBh.out.trans (hbi.mono HBh.out.size))
   have HAi := hid_intro (HAh.out.below hbi)
   have HCi := hid_intro (HCh.out.below hbi)
   have H6i := hid_intro (H6h.out.below hbi)
   have H9i := hid_intro (H9h.out.below hbi)
   have HNi := hid_intro (HNB.out _ _ _ _ _  HNh.out hbi)
   have HDi := hid_intro (HDB.out _ _ _ _  HDh.out hbi)
   clear HBh HAh HCh H6h H9h HNh HDh
   clear hbi
   clear p0 p1 p2 p3 p4 p5 p6 p7 p8 pl
   go_wp2_with fail
   go_cut [12] from 65 (fun v wx => ∃ bO t3 c3 h3 d3 bN tN, v = .pointer (some ⟨bO, 0, none⟩) ∧ Hid (Blk bO [.string a, .string m, .int .i64 mo, .int .i64 ev, .int .i64 su, .int .i64 mx, .slice t3 tl c3, .slice h3 hl d3, .int .i64 cd] wx) ∧ Hid (N bN tN (.agg #[.string a, .string m, .int .i64 mo, .int .i64 ev, .int .i64 su, .int .i64 mx, .slice t3 tl c3, .slice h3 hl d3, .int .i64 cd]) wx) ∧ Hid (tN ≤ wx.heap.size) ∧ Hid ((bO < bN ∨ tN ≤ bO) ∧ wi.heap.size ≤ bO ∧ wi.heap.size ≤ bN) ∧ Hid (BX wi (w.heap.size) (w.heap.size + 1) (.string a1) (.string m1) (.int .i64 mo1) (.int .i64 ev1) (.int .i64 su1) (.int .i64 mx1) (.slice ta1 tl1 tc1) (.slice ha1 hl1 hc1) (.string iE) (.string aE) (.string mE) (.int .i64 nE) (.int .i64 kE) (.string tE) wx))
   case first =>
    have a0 : w.heap.size < wi.heap.size := HAi.out.1
    have b0 : w.heap.size + 1 < wi.heap.size := HCi.out.1
    have HX := hid_intro (BX.of HAi.out HCi.out)
    have HBW := hid_intro HBi.out
    refine wp_region_held_drew (S := (fun W => Below wi.heap.size wi W ∧ w.heap.size < W.heap.size ∧ w.heap.size + 1 < W.heap.size ∧ W.cell? ⟨w.heap.size, 0, none⟩ = some (.string a1) ∧ W.cell? ⟨w.heap.size, 1, none⟩ = some (.string m1) ∧ W.cell? ⟨w.heap.size, 2, none⟩ = some (.int .i64 mo1) ∧ W.cell? ⟨w.heap.size, 3, none⟩ = some (.int .i64 ev1) ∧ W.cell? ⟨w.heap.size, 4, none⟩ = some (.int .i64 su1) ∧ W.cell? ⟨w.heap.size, 5, none⟩ = some (.int .i64 mx1) ∧ W.cell? ⟨w.heap.size, 6, none⟩ = some (.slice ta1 tl1 tc1) ∧ W.cell? ⟨w.heap.size, 7, none⟩ = some (.slice ha1 hl1 hc1) ∧ W.cell? ⟨w.heap.size + 1, 0, none⟩ = some (.string iE) ∧ W.cell? ⟨w.heap.size + 1, 1, none⟩ = some (.string aE) ∧ W.cell? ⟨w.heap.size + 1, 2, none⟩ = some (.string mE) ∧ W.cell? ⟨w.heap.size + 1, 3, none⟩ = some (.int .i64 nE) ∧ W.cell? ⟨w.heap.size + 1, 4, none⟩ = some (.int .i64 kE) ∧ W.cell? ⟨w.heap.size + 1, 5, none⟩ = some (.string tE))) (by kernel_rfl) HX.out (fun hHeld => ?_)
    have HX2 : Hid (BX wi (w.heap.size) (w.heap.size + 1) (.string a1) (.string m1) (.int .i64 mo1) (.int .i64 ev1) (.int .i64 su1) (.int .i64 mx1) (.slice ta1 tl1 tc1) (.slice ha1 hl1 hc1) (.string iE) (.string aE) (.string mE) (.int .i64 nE) (.int .i64 kE) (.string tE) wi.drew) := hid_intro HX.out
    clear HX
    generalize wi.drew = kd at *
    refine tk (i := 0) (oi := { dst := some 65, op := Op.load 25 (Operand.tmp 2), type := 25, pos := "exact.go:2685", after := #[], guard := none }) (v := ?_) ?_ ?_
    rotate_left
    ·(intro w hSw; (try dsimp only at hSw); go_simp) <;> with_reducible rfl
    try simp only [Act.put, SL]
    refine tk (i := 2) (oi := { dst := some 67, op := Op.load 27 (Operand.tmp 3), type := 27, pos := "exact.go:2685", after := #[], guard := none }) (v := ?_) ?_ ?_
    rotate_left
    ·(intro w hSw; (try dsimp only at hSw); go_simp) <;> with_reducible rfl
    try simp only [Act.put, SL]
    refine wpAnyH_ready (rs := [1, 5]) (by kernel_rfl) (by simp) ?_
    refine AllReadyH.cons (o := { dst := some 66, op := Op.call { callee := Callee.value (Operand.func 8), args := #[Operand.tmp 65], argTypes := #[25] }, type := 32, pos := "exact.go:2685", after := #[{ on := 0, ground := Ground.data }], guard := none }) rfl (fun K hK => ?_) (AllReadyH.cons (o := { dst := some 12, op := Op.alloc 34, type := 0, pos := "exact.go:2685", after := #[], guard := none }) rfl (fun K hK => ?_) AllReadyH.nil)
    ·go_simp
     go_at_call 8
     refine (HU1.out _ (HBW.out.trans ((show BX wi (w.heap.size) (w.heap.size + 1) (.string a1) (.string m1) (.int .i64 mo1) (.int .i64 ev1) (.int .i64 su1) (.int .i64 mx1) (.slice ta1 tl1 tc1) (.slice ha1 hl1 hc1) (.string iE) (.string aE) (.string mE) (.int .i64 nE) (.int .i64 kE) (.string tE) kd from HX2.out).1.mono HBW.out.size))).mono ?_
     rintro e u1 ⟨g1x, h1x, rfl, hT1, hq1⟩
     try go_wp2_with fail
     have hh1 := BX.below (show BX wi (w.heap.size) (w.heap.size + 1) (.string a1) (.string m1) (.int .i64 mo1) (.int .i64 ev1) (.int .i64 su1) (.int .i64 mx1) (.slice ta1 tl1 tc1) (.slice ha1 hl1 hc1) (.string iE) (.string aE) (.string mE) (.int .i64 nE) (.int .i64 kE) (.string tE) kd from HX2.out) hq1
     refine hK.out _ _ hh1 (fun _ => ?_)
     clear hK K
     try simp only [Act.put, SL]
     refine wpAnyH_ready (rs := [3, 5]) (by kernel_rfl) (by simp) ?_
     refine AllReadyH.cons (o := { dst := some 68, op := Op.call { callee := Callee.value (Operand.func 9), args := #[Operand.tmp 67], argTypes := #[27] }, type := 37, pos := "exact.go:2685", after := #[{ on := 2, ground := Ground.data }, { on := 1, ground := Ground.chain }], guard := none }) rfl (fun K hK => ?_) (AllReadyH.cons (o := { dst := some 12, op := Op.alloc 34, type := 0, pos := "exact.go:2685", after := #[], guard := none }) rfl (fun K hK => ?_) AllReadyH.nil)
     ·go_simp
      go_at_call 9
      refine (HU2.out _).mono ?_
      rintro e u2 ⟨rfl, hq2⟩
      try go_wp2_with fail
      have hh2 := BX.below (show BX wi (w.heap.size) (w.heap.size + 1) (.string a1) (.string m1) (.int .i64 mo1) (.int .i64 ev1) (.int .i64 su1) (.int .i64 mx1) (.slice ta1 tl1 tc1) (.slice ha1 hl1 hc1) (.string iE) (.string aE) (.string mE) (.int .i64 nE) (.int .i64 kE) (.string tE) u1 from hh1) hq2
      have hT1_2 := HK1.out _ _ _ _ _ _  hT1 hq2
      refine hK.out _ _ hh2 (fun _ => ?_)
      clear hK K
      try simp only [Act.put, SL]
      refine wpAnyH_ready (rs := [4, 5]) (by kernel_rfl) (by simp) ?_
      refine AllReadyH.cons (o := { dst := some 69, op := Op.call { callee := Callee.value (Operand.func 10), args := #[Operand.tmp 66, Operand.tmp 68], argTypes := #[32, 37] }, type := 34, pos := "exact.go:2685", after := #[{ on := 1, ground := Ground.data }, { on := 3, ground := Ground.data }, { on := 3, ground := Ground.chain }], guard := none }) rfl (fun K hK => ?_) (AllReadyH.cons (o := { dst := some 12, op := Op.alloc 34, type := 0, pos := "exact.go:2685", after := #[], guard := none }) rfl (fun K hK => ?_) AllReadyH.nil)
      ·go_simp
       have hLL := HL.out.below (HBW.out.trans ((show BX wi (w.heap.size) (w.heap.size + 1) (.string a1) (.string m1) (.int .i64 mo1) (.int .i64 ev1) (.int .i64 su1) (.int .i64 mx1) (.slice ta1 tl1 tc1) (.slice ha1 hl1 hc1) (.string iE) (.string aE) (.string mE) (.int .i64 nE) (.int .i64 kE) (.string tE) u2 from hh2).1.mono HBW.out.size))
       go_at_call 10
       refine (HJJ.out _ _ _ _ _ hLL hT1_2).mono ?_
       rintro e u3 ⟨t3, c3, h3, d3, rfl, hN, _, hq3⟩
       try go_wp2_with fail
       have hbn : wi.heap.size ≤ u2.heap.size := (show BX wi (w.heap.size) (w.heap.size + 1) (.string a1) (.string m1) (.int .i64 mo1) (.int .i64 ev1) (.int .i64 su1) (.int .i64 mx1) (.slice ta1 tl1 tc1) (.slice ha1 hl1 hc1) (.string iE) (.string aE) (.string mE) (.int .i64 nE) (.int .i64 kE) (.string tE) u2 from hh2).1.size
       have hh3 := BX.below (show BX wi (w.heap.size) (w.heap.size + 1) (.string a1) (.string m1) (.int .i64 mo1) (.int .i64 ev1) (.int .i64 su1) (.int .i64 mx1) (.slice ta1 tl1 tc1) (.slice ha1 hl1 hc1) (.string iE) (.string aE) (.string mE) (.int .i64 nE) (.int .i64 kE) (.string tE) u2 from hh2) hq3
       have hT1_3 := HK1.out _ _ _ _ _ _  hT1_2 hq3
       refine hK.out _ _ hh3 (fun _ => ?_)
       clear hK K
       try simp only [Act.put, SL]
       refine wpAnyH_ready (rs := [5]) (by kernel_rfl) (by simp) ?_
       refine AllReadyH.cons (o := { dst := some 12, op := Op.alloc 34, type := 0, pos := "exact.go:2685", after := #[], guard := none }) rfl (fun K hK => ?_) AllReadyH.nil
       go_simp
       try go_wp2_with fail
       have hlo : wi.heap.size ≤ u3.heap.size := (show BX wi (w.heap.size) (w.heap.size + 1) (.string a1) (.string m1) (.int .i64 mo1) (.int .i64 ev1) (.int .i64 su1) (.int .i64 mx1) (.slice ta1 tl1 tc1) (.slice ha1 hl1 hc1) (.string iE) (.string aE) (.string mE) (.int .i64 nE) (.int .i64 kE) (.string tE) u3 from hh3).1.size
       have hrel : u3.heap.size < u2.heap.size ∨ u3.heap.size ≤ u3.heap.size := .inr (by first | exact Nat.le_refl _ | omega)
       have hh4 := BX.below (show BX wi (w.heap.size) (w.heap.size + 1) (.string a1) (.string m1) (.int .i64 mo1) (.int .i64 ev1) (.int .i64 su1) (.int .i64 mx1) (.slice ta1 tl1 tc1) (.slice ha1 hl1 hc1) (.string iE) (.string aE) (.string mE) (.int .i64 nE) (.int .i64 kE) (.string tE) u3 from hh3) ((Below.refl u3.heap.size u3).alloc (Nat.le_refl _) (Obj.cells #[.string ⟨#[]⟩, .string ⟨#[]⟩, .int .i64 0, .int .i64 0, .int .i64 0, .int .i64 0, .slice none 0 0, .slice none 0 0, .int .i64 0] 34))
       have hT1_4 := HK1.out _ _ _ _ _ _  hT1_3 ((Below.refl u3.heap.size u3).alloc (Nat.le_refl _) (Obj.cells #[.string ⟨#[]⟩, .string ⟨#[]⟩, .int .i64 0, .int .i64 0, .int .i64 0, .int .i64 0, .slice none 0 0, .slice none 0 0, .int .i64 0] 34))
       have hN_4 := HNB.out _ _ _ _ _  hN ((Below.refl u3.heap.size u3).alloc (Nat.le_refl _) (Obj.cells #[.string ⟨#[]⟩, .string ⟨#[]⟩, .int .i64 0, .int .i64 0, .int .i64 0, .int .i64 0, .slice none 0 0, .slice none 0 0, .int .i64 0] 34))
       have pt_4 : Pt u3.heap.size 9 (u3.alloc (Obj.cells #[.string ⟨#[]⟩, .string ⟨#[]⟩, .int .i64 0, .int .i64 0, .int .i64 0, .int .i64 0, .slice none 0 0, .slice none 0 0, .int .i64 0] 34)) := StR.pt_new u3 [.string ⟨#[]⟩, .string ⟨#[]⟩, .int .i64 0, .int .i64 0, .int .i64 0, .int .i64 0, .slice none 0 0, .slice none 0 0, .int .i64 0] 34
       refine hK.out _ _ hh4 (fun _ => ?_)
       clear hK K
       try simp only [Act.put, SL]
       generalize (u3.alloc (Obj.cells #[.string ⟨#[]⟩, .string ⟨#[]⟩, .int .i64 0, .int .i64 0, .int .i64 0, .int .i64 0, .slice none 0 0, .slice none 0 0, .int .i64 0] 34)) = k4 at *
       refine wpAnyH_ready (rs := [6]) (by kernel_rfl) (by simp) ?_
       refine AllReadyH.cons (o := { dst := none, op := Op.store 34 (Operand.tmp 12) (Operand.tmp 69), type := 0, pos := "exact.go:2685", after := #[{ on := 5, ground := Ground.data }, { on := 4, ground := Ground.data }, { on := 4, ground := Ground.chain }, { on := 0, ground := Ground.phase }, { on := 1, ground := Ground.phase }, { on := 2, ground := Ground.phase }, { on := 3, ground := Ground.phase }, { on := 4, ground := Ground.phase }, { on := 5, ground := Ground.phase }], guard := none }) rfl (fun K hK => ?_) AllReadyH.nil
       have htn2 : u3.heap.size ≤ k4.heap.size := by first | exact Nat.le_refl _ | (have := (show BX wi (w.heap.size) (w.heap.size + 1) (.string a1) (.string m1) (.int .i64 mo1) (.int .i64 ev1) (.int .i64 su1) (.int .i64 mx1) (.slice ta1 tl1 tc1) (.slice ha1 hl1 hc1) (.string iE) (.string aE) (.string mE) (.int .i64 nE) (.int .i64 kE) (.string tE) k4 from hh4).1.size; omega) | (have := pt_4.lt; omega)
       have zl5 := pt_4.lt
       obtain ⟨e5_0, y5_0⟩ := pt_4.has 0 (by omega)
       have z5_0 := pt_4.free 0 (by omega)
       obtain ⟨e5_1, y5_1⟩ := pt_4.has 1 (by omega)
       have z5_1 := pt_4.free 1 (by omega)
       obtain ⟨e5_2, y5_2⟩ := pt_4.has 2 (by omega)
       have z5_2 := pt_4.free 2 (by omega)
       obtain ⟨e5_3, y5_3⟩ := pt_4.has 3 (by omega)
       have z5_3 := pt_4.free 3 (by omega)
       obtain ⟨e5_4, y5_4⟩ := pt_4.has 4 (by omega)
       have z5_4 := pt_4.free 4 (by omega)
       obtain ⟨e5_5, y5_5⟩ := pt_4.has 5 (by omega)
       have z5_5 := pt_4.free 5 (by omega)
       obtain ⟨e5_6, y5_6⟩ := pt_4.has 6 (by omega)
       have z5_6 := pt_4.free 6 (by omega)
       obtain ⟨e5_7, y5_7⟩ := pt_4.has 7 (by omega)
       have z5_7 := pt_4.free 7 (by omega)
       obtain ⟨e5_8, y5_8⟩ := pt_4.has 8 (by omega)
       have z5_8 := pt_4.free 8 (by omega)
       go_simp
       try go_wp2_with fail
       have hg5 := StR.stL_grown u3.heap.size [.string a, .string m, .int .i64 mo, .int .i64 ev, .int .i64 su, .int .i64 mx, .slice t3 tl c3, .slice h3 hl d3, .int .i64 cd] 0 k4
       have hbO := StR.stL_blk (vs := [.string a, .string m, .int .i64 mo, .int .i64 ev, .int .i64 su, .int .i64 mx, .slice t3 tl c3, .slice h3 hl d3, .int .i64 cd]) (W := k4) pt_4 (by simp)
       have hh5 := BX.grown (show BX wi (w.heap.size) (w.heap.size + 1) (.string a1) (.string m1) (.int .i64 mo1) (.int .i64 ev1) (.int .i64 su1) (.int .i64 mx1) (.slice ta1 tl1 tc1) (.slice ha1 hl1 hc1) (.string iE) (.string aE) (.string mE) (.int .i64 nE) (.int .i64 kE) (.string tE) k4 from hh4) hlo a0 b0 hg5
       have hNn := HNG.out _ _ _ _ _ _ hN_4 hg5 hrel
       have hsz := Nat.le_trans htn2 hg5.size
       have hpos := And.intro hrel (And.intro hlo hbn)
       simp only [StR.stL, Nat.zero_add, Nat.reduceAdd] at hh5 hbO hNn hsz
       refine hK.out _ _ hh5 (fun _ => ?_)
       clear hK K
       try simp only [Act.put, SL]
       generalize (((((((((k4.setCell ⟨u3.heap.size, 0, none⟩ (.string a)).setCell ⟨u3.heap.size, 1, none⟩ (.string m)).setCell ⟨u3.heap.size, 2, none⟩ (.int .i64 mo)).setCell ⟨u3.heap.size, 3, none⟩ (.int .i64 ev)).setCell ⟨u3.heap.size, 4, none⟩ (.int .i64 su)).setCell ⟨u3.heap.size, 5, none⟩ (.int .i64 mx)).setCell ⟨u3.heap.size, 6, none⟩ (.slice t3 tl c3)).setCell ⟨u3.heap.size, 7, none⟩ (.slice h3 hl d3)).setCell ⟨u3.heap.size, 8, none⟩ (.int .i64 cd)) = k5 at *
       refine wpAnyH_done (by kernel_rfl) ?_ _
       have F1 := hid_intro hbO
       have F2 := hid_intro hNn
       have F3 := hid_intro hsz
       have F5 := hid_intro hpos
       have F4 := hid_intro (show BX wi (w.heap.size) (w.heap.size + 1) (.string a1) (.string m1) (.int .i64 mo1) (.int .i64 ev1) (.int .i64 su1) (.int .i64 mx1) (.slice ta1 tl1 tc1) (.slice ha1 hl1 hc1) (.string iE) (.string aE) (.string mE) (.int .i64 nE) (.int .i64 kE) (.string tE) k5 from hh5)
       try clear y5_8
       try clear y5_7
       try clear y5_6
       try clear y5_5
       try clear y5_4
       try clear y5_3
       try clear y5_2
       try clear y5_1
       try clear y5_0
       try clear hpos
       try clear hsz
       try clear hNn
       try clear hh5
       try clear hbO
       try clear hg5
       try clear z5_8
       try clear z5_7
       try clear z5_6
       try clear z5_5
       try clear z5_4
       try clear z5_3
       try clear z5_2
       try clear z5_1
       try clear z5_0
       try clear zl5
       try clear htn2
       try clear pt_4
       try clear hN_4
       try clear hT1_4
       try clear hh4
       try clear hrel
       try clear hlo
       try clear hq3
       try clear hN
       try clear hT1_3
       try clear hh3
       try clear hbn
       try clear hLL
       try clear hq2
       try clear hT1_2
       try clear hh2
       try clear hq1
       try clear hT1
       try clear hh1
       go_wp2_with fail
       go_meet
       case rel => exact ⟨_, _, _, _, _, _, _, rfl, F1, F2, F3, F5, F4⟩
      ·go_simp
       try go_wp2_with fail
       have hlo : wi.heap.size ≤ u2.heap.size := (show BX wi (w.heap.size) (w.heap.size + 1) (.string a1) (.string m1) (.int .i64 mo1) (.int .i64 ev1) (.int .i64 su1) (.int .i64 mx1) (.slice ta1 tl1 tc1) (.slice ha1 hl1 hc1) (.string iE) (.string aE) (.string mE) (.int .i64 nE) (.int .i64 kE) (.string tE) u2 from hh2).1.size
       have hh3 := BX.below (show BX wi (w.heap.size) (w.heap.size + 1) (.string a1) (.string m1) (.int .i64 mo1) (.int .i64 ev1) (.int .i64 su1) (.int .i64 mx1) (.slice ta1 tl1 tc1) (.slice ha1 hl1 hc1) (.string iE) (.string aE) (.string mE) (.int .i64 nE) (.int .i64 kE) (.string tE) u2 from hh2) ((Below.refl u2.heap.size u2).alloc (Nat.le_refl _) (Obj.cells #[.string ⟨#[]⟩, .string ⟨#[]⟩, .int .i64 0, .int .i64 0, .int .i64 0, .int .i64 0, .slice none 0 0, .slice none 0 0, .int .i64 0] 34))
       have hT1_3 := HK1.out _ _ _ _ _ _  hT1_2 ((Below.refl u2.heap.size u2).alloc (Nat.le_refl _) (Obj.cells #[.string ⟨#[]⟩, .string ⟨#[]⟩, .int .i64 0, .int .i64 0, .int .i64 0, .int .i64 0, .slice none 0 0, .slice none 0 0, .int .i64 0] 34))
       have pt_3 : Pt u2.heap.size 9 (u2.alloc (Obj.cells #[.string ⟨#[]⟩, .string ⟨#[]⟩, .int .i64 0, .int .i64 0, .int .i64 0, .int .i64 0, .slice none 0 0, .slice none 0 0, .int .i64 0] 34)) := StR.pt_new u2 [.string ⟨#[]⟩, .string ⟨#[]⟩, .int .i64 0, .int .i64 0, .int .i64 0, .int .i64 0, .slice none 0 0, .slice none 0 0, .int .i64 0] 34
       refine hK.out _ _ hh3 (fun _ => ?_)
       clear hK K
       try simp only [Act.put, SL]
       generalize (u2.alloc (Obj.cells #[.string ⟨#[]⟩, .string ⟨#[]⟩, .int .i64 0, .int .i64 0, .int .i64 0, .int .i64 0, .slice none 0 0, .slice none 0 0, .int .i64 0] 34)) = k3 at *
       refine wpAnyH_ready (rs := [4]) (by kernel_rfl) (by simp) ?_
       refine AllReadyH.cons (o := { dst := some 69, op := Op.call { callee := Callee.value (Operand.func 10), args := #[Operand.tmp 66, Operand.tmp 68], argTypes := #[32, 37] }, type := 34, pos := "exact.go:2685", after := #[{ on := 1, ground := Ground.data }, { on := 3, ground := Ground.data }, { on := 3, ground := Ground.chain }], guard := none }) rfl (fun K hK => ?_) AllReadyH.nil
       go_simp
       have hLL := HL.out.below (HBW.out.trans ((show BX wi (w.heap.size) (w.heap.size + 1) (.string a1) (.string m1) (.int .i64 mo1) (.int .i64 ev1) (.int .i64 su1) (.int .i64 mx1) (.slice ta1 tl1 tc1) (.slice ha1 hl1 hc1) (.string iE) (.string aE) (.string mE) (.int .i64 nE) (.int .i64 kE) (.string tE) k3 from hh3).1.mono HBW.out.size))
       go_at_call 10
       refine (HJJ.out _ _ _ _ _ hLL hT1_3).mono ?_
       rintro e u4 ⟨t3, c3, h3, d3, rfl, hN, _, hq4⟩
       try go_wp2_with fail
       have hrel : u2.heap.size < k3.heap.size ∨ u4.heap.size ≤ u2.heap.size := .inl pt_3.lt
       have hbn : wi.heap.size ≤ k3.heap.size := (show BX wi (w.heap.size) (w.heap.size + 1) (.string a1) (.string m1) (.int .i64 mo1) (.int .i64 ev1) (.int .i64 su1) (.int .i64 mx1) (.slice ta1 tl1 tc1) (.slice ha1 hl1 hc1) (.string iE) (.string aE) (.string mE) (.int .i64 nE) (.int .i64 kE) (.string tE) k3 from hh3).1.size
       have hh4 := BX.below (show BX wi (w.heap.size) (w.heap.size + 1) (.string a1) (.string m1) (.int .i64 mo1) (.int .i64 ev1) (.int .i64 su1) (.int .i64 mx1) (.slice ta1 tl1 tc1) (.slice ha1 hl1 hc1) (.string iE) (.string aE) (.string mE) (.int .i64 nE) (.int .i64 kE) (.string tE) k3 from hh3) hq4
       have hT1_4 := HK1.out _ _ _ _ _ _  hT1_3 hq4
       have pt_4 := pt_3.below hq4
       refine hK.out _ _ hh4 (fun _ => ?_)
       clear hK K
       try simp only [Act.put, SL]
       refine wpAnyH_ready (rs := [6]) (by kernel_rfl) (by simp) ?_
       refine AllReadyH.cons (o := { dst := none, op := Op.store 34 (Operand.tmp 12) (Operand.tmp 69), type := 0, pos := "exact.go:2685", after := #[{ on := 5, ground := Ground.data }, { on := 4, ground := Ground.data }, { on := 4, ground := Ground.chain }, { on := 0, ground := Ground.phase }, { on := 1, ground := Ground.phase }, { on := 2, ground := Ground.phase }, { on := 3, ground := Ground.phase }, { on := 4, ground := Ground.phase }, { on := 5, ground := Ground.phase }], guard := none }) rfl (fun K hK => ?_) AllReadyH.nil
       have htn2 : u4.heap.size ≤ u4.heap.size := by first | exact Nat.le_refl _ | (have := (show BX wi (w.heap.size) (w.heap.size + 1) (.string a1) (.string m1) (.int .i64 mo1) (.int .i64 ev1) (.int .i64 su1) (.int .i64 mx1) (.slice ta1 tl1 tc1) (.slice ha1 hl1 hc1) (.string iE) (.string aE) (.string mE) (.int .i64 nE) (.int .i64 kE) (.string tE) u4 from hh4).1.size; omega) | (have := pt_4.lt; omega)
       have zl5 := pt_4.lt
       obtain ⟨e5_0, y5_0⟩ := pt_4.has 0 (by omega)
       have z5_0 := pt_4.free 0 (by omega)
       obtain ⟨e5_1, y5_1⟩ := pt_4.has 1 (by omega)
       have z5_1 := pt_4.free 1 (by omega)
       obtain ⟨e5_2, y5_2⟩ := pt_4.has 2 (by omega)
       have z5_2 := pt_4.free 2 (by omega)
       obtain ⟨e5_3, y5_3⟩ := pt_4.has 3 (by omega)
       have z5_3 := pt_4.free 3 (by omega)
       obtain ⟨e5_4, y5_4⟩ := pt_4.has 4 (by omega)
       have z5_4 := pt_4.free 4 (by omega)
       obtain ⟨e5_5, y5_5⟩ := pt_4.has 5 (by omega)
       have z5_5 := pt_4.free 5 (by omega)
       obtain ⟨e5_6, y5_6⟩ := pt_4.has 6 (by omega)
       have z5_6 := pt_4.free 6 (by omega)
       obtain ⟨e5_7, y5_7⟩ := pt_4.has 7 (by omega)
       have z5_7 := pt_4.free 7 (by omega)
       obtain ⟨e5_8, y5_8⟩ := pt_4.has 8 (by omega)
       have z5_8 := pt_4.free 8 (by omega)
       go_simp
       try go_wp2_with fail
       have hg5 := StR.stL_grown u2.heap.size [.string a, .string m, .int .i64 mo, .int .i64 ev, .int .i64 su, .int .i64 mx, .slice t3 tl c3, .slice h3 hl d3, .int .i64 cd] 0 u4
       have hbO := StR.stL_blk (vs := [.string a, .string m, .int .i64 mo, .int .i64 ev, .int .i64 su, .int .i64 mx, .slice t3 tl c3, .slice h3 hl d3, .int .i64 cd]) (W := u4) pt_4 (by simp)
       have hh5 := BX.grown (show BX wi (w.heap.size) (w.heap.size + 1) (.string a1) (.string m1) (.int .i64 mo1) (.int .i64 ev1) (.int .i64 su1) (.int .i64 mx1) (.slice ta1 tl1 tc1) (.slice ha1 hl1 hc1) (.string iE) (.string aE) (.string mE) (.int .i64 nE) (.int .i64 kE) (.string tE) u4 from hh4) hlo a0 b0 hg5
       have hNn := HNG.out _ _ _ _ _ _ hN hg5 hrel
       have hsz := Nat.le_trans htn2 hg5.size
       have hpos := And.intro hrel (And.intro hlo hbn)
       simp only [StR.stL, Nat.zero_add, Nat.reduceAdd] at hh5 hbO hNn hsz
       refine hK.out _ _ hh5 (fun _ => ?_)
       clear hK K
       try simp only [Act.put, SL]
       generalize (((((((((u4.setCell ⟨u2.heap.size, 0, none⟩ (.string a)).setCell ⟨u2.heap.size, 1, none⟩ (.string m)).setCell ⟨u2.heap.size, 2, none⟩ (.int .i64 mo)).setCell ⟨u2.heap.size, 3, none⟩ (.int .i64 ev)).setCell ⟨u2.heap.size, 4, none⟩ (.int .i64 su)).setCell ⟨u2.heap.size, 5, none⟩ (.int .i64 mx)).setCell ⟨u2.heap.size, 6, none⟩ (.slice t3 tl c3)).setCell ⟨u2.heap.size, 7, none⟩ (.slice h3 hl d3)).setCell ⟨u2.heap.size, 8, none⟩ (.int .i64 cd)) = k5 at *
       refine wpAnyH_done (by kernel_rfl) ?_ _
       have F1 := hid_intro hbO
       have F2 := hid_intro hNn
       have F3 := hid_intro hsz
       have F5 := hid_intro hpos
       have F4 := hid_intro (show BX wi (w.heap.size) (w.heap.size + 1) (.string a1) (.string m1) (.int .i64 mo1) (.int .i64 ev1) (.int .i64 su1) (.int .i64 mx1) (.slice ta1 tl1 tc1) (.slice ha1 hl1 hc1) (.string iE) (.string aE) (.string mE) (.int .i64 nE) (.int .i64 kE) (.string tE) k5 from hh5)
       try clear y5_8
       try clear y5_7
       try clear y5_6
       try clear y5_5
       try clear y5_4
       try clear y5_3
       try clear y5_2
       try clear y5_1
       try clear y5_0
       try clear hpos
       try clear hsz
       try clear hNn
       try clear hh5
       try clear hbO
       try clear hg5
       try clear z5_8
       try clear z5_7
       try clear z5_6
       try clear z5_5
       try clear z5_4
       try clear z5_3
       try clear z5_2
       try clear z5_1
       try clear z5_0
       try clear zl5
       try clear htn2
       try clear hq4
       try clear hN
       try clear pt_4
       try clear hT1_4
       try clear hh4
       try clear hbn
       try clear hrel
       try clear hLL
       try clear pt_3
       try clear hT1_3
       try clear hh3
       try clear hlo
       try clear hq2
       try clear hT1_2
       try clear hh2
       try clear hq1
       try clear hT1
       try clear hh1
       go_wp2_with fail
       go_meet
       case rel => exact ⟨_, _, _, _, _, _, _, rfl, F1, F2, F3, F5, F4⟩
     ·go_simp
      try go_wp2_with fail
      have hlo : wi.heap.size ≤ u1.heap.size := (show BX wi (w.heap.size) (w.heap.size + 1) (.string a1) (.string m1) (.int .i64 mo1) (.int .i64 ev1) (.int .i64 su1) (.int .i64 mx1) (.slice ta1 tl1 tc1) (.slice ha1 hl1 hc1) (.string iE) (.string aE) (.string mE) (.int .i64 nE) (.int .i64 kE) (.string tE) u1 from hh1).1.size
      have hh2 := BX.below (show BX wi (w.heap.size) (w.heap.size + 1) (.string a1) (.string m1) (.int .i64 mo1) (.int .i64 ev1) (.int .i64 su1) (.int .i64 mx1) (.slice ta1 tl1 tc1) (.slice ha1 hl1 hc1) (.string iE) (.string aE) (.string mE) (.int .i64 nE) (.int .i64 kE) (.string tE) u1 from hh1) ((Below.refl u1.heap.size u1).alloc (Nat.le_refl _) (Obj.cells #[.string ⟨#[]⟩, .string ⟨#[]⟩, .int .i64 0, .int .i64 0, .int .i64 0, .int .i64 0, .slice none 0 0, .slice none 0 0, .int .i64 0] 34))
      have hT1_2 := HK1.out _ _ _ _ _ _  hT1 ((Below.refl u1.heap.size u1).alloc (Nat.le_refl _) (Obj.cells #[.string ⟨#[]⟩, .string ⟨#[]⟩, .int .i64 0, .int .i64 0, .int .i64 0, .int .i64 0, .slice none 0 0, .slice none 0 0, .int .i64 0] 34))
      have pt_2 : Pt u1.heap.size 9 (u1.alloc (Obj.cells #[.string ⟨#[]⟩, .string ⟨#[]⟩, .int .i64 0, .int .i64 0, .int .i64 0, .int .i64 0, .slice none 0 0, .slice none 0 0, .int .i64 0] 34)) := StR.pt_new u1 [.string ⟨#[]⟩, .string ⟨#[]⟩, .int .i64 0, .int .i64 0, .int .i64 0, .int .i64 0, .slice none 0 0, .slice none 0 0, .int .i64 0] 34
      refine hK.out _ _ hh2 (fun _ => ?_)
      clear hK K
      try simp only [Act.put, SL]
      generalize (u1.alloc (Obj.cells #[.string ⟨#[]⟩, .string ⟨#[]⟩, .int .i64 0, .int .i64 0, .int .i64 0, .int .i64 0, .slice none 0 0, .slice none 0 0, .int .i64 0] 34)) = k2 at *
      refine wpAnyH_ready (rs := [3]) (by kernel_rfl) (by simp) ?_
      refine AllReadyH.cons (o := { dst := some 68, op := Op.call { callee := Callee.value (Operand.func 9), args := #[Operand.tmp 67], argTypes := #[27] }, type := 37, pos := "exact.go:2685", after := #[{ on := 2, ground := Ground.data }, { on := 1, ground := Ground.chain }], guard := none }) rfl (fun K hK => ?_) AllReadyH.nil
      go_simp
      go_at_call 9
      refine (HU2.out _).mono ?_
      rintro e u3 ⟨rfl, hq3⟩
      try go_wp2_with fail
      have hh3 := BX.below (show BX wi (w.heap.size) (w.heap.size + 1) (.string a1) (.string m1) (.int .i64 mo1) (.int .i64 ev1) (.int .i64 su1) (.int .i64 mx1) (.slice ta1 tl1 tc1) (.slice ha1 hl1 hc1) (.string iE) (.string aE) (.string mE) (.int .i64 nE) (.int .i64 kE) (.string tE) k2 from hh2) hq3
      have hT1_3 := HK1.out _ _ _ _ _ _  hT1_2 hq3
      have pt_3 := pt_2.below hq3
      refine hK.out _ _ hh3 (fun _ => ?_)
      clear hK K
      try simp only [Act.put, SL]
      refine wpAnyH_ready (rs := [4]) (by kernel_rfl) (by simp) ?_
      refine AllReadyH.cons (o := { dst := some 69, op := Op.call { callee := Callee.value (Operand.func 10), args := #[Operand.tmp 66, Operand.tmp 68], argTypes := #[32, 37] }, type := 34, pos := "exact.go:2685", after := #[{ on := 1, ground := Ground.data }, { on := 3, ground := Ground.data }, { on := 3, ground := Ground.chain }], guard := none }) rfl (fun K hK => ?_) AllReadyH.nil
      go_simp
      have hLL := HL.out.below (HBW.out.trans ((show BX wi (w.heap.size) (w.heap.size + 1) (.string a1) (.string m1) (.int .i64 mo1) (.int .i64 ev1) (.int .i64 su1) (.int .i64 mx1) (.slice ta1 tl1 tc1) (.slice ha1 hl1 hc1) (.string iE) (.string aE) (.string mE) (.int .i64 nE) (.int .i64 kE) (.string tE) u3 from hh3).1.mono HBW.out.size))
      go_at_call 10
      refine (HJJ.out _ _ _ _ _ hLL hT1_3).mono ?_
      rintro e u4 ⟨t3, c3, h3, d3, rfl, hN, _, hq4⟩
      try go_wp2_with fail
      have hrel : u1.heap.size < u3.heap.size ∨ u4.heap.size ≤ u1.heap.size := .inl pt_3.lt
      have hbn : wi.heap.size ≤ u3.heap.size := (show BX wi (w.heap.size) (w.heap.size + 1) (.string a1) (.string m1) (.int .i64 mo1) (.int .i64 ev1) (.int .i64 su1) (.int .i64 mx1) (.slice ta1 tl1 tc1) (.slice ha1 hl1 hc1) (.string iE) (.string aE) (.string mE) (.int .i64 nE) (.int .i64 kE) (.string tE) u3 from hh3).1.size
      have hh4 := BX.below (show BX wi (w.heap.size) (w.heap.size + 1) (.string a1) (.string m1) (.int .i64 mo1) (.int .i64 ev1) (.int .i64 su1) (.int .i64 mx1) (.slice ta1 tl1 tc1) (.slice ha1 hl1 hc1) (.string iE) (.string aE) (.string mE) (.int .i64 nE) (.int .i64 kE) (.string tE) u3 from hh3) hq4
      have hT1_4 := HK1.out _ _ _ _ _ _  hT1_3 hq4
      have pt_4 := pt_3.below hq4
      refine hK.out _ _ hh4 (fun _ => ?_)
      clear hK K
      try simp only [Act.put, SL]
      refine wpAnyH_ready (rs := [6]) (by kernel_rfl) (by simp) ?_
      refine AllReadyH.cons (o := { dst := none, op := Op.store 34 (Operand.tmp 12) (Operand.tmp 69), type := 0, pos := "exact.go:2685", after := #[{ on := 5, ground := Ground.data }, { on := 4, ground := Ground.data }, { on := 4, ground := Ground.chain }, { on := 0, ground := Ground.phase }, { on := 1, ground := Ground.phase }, { on := 2, ground := Ground.phase }, { on := 3, ground := Ground.phase }, { on := 4, ground := Ground.phase }, { on := 5, ground := Ground.phase }], guard := none }) rfl (fun K hK => ?_) AllReadyH.nil
      have htn2 : u4.heap.size ≤ u4.heap.size := by first | exact Nat.le_refl _ | (have := (show BX wi (w.heap.size) (w.heap.size + 1) (.string a1) (.string m1) (.int .i64 mo1) (.int .i64 ev1) (.int .i64 su1) (.int .i64 mx1) (.slice ta1 tl1 tc1) (.slice ha1 hl1 hc1) (.string iE) (.string aE) (.string mE) (.int .i64 nE) (.int .i64 kE) (.string tE) u4 from hh4).1.size; omega) | (have := pt_4.lt; omega)
      have zl5 := pt_4.lt
      obtain ⟨e5_0, y5_0⟩ := pt_4.has 0 (by omega)
      have z5_0 := pt_4.free 0 (by omega)
      obtain ⟨e5_1, y5_1⟩ := pt_4.has 1 (by omega)
      have z5_1 := pt_4.free 1 (by omega)
      obtain ⟨e5_2, y5_2⟩ := pt_4.has 2 (by omega)
      have z5_2 := pt_4.free 2 (by omega)
      obtain ⟨e5_3, y5_3⟩ := pt_4.has 3 (by omega)
      have z5_3 := pt_4.free 3 (by omega)
      obtain ⟨e5_4, y5_4⟩ := pt_4.has 4 (by omega)
      have z5_4 := pt_4.free 4 (by omega)
      obtain ⟨e5_5, y5_5⟩ := pt_4.has 5 (by omega)
      have z5_5 := pt_4.free 5 (by omega)
      obtain ⟨e5_6, y5_6⟩ := pt_4.has 6 (by omega)
      have z5_6 := pt_4.free 6 (by omega)
      obtain ⟨e5_7, y5_7⟩ := pt_4.has 7 (by omega)
      have z5_7 := pt_4.free 7 (by omega)
      obtain ⟨e5_8, y5_8⟩ := pt_4.has 8 (by omega)
      have z5_8 := pt_4.free 8 (by omega)
      go_simp
      try go_wp2_with fail
      have hg5 := StR.stL_grown u1.heap.size [.string a, .string m, .int .i64 mo, .int .i64 ev, .int .i64 su, .int .i64 mx, .slice t3 tl c3, .slice h3 hl d3, .int .i64 cd] 0 u4
      have hbO := StR.stL_blk (vs := [.string a, .string m, .int .i64 mo, .int .i64 ev, .int .i64 su, .int .i64 mx, .slice t3 tl c3, .slice h3 hl d3, .int .i64 cd]) (W := u4) pt_4 (by simp)
      have hh5 := BX.grown (show BX wi (w.heap.size) (w.heap.size + 1) (.string a1) (.string m1) (.int .i64 mo1) (.int .i64 ev1) (.int .i64 su1) (.int .i64 mx1) (.slice ta1 tl1 tc1) (.slice ha1 hl1 hc1) (.string iE) (.string aE) (.string mE) (.int .i64 nE) (.int .i64 kE) (.string tE) u4 from hh4) hlo a0 b0 hg5
      have hNn := HNG.out _ _ _ _ _ _ hN hg5 hrel
      have hsz := Nat.le_trans htn2 hg5.size
      have hpos := And.intro hrel (And.intro hlo hbn)
      simp only [StR.stL, Nat.zero_add, Nat.reduceAdd] at hh5 hbO hNn hsz
      refine hK.out _ _ hh5 (fun _ => ?_)
      clear hK K
      try simp only [Act.put, SL]
      generalize (((((((((u4.setCell ⟨u1.heap.size, 0, none⟩ (.string a)).setCell ⟨u1.heap.size, 1, none⟩ (.string m)).setCell ⟨u1.heap.size, 2, none⟩ (.int .i64 mo)).setCell ⟨u1.heap.size, 3, none⟩ (.int .i64 ev)).setCell ⟨u1.heap.size, 4, none⟩ (.int .i64 su)).setCell ⟨u1.heap.size, 5, none⟩ (.int .i64 mx)).setCell ⟨u1.heap.size, 6, none⟩ (.slice t3 tl c3)).setCell ⟨u1.heap.size, 7, none⟩ (.slice h3 hl d3)).setCell ⟨u1.heap.size, 8, none⟩ (.int .i64 cd)) = k5 at *
      refine wpAnyH_done (by kernel_rfl) ?_ _
      have F1 := hid_intro hbO
      have F2 := hid_intro hNn
      have F3 := hid_intro hsz
      have F5 := hid_intro hpos
      have F4 := hid_intro (show BX wi (w.heap.size) (w.heap.size + 1) (.string a1) (.string m1) (.int .i64 mo1) (.int .i64 ev1) (.int .i64 su1) (.int .i64 mx1) (.slice ta1 tl1 tc1) (.slice ha1 hl1 hc1) (.string iE) (.string aE) (.string mE) (.int .i64 nE) (.int .i64 kE) (.string tE) k5 from hh5)
      try clear y5_8
      try clear y5_7
      try clear y5_6
      try clear y5_5
      try clear y5_4
      try clear y5_3
      try clear y5_2
      try clear y5_1
      try clear y5_0
      try clear hpos
      try clear hsz
      try clear hNn
      try clear hh5
      try clear hbO
      try clear hg5
      try clear z5_8
      try clear z5_7
      try clear z5_6
      try clear z5_5
      try clear z5_4
      try clear z5_3
      try clear z5_2
      try clear z5_1
      try clear z5_0
      try clear zl5
      try clear htn2
      try clear hq4
      try clear hN
      try clear pt_4
      try clear hT1_4
      try clear hh4
      try clear hbn
      try clear hrel
      try clear hLL
      try clear hq3
      try clear pt_3
      try clear hT1_3
      try clear hh3
      try clear pt_2
      try clear hT1_2
      try clear hh2
      try clear hlo
      try clear hq1
      try clear hT1
      try clear hh1
      go_wp2_with fail
      go_meet
      case rel => exact ⟨_, _, _, _, _, _, _, rfl, F1, F2, F3, F5, F4⟩
    ·go_simp
     try go_wp2_with fail
     have hlo : wi.heap.size ≤ kd.heap.size := (show BX wi (w.heap.size) (w.heap.size + 1) (.string a1) (.string m1) (.int .i64 mo1) (.int .i64 ev1) (.int .i64 su1) (.int .i64 mx1) (.slice ta1 tl1 tc1) (.slice ha1 hl1 hc1) (.string iE) (.string aE) (.string mE) (.int .i64 nE) (.int .i64 kE) (.string tE) kd from HX2.out).1.size
     have hh1 := BX.below (show BX wi (w.heap.size) (w.heap.size + 1) (.string a1) (.string m1) (.int .i64 mo1) (.int .i64 ev1) (.int .i64 su1) (.int .i64 mx1) (.slice ta1 tl1 tc1) (.slice ha1 hl1 hc1) (.string iE) (.string aE) (.string mE) (.int .i64 nE) (.int .i64 kE) (.string tE) kd from HX2.out) ((Below.refl kd.heap.size kd).alloc (Nat.le_refl _) (Obj.cells #[.string ⟨#[]⟩, .string ⟨#[]⟩, .int .i64 0, .int .i64 0, .int .i64 0, .int .i64 0, .slice none 0 0, .slice none 0 0, .int .i64 0] 34))
     have pt_1 : Pt kd.heap.size 9 (kd.alloc (Obj.cells #[.string ⟨#[]⟩, .string ⟨#[]⟩, .int .i64 0, .int .i64 0, .int .i64 0, .int .i64 0, .slice none 0 0, .slice none 0 0, .int .i64 0] 34)) := StR.pt_new kd [.string ⟨#[]⟩, .string ⟨#[]⟩, .int .i64 0, .int .i64 0, .int .i64 0, .int .i64 0, .slice none 0 0, .slice none 0 0, .int .i64 0] 34
     refine hK.out _ _ hh1 (fun _ => ?_)
     clear hK K
     try simp only [Act.put, SL]
     generalize (kd.alloc (Obj.cells #[.string ⟨#[]⟩, .string ⟨#[]⟩, .int .i64 0, .int .i64 0, .int .i64 0, .int .i64 0, .slice none 0 0, .slice none 0 0, .int .i64 0] 34)) = k1 at *
     refine wpAnyH_ready (rs := [1]) (by kernel_rfl) (by simp) ?_
     refine AllReadyH.cons (o := { dst := some 66, op := Op.call { callee := Callee.value (Operand.func 8), args := #[Operand.tmp 65], argTypes := #[25] }, type := 32, pos := "exact.go:2685", after := #[{ on := 0, ground := Ground.data }], guard := none }) rfl (fun K hK => ?_) AllReadyH.nil
     go_simp
     go_at_call 8
     refine (HU1.out _ (HBW.out.trans ((show BX wi (w.heap.size) (w.heap.size + 1) (.string a1) (.string m1) (.int .i64 mo1) (.int .i64 ev1) (.int .i64 su1) (.int .i64 mx1) (.slice ta1 tl1 tc1) (.slice ha1 hl1 hc1) (.string iE) (.string aE) (.string mE) (.int .i64 nE) (.int .i64 kE) (.string tE) k1 from hh1).1.mono HBW.out.size))).mono ?_
     rintro e u2 ⟨g1x, h1x, rfl, hT1, hq2⟩
     try go_wp2_with fail
     have hh2 := BX.below (show BX wi (w.heap.size) (w.heap.size + 1) (.string a1) (.string m1) (.int .i64 mo1) (.int .i64 ev1) (.int .i64 su1) (.int .i64 mx1) (.slice ta1 tl1 tc1) (.slice ha1 hl1 hc1) (.string iE) (.string aE) (.string mE) (.int .i64 nE) (.int .i64 kE) (.string tE) k1 from hh1) hq2
     have pt_2 := pt_1.below hq2
     refine hK.out _ _ hh2 (fun _ => ?_)
     clear hK K
     try simp only [Act.put, SL]
     refine wpAnyH_ready (rs := [3]) (by kernel_rfl) (by simp) ?_
     refine AllReadyH.cons (o := { dst := some 68, op := Op.call { callee := Callee.value (Operand.func 9), args := #[Operand.tmp 67], argTypes := #[27] }, type := 37, pos := "exact.go:2685", after := #[{ on := 2, ground := Ground.data }, { on := 1, ground := Ground.chain }], guard := none }) rfl (fun K hK => ?_) AllReadyH.nil
     go_simp
     go_at_call 9
     refine (HU2.out _).mono ?_
     rintro e u3 ⟨rfl, hq3⟩
     try go_wp2_with fail
     have hh3 := BX.below (show BX wi (w.heap.size) (w.heap.size + 1) (.string a1) (.string m1) (.int .i64 mo1) (.int .i64 ev1) (.int .i64 su1) (.int .i64 mx1) (.slice ta1 tl1 tc1) (.slice ha1 hl1 hc1) (.string iE) (.string aE) (.string mE) (.int .i64 nE) (.int .i64 kE) (.string tE) u2 from hh2) hq3
     have pt_3 := pt_2.below hq3
     have hT1_3 := HK1.out _ _ _ _ _ _  hT1 hq3
     refine hK.out _ _ hh3 (fun _ => ?_)
     clear hK K
     try simp only [Act.put, SL]
     refine wpAnyH_ready (rs := [4]) (by kernel_rfl) (by simp) ?_
     refine AllReadyH.cons (o := { dst := some 69, op := Op.call { callee := Callee.value (Operand.func 10), args := #[Operand.tmp 66, Operand.tmp 68], argTypes := #[32, 37] }, type := 34, pos := "exact.go:2685", after := #[{ on := 1, ground := Ground.data }, { on := 3, ground := Ground.data }, { on := 3, ground := Ground.chain }], guard := none }) rfl (fun K hK => ?_) AllReadyH.nil
     go_simp
     have hLL := HL.out.below (HBW.out.trans ((show BX wi (w.heap.size) (w.heap.size + 1) (.string a1) (.string m1) (.int .i64 mo1) (.int .i64 ev1) (.int .i64 su1) (.int .i64 mx1) (.slice ta1 tl1 tc1) (.slice ha1 hl1 hc1) (.string iE) (.string aE) (.string mE) (.int .i64 nE) (.int .i64 kE) (.string tE) u3 from hh3).1.mono HBW.out.size))
     go_at_call 10
     refine (HJJ.out _ _ _ _ _ hLL hT1_3).mono ?_
     rintro e u4 ⟨t3, c3, h3, d3, rfl, hN, _, hq4⟩
     try go_wp2_with fail
     have hrel : kd.heap.size < u3.heap.size ∨ u4.heap.size ≤ kd.heap.size := .inl pt_3.lt
     have hbn : wi.heap.size ≤ u3.heap.size := (show BX wi (w.heap.size) (w.heap.size + 1) (.string a1) (.string m1) (.int .i64 mo1) (.int .i64 ev1) (.int .i64 su1) (.int .i64 mx1) (.slice ta1 tl1 tc1) (.slice ha1 hl1 hc1) (.string iE) (.string aE) (.string mE) (.int .i64 nE) (.int .i64 kE) (.string tE) u3 from hh3).1.size
     have hh4 := BX.below (show BX wi (w.heap.size) (w.heap.size + 1) (.string a1) (.string m1) (.int .i64 mo1) (.int .i64 ev1) (.int .i64 su1) (.int .i64 mx1) (.slice ta1 tl1 tc1) (.slice ha1 hl1 hc1) (.string iE) (.string aE) (.string mE) (.int .i64 nE) (.int .i64 kE) (.string tE) u3 from hh3) hq4
     have pt_4 := pt_3.below hq4
     have hT1_4 := HK1.out _ _ _ _ _ _  hT1_3 hq4
     refine hK.out _ _ hh4 (fun _ => ?_)
     clear hK K
     try simp only [Act.put, SL]
     refine wpAnyH_ready (rs := [6]) (by kernel_rfl) (by simp) ?_
     refine AllReadyH.cons (o := { dst := none, op := Op.store 34 (Operand.tmp 12) (Operand.tmp 69), type := 0, pos := "exact.go:2685", after := #[{ on := 5, ground := Ground.data }, { on := 4, ground := Ground.data }, { on := 4, ground := Ground.chain }, { on := 0, ground := Ground.phase }, { on := 1, ground := Ground.phase }, { on := 2, ground := Ground.phase }, { on := 3, ground := Ground.phase }, { on := 4, ground := Ground.phase }, { on := 5, ground := Ground.phase }], guard := none }) rfl (fun K hK => ?_) AllReadyH.nil
     have htn2 : u4.heap.size ≤ u4.heap.size := by first | exact Nat.le_refl _ | (have := (show BX wi (w.heap.size) (w.heap.size + 1) (.string a1) (.string m1) (.int .i64 mo1) (.int .i64 ev1) (.int .i64 su1) (.int .i64 mx1) (.slice ta1 tl1 tc1) (.slice ha1 hl1 hc1) (.string iE) (.string aE) (.string mE) (.int .i64 nE) (.int .i64 kE) (.string tE) u4 from hh4).1.size; omega) | (have := pt_4.lt; omega)
     have zl5 := pt_4.lt
     obtain ⟨e5_0, y5_0⟩ := pt_4.has 0 (by omega)
     have z5_0 := pt_4.free 0 (by omega)
     obtain ⟨e5_1, y5_1⟩ := pt_4.has 1 (by omega)
     have z5_1 := pt_4.free 1 (by omega)
     obtain ⟨e5_2, y5_2⟩ := pt_4.has 2 (by omega)
     have z5_2 := pt_4.free 2 (by omega)
     obtain ⟨e5_3, y5_3⟩ := pt_4.has 3 (by omega)
     have z5_3 := pt_4.free 3 (by omega)
     obtain ⟨e5_4, y5_4⟩ := pt_4.has 4 (by omega)
     have z5_4 := pt_4.free 4 (by omega)
     obtain ⟨e5_5, y5_5⟩ := pt_4.has 5 (by omega)
     have z5_5 := pt_4.free 5 (by omega)
     obtain ⟨e5_6, y5_6⟩ := pt_4.has 6 (by omega)
     have z5_6 := pt_4.free 6 (by omega)
     obtain ⟨e5_7, y5_7⟩ := pt_4.has 7 (by omega)
     have z5_7 := pt_4.free 7 (by omega)
     obtain ⟨e5_8, y5_8⟩ := pt_4.has 8 (by omega)
     have z5_8 := pt_4.free 8 (by omega)
     go_simp
     try go_wp2_with fail
     have hg5 := StR.stL_grown kd.heap.size [.string a, .string m, .int .i64 mo, .int .i64 ev, .int .i64 su, .int .i64 mx, .slice t3 tl c3, .slice h3 hl d3, .int .i64 cd] 0 u4
     have hbO := StR.stL_blk (vs := [.string a, .string m, .int .i64 mo, .int .i64 ev, .int .i64 su, .int .i64 mx, .slice t3 tl c3, .slice h3 hl d3, .int .i64 cd]) (W := u4) pt_4 (by simp)
     have hh5 := BX.grown (show BX wi (w.heap.size) (w.heap.size + 1) (.string a1) (.string m1) (.int .i64 mo1) (.int .i64 ev1) (.int .i64 su1) (.int .i64 mx1) (.slice ta1 tl1 tc1) (.slice ha1 hl1 hc1) (.string iE) (.string aE) (.string mE) (.int .i64 nE) (.int .i64 kE) (.string tE) u4 from hh4) hlo a0 b0 hg5
     have hNn := HNG.out _ _ _ _ _ _ hN hg5 hrel
     have hsz := Nat.le_trans htn2 hg5.size
     have hpos := And.intro hrel (And.intro hlo hbn)
     simp only [StR.stL, Nat.zero_add, Nat.reduceAdd] at hh5 hbO hNn hsz
     refine hK.out _ _ hh5 (fun _ => ?_)
     clear hK K
     try simp only [Act.put, SL]
     generalize (((((((((u4.setCell ⟨kd.heap.size, 0, none⟩ (.string a)).setCell ⟨kd.heap.size, 1, none⟩ (.string m)).setCell ⟨kd.heap.size, 2, none⟩ (.int .i64 mo)).setCell ⟨kd.heap.size, 3, none⟩ (.int .i64 ev)).setCell ⟨kd.heap.size, 4, none⟩ (.int .i64 su)).setCell ⟨kd.heap.size, 5, none⟩ (.int .i64 mx)).setCell ⟨kd.heap.size, 6, none⟩ (.slice t3 tl c3)).setCell ⟨kd.heap.size, 7, none⟩ (.slice h3 hl d3)).setCell ⟨kd.heap.size, 8, none⟩ (.int .i64 cd)) = k5 at *
     refine wpAnyH_done (by kernel_rfl) ?_ _
     have F1 := hid_intro hbO
     have F2 := hid_intro hNn
     have F3 := hid_intro hsz
     have F5 := hid_intro hpos
     have F4 := hid_intro (show BX wi (w.heap.size) (w.heap.size + 1) (.string a1) (.string m1) (.int .i64 mo1) (.int .i64 ev1) (.int .i64 su1) (.int .i64 mx1) (.slice ta1 tl1 tc1) (.slice ha1 hl1 hc1) (.string iE) (.string aE) (.string mE) (.int .i64 nE) (.int .i64 kE) (.string tE) k5 from hh5)
     try clear y5_8
     try clear y5_7
     try clear y5_6
     try clear y5_5
     try clear y5_4
     try clear y5_3
     try clear y5_2
     try clear y5_1
     try clear y5_0
     try clear hpos
     try clear hsz
     try clear hNn
     try clear hh5
     try clear hbO
     try clear hg5
     try clear z5_8
     try clear z5_7
     try clear z5_6
     try clear z5_5
     try clear z5_4
     try clear z5_3
     try clear z5_2
     try clear z5_1
     try clear z5_0
     try clear zl5
     try clear htn2
     try clear hq4
     try clear hN
     try clear hT1_4
     try clear pt_4
     try clear hh4
     try clear hbn
     try clear hrel
     try clear hLL
     try clear hq3
     try clear hT1_3
     try clear pt_3
     try clear hh3
     try clear hq2
     try clear hT1
     try clear pt_2
     try clear hh2
     try clear pt_1
     try clear hh1
     try clear hlo
     go_wp2_with fail
     go_meet
     case rel => exact ⟨_, _, _, _, _, _, _, rfl, F1, F2, F3, F5, F4⟩
   case rest =>
    obtain ⟨b13, t3, c3, h3, d3, bP, tP, rfl, HY, HM, _, _, HX⟩ := hcut
    have hbx := HX.out.1
    have HBj := hid_intro (HBi.out.trans (hbx.mono HBi.out.size))
    have HAj := hid_intro (HAi.out.below hbx)
    have HCj := hid_intro (HCi.out.below hbx)
    have H6j := hid_intro (H6i.out.below hbx)
    have H9j := hid_intro (H9i.out.below hbx)
    have HNj := hid_intro (HNB.out _ _ _ _ _  HNi.out hbx)
    have HDj := hid_intro (HDB.out _ _ _ _  HDi.out hbx)
    clear HBi HAi HCi H6i H9i HNi HDi
    clear hbx HX
    have p0 : wc.cell? ⟨b13, 0, none⟩ = some (.string a) := HY.out.2 0 (by simp)
    have p1 : wc.cell? ⟨b13, 1, none⟩ = some (.string m) := HY.out.2 1 (by simp)
    have p2 : wc.cell? ⟨b13, 2, none⟩ = some (.int .i64 mo) := HY.out.2 2 (by simp)
    have p3 : wc.cell? ⟨b13, 3, none⟩ = some (.int .i64 ev) := HY.out.2 3 (by simp)
    have p4 : wc.cell? ⟨b13, 4, none⟩ = some (.int .i64 su) := HY.out.2 4 (by simp)
    have p5 : wc.cell? ⟨b13, 5, none⟩ = some (.int .i64 mx) := HY.out.2 5 (by simp)
    have p6 : wc.cell? ⟨b13, 6, none⟩ = some (.slice t3 tl c3) := HY.out.2 6 (by simp)
    have p7 : wc.cell? ⟨b13, 7, none⟩ = some (.slice h3 hl d3) := HY.out.2 7 (by simp)
    have p8 : wc.cell? ⟨b13, 8, none⟩ = some (.int .i64 cd) := HY.out.2 8 (by simp)
    have pl := HY.out.1
    have q0 : wc.cell? ⟨b6, 0, none⟩ = some (.string a) := H6j.out.2 0 (by simp)
    have q1 : wc.cell? ⟨b6, 1, none⟩ = some (.string m) := H6j.out.2 1 (by simp)
    have q2 : wc.cell? ⟨b6, 2, none⟩ = some (.int .i64 mo) := H6j.out.2 2 (by simp)
    have q3 : wc.cell? ⟨b6, 3, none⟩ = some (.int .i64 ev) := H6j.out.2 3 (by simp)
    have q4 : wc.cell? ⟨b6, 4, none⟩ = some (.int .i64 su) := H6j.out.2 4 (by simp)
    have q5 : wc.cell? ⟨b6, 5, none⟩ = some (.int .i64 mx) := H6j.out.2 5 (by simp)
    have q6 : wc.cell? ⟨b6, 6, none⟩ = some (.slice t0 tl c0) := H6j.out.2 6 (by simp)
    have q7 : wc.cell? ⟨b6, 7, none⟩ = some (.slice h0 hl d0) := H6j.out.2 7 (by simp)
    have q8 : wc.cell? ⟨b6, 8, none⟩ = some (.int .i64 cd) := H6j.out.2 8 (by simp)
    have ql := H6j.out.1
    go_wp2_with fail
    refine (HEO.out _ _ _ _ _ _ _ HM.out HNj.out).mono ?_
    rintro e wk ⟨rfl, hbk⟩
    clear HY HM
    have HBk := hid_intro (HBj.out.trans (hbk.mono HBj.out.size))
    have HAk := hid_intro (HAj.out.below hbk)
    have HCk := hid_intro (HCj.out.below hbk)
    have H6k := hid_intro (H6j.out.below hbk)
    have H9k := hid_intro (H9j.out.below hbk)
    have HNk := hid_intro (HNB.out _ _ _ _ _  HNj.out hbk)
    have HDk := hid_intro (HDB.out _ _ _ _  HDj.out hbk)
    clear HBj HAj HCj H6j H9j HNj HDj
    clear hbk
    clear p0 p1 p2 p3 p4 p5 p6 p7 p8 pl
    clear q0 q1 q2 q3 q4 q5 q6 q7 q8 ql
    have p0 : wk.cell? ⟨b9, 0, none⟩ = some (.string a) := H9k.out.2 0 (by simp)
    have p1 : wk.cell? ⟨b9, 1, none⟩ = some (.string m) := H9k.out.2 1 (by simp)
    have p2 : wk.cell? ⟨b9, 2, none⟩ = some (.int .i64 mo) := H9k.out.2 2 (by simp)
    have p3 : wk.cell? ⟨b9, 3, none⟩ = some (.int .i64 ev) := H9k.out.2 3 (by simp)
    have p4 : wk.cell? ⟨b9, 4, none⟩ = some (.int .i64 su) := H9k.out.2 4 (by simp)
    have p5 : wk.cell? ⟨b9, 5, none⟩ = some (.int .i64 mx) := H9k.out.2 5 (by simp)
    have p6 : wk.cell? ⟨b9, 6, none⟩ = some (.slice t1 tl c1) := H9k.out.2 6 (by simp)
    have p7 : wk.cell? ⟨b9, 7, none⟩ = some (.slice h1 hl d1) := H9k.out.2 7 (by simp)
    have p8 : wk.cell? ⟨b9, 8, none⟩ = some (.int .i64 cd) := H9k.out.2 8 (by simp)
    have pl := H9k.out.1
    go_wp2_with fail
    refine (HHO.out _ _ _ _ _ HDk.out).mono ?_
    rintro e wl ⟨rfl, hbl⟩
    have HBl := hid_intro (HBk.out.trans (hbl.mono HBk.out.size))
    clear hbl
    clear p0 p1 p2 p3 p4 p5 p6 p7 p8 pl
    go_wp2_with fail
    go_ret
    exact ⟨rfl, HBl.out⟩
theorem big1 (a1 m1 : ByteArray) (mo1 ev1 su1 mx1 : Int) (ta1 : Option Addr) (tl1 tc1 : Nat) (ha1 : Option Addr) (hl1 hc1 : Nat) (iE aE mE : ByteArray) (nE kE : Int) (tE : ByteArray) (left1 : Int) (w : World) (hl1' : left1 < 0)
  (hZ1 : ∀ W, Below w.heap.size w W → Calls Tryd.prog 5 #[.agg #[.string a1, .string m1, .int .i64 mo1, .int .i64 ev1, .int .i64 su1, .int .i64 mx1, .slice ta1 tl1 tc1, .slice ha1 hl1 hc1], .int .i64 1048576] W fun e w' => e = .returned (.int .i64 left1) ∧ Below W.heap.size W w') :
  Calls Tryd.prog 3 #[.agg #[.string a1, .string m1, .int .i64 mo1, .int .i64 ev1, .int .i64 su1, .int .i64 mx1, .slice ta1 tl1 tc1, .slice ha1 hl1 hc1], .agg #[.string iE, .string aE, .string mE, .int .i64 nE, .int .i64 kE, .string tE]] w fun e w' => e = .returned (.bool true) ∧ Below w.heap.size w w' := by
 have HZ1 := hid_intro hZ1
 clear hZ1
 have HB0 : Hid (Below w.heap.size w ((w.alloc (.cells #[.string a1, .string m1, .int .i64 mo1, .int .i64 ev1, .int .i64 su1, .int .i64 mx1, .slice ta1 tl1 tc1, .slice ha1 hl1 hc1] 25)).alloc (.cells #[.string iE, .string aE, .string mE, .int .i64 nE, .int .i64 kE, .string tE] 27))) := hid_intro (((Below.refl _ _).alloc (by simp; try omega) _).alloc (by simp; try omega) _)
 go_enter Tryd.func3, Tryd.ntmps3
 go_wp2_with fail
 refine (HZ1.out _ HB0.out).mono ?_
 rintro e w1 ⟨rfl, hb1⟩
 have HB1 := hid_intro (HB0.out.trans (hb1.mono HB0.out.size))
 clear hb1
 go_wp2_with fail
 go_ret
 exact ⟨rfl, HB1.out⟩
theorem big2 (a1 m1 : ByteArray) (mo1 ev1 su1 mx1 : Int) (ta1 : Option Addr) (tl1 tc1 : Nat) (ha1 : Option Addr) (hl1 hc1 : Nat) (iE aE mE : ByteArray) (nE kE : Int) (tE : ByteArray) (left1 left2 : Int) (w : World) (hl1' : ¬ left1 < 0) (hl2' : left2 < 0)
  (hZ1 : ∀ W, Below w.heap.size w W → Calls Tryd.prog 5 #[.agg #[.string a1, .string m1, .int .i64 mo1, .int .i64 ev1, .int .i64 su1, .int .i64 mx1, .slice ta1 tl1 tc1, .slice ha1 hl1 hc1], .int .i64 1048576] W fun e w' => e = .returned (.int .i64 left1) ∧ Below W.heap.size W w')
  (hZ2 : ∀ W, Below w.heap.size w W → Calls Tryd.prog 6 #[.agg #[.string iE, .string aE, .string mE, .int .i64 nE, .int .i64 kE, .string tE], .int .i64 left1] W fun e w' => e = .returned (.int .i64 left2) ∧ Below W.heap.size W w') :
  Calls Tryd.prog 3 #[.agg #[.string a1, .string m1, .int .i64 mo1, .int .i64 ev1, .int .i64 su1, .int .i64 mx1, .slice ta1 tl1 tc1, .slice ha1 hl1 hc1], .agg #[.string iE, .string aE, .string mE, .int .i64 nE, .int .i64 kE, .string tE]] w fun e w' => e = .returned (.bool true) ∧ Below w.heap.size w w' := by
 have HZ1 := hid_intro hZ1
 have HZ2 := hid_intro hZ2
 clear hZ1 hZ2
 obtain ⟨W0, hW0⟩ : ∃ W0, W0 = ((w.alloc (.cells #[.string a1, .string m1, .int .i64 mo1, .int .i64 ev1, .int .i64 su1, .int .i64 mx1, .slice ta1 tl1 tc1, .slice ha1 hl1 hc1] 25)).alloc (.cells #[.string iE, .string aE, .string mE, .int .i64 nE, .int .i64 kE, .string tE] 27)) := ⟨_, rfl⟩
 have HB0 : Hid (Below w.heap.size w W0) := hid_intro (by rw [hW0]; exact ((Below.refl _ _).alloc (by simp; try omega) _).alloc (by simp; try omega) _)
 have HA0 : Hid (Blk w.heap.size [.string a1, .string m1, .int .i64 mo1, .int .i64 ev1, .int .i64 su1, .int .i64 mx1, .slice ta1 tl1 tc1, .slice ha1 hl1 hc1] W0) := hid_intro (by rw [hW0]; exact (Blk.new w [.string a1, .string m1, .int .i64 mo1, .int .i64 ev1, .int .i64 su1, .int .i64 mx1, .slice ta1 tl1 tc1, .slice ha1 hl1 hc1] 25).below ((Below.refl _ _).alloc (Nat.le_refl _) _))
 have HC0 : Hid (Blk (w.heap.size + 1) [.string iE, .string aE, .string mE, .int .i64 nE, .int .i64 kE, .string tE] W0) := hid_intro (by
  have := Blk.new (w.alloc (.cells #[.string a1, .string m1, .int .i64 mo1, .int .i64 ev1, .int .i64 su1, .int .i64 mx1, .slice ta1 tl1 tc1, .slice ha1 hl1 hc1] 25)) [.string iE, .string aE, .string mE, .int .i64 nE, .int .i64 kE, .string tE] 27
  rw [hW0]
  simp only [World.size_alloc] at this
  exact this)
 have HW := hid_intro hW0
 clear hW0
 go_enter Tryd.func3, Tryd.ntmps3
 have p0 : W0.cell? ⟨w.heap.size, 0, none⟩ = some (.string a1) := HA0.out.2 0 (by simp)
 have p1 : W0.cell? ⟨w.heap.size, 1, none⟩ = some (.string m1) := HA0.out.2 1 (by simp)
 have p2 : W0.cell? ⟨w.heap.size, 2, none⟩ = some (.int .i64 mo1) := HA0.out.2 2 (by simp)
 have p3 : W0.cell? ⟨w.heap.size, 3, none⟩ = some (.int .i64 ev1) := HA0.out.2 3 (by simp)
 have p4 : W0.cell? ⟨w.heap.size, 4, none⟩ = some (.int .i64 su1) := HA0.out.2 4 (by simp)
 have p5 : W0.cell? ⟨w.heap.size, 5, none⟩ = some (.int .i64 mx1) := HA0.out.2 5 (by simp)
 have p6 : W0.cell? ⟨w.heap.size, 6, none⟩ = some (.slice ta1 tl1 tc1) := HA0.out.2 6 (by simp)
 have p7 : W0.cell? ⟨w.heap.size, 7, none⟩ = some (.slice ha1 hl1 hc1) := HA0.out.2 7 (by simp)
 have pl := HA0.out.1
 go_wp2_with fail
 rw [← HW.out]
 refine (HZ1.out _ HB0.out).mono ?_
 rintro e w1 ⟨rfl, hb1⟩
 clear HW
 have HB1 := hid_intro (HB0.out.trans (hb1.mono HB0.out.size))
 have HA1 := hid_intro (HA0.out.below hb1)
 have HC1 := hid_intro (HC0.out.below hb1)
 clear HB0 HA0 HC0
 clear hb1
 clear p0 p1 p2 p3 p4 p5 p6 p7 pl
 have p0 : w1.cell? ⟨w.heap.size + 1, 0, none⟩ = some (.string iE) := HC1.out.2 0 (by simp)
 have p1 : w1.cell? ⟨w.heap.size + 1, 1, none⟩ = some (.string aE) := HC1.out.2 1 (by simp)
 have p2 : w1.cell? ⟨w.heap.size + 1, 2, none⟩ = some (.string mE) := HC1.out.2 2 (by simp)
 have p3 : w1.cell? ⟨w.heap.size + 1, 3, none⟩ = some (.int .i64 nE) := HC1.out.2 3 (by simp)
 have p4 : w1.cell? ⟨w.heap.size + 1, 4, none⟩ = some (.int .i64 kE) := HC1.out.2 4 (by simp)
 have p5 : w1.cell? ⟨w.heap.size + 1, 5, none⟩ = some (.string tE) := HC1.out.2 5 (by simp)
 have pl := HC1.out.1
 go_wp2_with fail
 refine (HZ2.out _ HB1.out).mono ?_
 rintro e w2 ⟨rfl, hb2⟩
 have HB2 := hid_intro (HB1.out.trans (hb2.mono HB1.out.size))
 have HA2 := hid_intro (HA1.out.below hb2)
 have HC2 := hid_intro (HC1.out.below hb2)
 clear HB1 HA1 HC1
 clear hb2
 clear p0 p1 p2 p3 p4 p5 pl
 go_wp2_with fail
 go_ret
 exact ⟨rfl, HB2.out⟩
end WindowAddL
end Go.Proofs.YtnlmpejgiakepaaDoor
namespace Go.Proofs.YtnlmpejgiakepaaDoor
open Go.ChangeShapes Go.WideShapes Go.ChangeAt Go.RowKit
set_option linter.unusedVariables false
namespace WinR
open RowG (MadeG Rws)
open EvtR (Pt)
open CatR (Blk Blk.new)
open DateR (Laid)
theorem rws_out {α : Type} {k : Nat} {cells : α → List Value} {z : α} {ao : Option Addr} {xs : List α} {b' t' : Nat} {w w' : World} (h : Rws k cells z ao xs w) (ho : Outs b' t' w w') (hn : xs.length = 0 ∨ ∀ b off, ao = some ⟨b, off, none⟩ → b < b' ∨ t' ≤ b) : Rws k cells z ao xs w' := by
 rcases h with h0 | ⟨b, off, rfl, hlt, hc⟩
 ·exact .inl h0
 ·rcases hn with h0 | hn
  ·exact .inl h0
  ·have e := ho.block b hlt (hn b off rfl)
   exact .inr ⟨b, off, rfl, Nat.lt_of_lt_of_le hlt ho.size, fun i hi o ho' => (World.cell?_of_block (a := ⟨b, _, none⟩) e).trans (hc i hi o ho')⟩
/-- A window's lists of one's own, between base and top. -/
def TB (x : Wd) (base top g h : Nat) (W : World) : Prop := base ≤ g ∧ base ≤ h ∧ g ≠ h ∧ top ≤ W.heap.size ∧ Tgs (some ⟨g, 0, none⟩) x.ts W ∧ Hrs (some ⟨h, 0, none⟩) x.hs W ∧ (x.ts.length = 0 ∨ (g < top ∧ Pt g x.ts.length W)) ∧ (x.hs.length = 0 ∨ (h < top ∧ Pt h (x.hs.length * 2) W))
theorem TB.below {x : Wd} {base top g h : Nat} {W W' : World} (t : TB x base top g h W) (hb : Below W.heap.size W W') : TB x base top g h W' := by
 obtain ⟨h1, h2, h3, h4, h5, h6, h7, h8⟩ := t
 exact ⟨h1, h2, h3, Nat.le_trans h4 hb.size, h5.below hb, h6.below hb, h7.imp id (fun ⟨q, r⟩ => ⟨q, r.below hb⟩), h8.imp id (fun ⟨q, r⟩ => ⟨q, r.below hb⟩)⟩
theorem TB.out {x : Wd} {base top g h b' t' : Nat} {W W' : World} (t : TB x base top g h W) (ho : Outs b' t' W W') (hl : t' ≤ base) : TB x base top g h W' := by
 obtain ⟨h1, h2, h3, h4, h5, h6, h7, h8⟩ := t
 exact ⟨h1, h2, h3, Nat.le_trans h4 ho.size, rws_out h5 ho (.inr (fun b off e => by cases e; exact .inr (by omega))), rws_out h6 ho (.inr (fun b off e => by cases e; exact .inr (by omega))), h7.imp id (fun ⟨q, r⟩ => ⟨q, pt_out ho r (.inr (by omega))⟩), h8.imp id (fun ⟨q, r⟩ => ⟨q, pt_out ho r (.inr (by omega))⟩)⟩
theorem TB.tw {x : Wd} {base top g h : Nat} {W : World} (t : TB x base top g h W) : TwW base x (.agg (wcells x (some ⟨g, 0, none⟩) x.ts.length (some ⟨h, 0, none⟩) x.hs.length)) W := by
 obtain ⟨h1, h2, h3, h4, h5, h6, h7, h8⟩ := t
 exact ⟨g, h, rfl, h1, h2, h3, ⟨h5, h7.imp id (fun ⟨_, r⟩ => ⟨g, rfl, h1, by rw [Nat.mul_one]; exact r⟩)⟩, ⟨h6, h8.imp id (fun ⟨_, r⟩ => ⟨h, rfl, h2, r⟩)⟩⟩
theorem tb_of {x : Wd} {base : Nat} {v : Value} {W : World} (hlo : base ≤ W.heap.size) (t : TwW base x v W) : ∃ g h, v = .agg (wcells x (some ⟨g, 0, none⟩) x.ts.length (some ⟨h, 0, none⟩) x.hs.length) ∧ TB x base W.heap.size g h W := by
 obtain ⟨g, h, e, h1, h2, h3, m1, m2⟩ := t
 refine ⟨g, h, e, h1, h2, h3, Nat.le_refl _, m1.rws, m2.rws, m1.own.imp id (fun ⟨q, e1, _, p⟩ => ?_), m2.own.imp id (fun ⟨q, e1, _, p⟩ => ?_)⟩
 ·cases e1
  rw [Nat.mul_one] at p
  exact ⟨p.lt, p⟩
 ·cases e1
  exact ⟨p.lt, p⟩
/-- An answer whose lists lie between base and top. -/
def NX (z : Wd) (cd : Int) (base top : Nat) (v : Value) (W : World) : Prop := ∃ ta tc ha hc, v = .agg (ocells z ta tc ha hc cd) ∧ Tgs ta z.ts W ∧ Hrs ha z.hs W ∧ (z.ts.length = 0 ∨ ∀ b off, ta = some ⟨b, off, none⟩ → base ≤ b ∧ b < top) ∧ (z.hs.length = 0 ∨ ∀ b off, ha = some ⟨b, off, none⟩ → base ≤ b ∧ b < top)
theorem NX.is {z : Wd} {cd : Int} {base top : Nat} {v : Value} {W : World} (h : NX z cd base top v W) : IsO v z cd W := by
 obtain ⟨ta, tc, ha, hc, e, h1, h2, _⟩ := h
 exact ⟨ta, tc, ha, hc, e, h1, h2⟩
theorem NX.below {z : Wd} {cd : Int} {base top : Nat} {v : Value} {W W' : World} (h : NX z cd base top v W) (hb : Below W.heap.size W W') : NX z cd base top v W' := by
 obtain ⟨ta, tc, ha, hc, e, h1, h2, h3, h4⟩ := h
 exact ⟨ta, tc, ha, hc, e, h1.below hb, h2.below hb, h3, h4⟩
theorem NX.grown {z : Wd} {cd : Int} {base top k : Nat} {v : Value} {W W' : World} (h : NX z cd base top v W) (hg : W.grownBy W' (some k)) (hk : k < base ∨ top ≤ k) : NX z cd base top v W' := by
 obtain ⟨ta, tc, ha, hc, e, h1, h2, h3, h4⟩ := h
 exact ⟨ta, tc, ha, hc, e, Rws.keep h1 hg (h3.imp id (fun q b off e => by have := q b off e; omega)), Rws.keep h2 hg (h4.imp id (fun q b off e => by have := q b off e; omega)), h3, h4⟩
theorem NX.out {z : Wd} {cd : Int} {base top b' t' : Nat} {v : Value} {W W' : World} (h : NX z cd base top v W) (ho : Outs b' t' W W') (hk : top ≤ b' ∨ t' ≤ base) : NX z cd base top v W' := by
 obtain ⟨ta, tc, ha, hc, e, h1, h2, h3, h4⟩ := h
 exact ⟨ta, tc, ha, hc, e, rws_out h1 ho (h3.imp id (fun q b off e => by have := q b off e; omega)), rws_out h2 ho (h4.imp id (fun q b off e => by have := q b off e; omega)), h3, h4⟩
theorem nx_new {z : Wd} {cd : Int} {base : Nat} {v : Value} {W : World} (h : NewO base z cd v W) : NX z cd base W.heap.size v W := by
 obtain ⟨ta, tc, ha, hc, e, h1, h2, h3, h4⟩ := h
 refine ⟨ta, tc, ha, hc, e, h1, h2, ?_, ?_⟩
 ·rcases h1 with h0 | ⟨b, off, rfl, hlt, _⟩
  ·exact .inl h0
  ·exact h3.imp id (fun q b' off' e => ⟨q b' off' e, by cases e; exact hlt⟩)
 ·rcases h2 with h0 | ⟨b, off, rfl, hlt, _⟩
  ·exact .inl h0
  ·exact h4.imp id (fun q b' off' e => ⟨q b' off' e, by cases e; exact hlt⟩)
theorem made_new {base : Nat} {z : Wd} {cd : Int} {v : Value} {W : World} (h : MadeO base z cd v W) : NewO base z cd v W := by
 obtain ⟨ta, tc, ha, hc, e, h1, h2, _⟩ := h
 exact ⟨ta, tc, ha, hc, e, h1.rws, h2.rws, h1.own.imp id (fun ⟨g, e1, e2, _⟩ b off e => by rw [e1] at e; cases e; exact e2), h2.own.imp id (fun ⟨g, e1, e2, _⟩ b off e => by rw [e1] at e; cases e; exact e2)⟩
/-- An answer's lists of one's own, between base and top. -/
def JO (z : Wd) (base top : Nat) (p q : Option Addr) (W : World) : Prop := top ≤ W.heap.size ∧ (z.ts.length = 0 ∨ ∃ g, p = some ⟨g, 0, none⟩ ∧ base ≤ g ∧ g < top ∧ Pt g z.ts.length W) ∧ (z.hs.length = 0 ∨ ∃ g, q = some ⟨g, 0, none⟩ ∧ base ≤ g ∧ g < top ∧ Pt g (z.hs.length * 2) W) ∧ Apart p q z.ts.length z.hs.length
theorem JO.below {z : Wd} {base top : Nat} {p q : Option Addr} {W W' : World} (h : JO z base top p q W) (hb : Below W.heap.size W W') : JO z base top p q W' :=
 ⟨Nat.le_trans h.1 hb.size, h.2.1.imp id (fun ⟨g, e, l, u, r⟩ => ⟨g, e, l, u, r.below hb⟩), h.2.2.1.imp id (fun ⟨g, e, l, u, r⟩ => ⟨g, e, l, u, r.below hb⟩), h.2.2.2⟩
theorem JO.out {z : Wd} {base top b' t' : Nat} {p q : Option Addr} {W W' : World} (h : JO z base top p q W) (ho : Outs b' t' W W') (hl : t' ≤ base) : JO z base top p q W' :=
 ⟨Nat.le_trans h.1 ho.size, h.2.1.imp id (fun ⟨g, e, l, u, r⟩ => ⟨g, e, l, u, pt_out ho r (.inr (by omega))⟩), h.2.2.1.imp id (fun ⟨g, e, l, u, r⟩ => ⟨g, e, l, u, pt_out ho r (.inr (by omega))⟩), h.2.2.2⟩
theorem JO.grown {z : Wd} {base top k : Nat} {p q : Option Addr} {W W' : World} (h : JO z base top p q W) (hg : W.grownBy W' (some k)) (hk : k < base ∨ top ≤ k) : JO z base top p q W' :=
 ⟨Nat.le_trans h.1 hg.size, h.2.1.imp id (fun ⟨g, e, l, u, r⟩ => ⟨g, e, l, u, StR.pt_far r hg (by omega)⟩), h.2.2.1.imp id (fun ⟨g, e, l, u, r⟩ => ⟨g, e, l, u, StR.pt_far r hg (by omega)⟩), h.2.2.2⟩
end WinR
end Go.Proofs.YtnlmpejgiakepaaDoor
