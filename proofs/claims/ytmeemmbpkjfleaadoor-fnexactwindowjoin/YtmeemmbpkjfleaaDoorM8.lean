/-
  FnExactWindowJoin: for every two windows the law's call returns true (the program's WindowJoin hands back what the model's does, it writes into no argument, its answer owns its memory, behind another call too). The condition is the card's: the program's table starts as its text lays it.
  Windows that the law is given or handed, between two places of the memory. No condition.
-/
import Derived.Test.YtmeemmbpkjfleaaDoorCards
import Derived.Deep.CutRange
import Derived.Carry
import Derived.OpenVars
import Derived.Lib.SmallJoins
import Derived.SevenTiedAt
import Derived.Test.YtmeemmbpkjfleaaDoorM7
namespace Go.Proofs.YtmeemmbpkjfleaaDoor
open Go.ChangeShapes Go.WideShapes Go.ChangeAt Go.RowKit
set_option linter.unusedVariables false
namespace WindowJoinL
open WinR
open RowG (MadeG Rws)
open EvtR (Pt)
open CatR (Blk Blk.new)
open DateR (Laid)
def BX (W0 : World) (bA bB : Nat) (p0 p1 p2 p3 p4 p5 p6 p7 q0 q1 q2 q3 q4 q5 q6 q7 : Value) (W : World) : Prop := Below W0.heap.size W0 W ∧ bA < W.heap.size ∧ bB < W.heap.size ∧ W.cell? ⟨bA, 0, none⟩ = some (p0) ∧ W.cell? ⟨bA, 1, none⟩ = some (p1) ∧ W.cell? ⟨bA, 2, none⟩ = some (p2) ∧ W.cell? ⟨bA, 3, none⟩ = some (p3) ∧ W.cell? ⟨bA, 4, none⟩ = some (p4) ∧ W.cell? ⟨bA, 5, none⟩ = some (p5) ∧ W.cell? ⟨bA, 6, none⟩ = some (p6) ∧ W.cell? ⟨bA, 7, none⟩ = some (p7) ∧ W.cell? ⟨bB, 0, none⟩ = some (q0) ∧ W.cell? ⟨bB, 1, none⟩ = some (q1) ∧ W.cell? ⟨bB, 2, none⟩ = some (q2) ∧ W.cell? ⟨bB, 3, none⟩ = some (q3) ∧ W.cell? ⟨bB, 4, none⟩ = some (q4) ∧ W.cell? ⟨bB, 5, none⟩ = some (q5) ∧ W.cell? ⟨bB, 6, none⟩ = some (q6) ∧ W.cell? ⟨bB, 7, none⟩ = some (q7)
theorem BX.below {W0 : World} {bA bB : Nat} {p0 p1 p2 p3 p4 p5 p6 p7 q0 q1 q2 q3 q4 q5 q6 q7 : Value} {W W' : World} (h : BX W0 bA bB p0 p1 p2 p3 p4 p5 p6 p7 q0 q1 q2 q3 q4 q5 q6 q7 W) (hb : Below W.heap.size W W') : BX W0 bA bB p0 p1 p2 p3 p4 p5 p6 p7 q0 q1 q2 q3 q4 q5 q6 q7 W' := by
  obtain ⟨h0, h1, h2, c0, c1, c2, c3, c4, c5, c6, c7, d0, d1, d2, d3, d4, d5, d6, d7⟩ := h
  have c := fun o => hb.cell (p := ⟨bA, o, none⟩) h1
  have d := fun o => hb.cell (p := ⟨bB, o, none⟩) h2
  have := hb.size
  exact ⟨h0.trans (hb.mono h0.size), by omega, by omega, (c 0).trans c0, (c 1).trans c1, (c 2).trans c2, (c 3).trans c3, (c 4).trans c4, (c 5).trans c5, (c 6).trans c6, (c 7).trans c7, (d 0).trans d0, (d 1).trans d1, (d 2).trans d2, (d 3).trans d3, (d 4).trans d4, (d 5).trans d5, (d 6).trans d6, (d 7).trans d7⟩
theorem BX.grown {W0 : World} {bA bB : Nat} {p0 p1 p2 p3 p4 p5 p6 p7 q0 q1 q2 q3 q4 q5 q6 q7 : Value} {W W' : World} {g : Nat} (h : BX W0 bA bB p0 p1 p2 p3 p4 p5 p6 p7 q0 q1 q2 q3 q4 q5 q6 q7 W) (hq : W0.heap.size ≤ g) (hA : bA < W0.heap.size) (hB : bB < W0.heap.size) (hg : W.grownBy W' (some g)) : BX W0 bA bB p0 p1 p2 p3 p4 p5 p6 p7 q0 q1 q2 q3 q4 q5 q6 q7 W' := by
  obtain ⟨h0, h1, h2, c0, c1, c2, c3, c4, c5, c6, c7, d0, d1, d2, d3, d4, d5, d6, d7⟩ := h
  have c := fun o => World.cell?_of_block (a := ⟨bA, o, none⟩) (hg.block bA h1 (by simp; omega))
  have d := fun o => World.cell?_of_block (a := ⟨bB, o, none⟩) (hg.block bB h2 (by simp; omega))
  have hs := hg.size
  exact ⟨h0.grown hg h0.size (fun k e => by cases e; exact hq), by omega, by omega, (c 0).trans c0, (c 1).trans c1, (c 2).trans c2, (c 3).trans c3, (c 4).trans c4, (c 5).trans c5, (c 6).trans c6, (c 7).trans c7, (d 0).trans d0, (d 1).trans d1, (d 2).trans d2, (d 3).trans d3, (d 4).trans d4, (d 5).trans d5, (d 6).trans d6, (d 7).trans d7⟩
theorem BX.of {W0 : World} {bA bB : Nat} {p0 p1 p2 p3 p4 p5 p6 p7 q0 q1 q2 q3 q4 q5 q6 q7 : Value} (hA : Blk bA [p0, p1, p2, p3, p4, p5, p6, p7] W0) (hB : Blk bB [q0, q1, q2, q3, q4, q5, q6, q7] W0) : BX W0 bA bB p0 p1 p2 p3 p4 p5 p6 p7 q0 q1 q2 q3 q4 q5 q6 q7 W0.drew :=
  ⟨(Below.refl _ _).drew, hA.1, hB.1, hA.2 0 (by simp), hA.2 1 (by simp), hA.2 2 (by simp), hA.2 3 (by simp), hA.2 4 (by simp), hA.2 5 (by simp), hA.2 6 (by simp), hA.2 7 (by simp), hB.2 0 (by simp), hB.2 1 (by simp), hB.2 2 (by simp), hB.2 3 (by simp), hB.2 4 (by simp), hB.2 5 (by simp), hB.2 6 (by simp), hB.2 7 (by simp)⟩
set_option maxRecDepth 100000 in
set_option maxHeartbeats 16000000 in
theorem law_in (T1 T2 : Nat → Nat → Nat → Nat → World → Prop) (N : Nat → Nat → Value → World → Prop) (J : Nat → Nat → Option Addr → Option Addr → World → Prop) (D : Option Addr → Option Addr → World → Prop) (a1 m1 : ByteArray) (mo1 ev1 su1 mx1 : Int) (ta1 : Option Addr) (tl1 tc1 : Nat) (ha1 : Option Addr) (hl1 hc1 : Nat) (a2 m2 : ByteArray) (mo2 ev2 su2 mx2 : Int) (ta2 : Option Addr) (tl2 tc2 : Nat) (ha2 : Option Addr) (hl2 hc2 : Nat) (a m : ByteArray) (mo ev su mx : Int) (tl hl : Nat) (cd : Int) (left1 left2 Q1 Q2 QO : Int) (w : World) (hl1' : ¬ left1 < 0) (hl2' : ¬ left2 < 0) (hq2' : ¬ Q2 < 0) (hqo' : ¬ QO < 0) (hL : Laid w)
    (hK1 : ∀ b t g h W W', T1 b t g h W → Below W.heap.size W W' → T1 b t g h W')
    (hK2 : ∀ b t g h W W', T2 b t g h W → Below W.heap.size W W' → T2 b t g h W')
    (hO2 : ∀ b t g h b' t' W W', T2 b t g h W → Outs b' t' W W' → t' ≤ b → T2 b t g h W')
    (hNb : ∀ b t v W W', N b t v W → Below W.heap.size W W' → N b t v W')
    (hNg : ∀ b t v W W' k, N b t v W → W.grownBy W' (some k) → (k < b ∨ t ≤ k) → N b t v W')
    (hNo : ∀ b t v b' t' W W', N b t v W → Outs b' t' W W' → (t ≤ b' ∨ t' ≤ b) → N b t v W')
    (hJb : ∀ b t p q W W', J b t p q W → Below W.heap.size W W' → J b t p q W')
    (hJo : ∀ b t p q b' t' W W', J b t p q W → Outs b' t' W W' → t' ≤ b → J b t p q W')
    (hDb : ∀ p q W W', D p q W → Below W.heap.size W W' → D p q W')
    (hZ1 : ∀ W, Below w.heap.size w W → Calls Tryd.prog 7 #[.agg #[.string a1, .string m1, .int .i64 mo1, .int .i64 ev1, .int .i64 su1, .int .i64 mx1, .slice ta1 tl1 tc1, .slice ha1 hl1 hc1], .int .i64 1048576] W fun e w' => e = .returned (.int .i64 left1) ∧ Below W.heap.size W w')
    (hZ2 : ∀ W, Below w.heap.size w W → Calls Tryd.prog 7 #[.agg #[.string a2, .string m2, .int .i64 mo2, .int .i64 ev2, .int .i64 su2, .int .i64 mx2, .slice ta2 tl2 tc2, .slice ha2 hl2 hc2], .int .i64 left1] W fun e w' => e = .returned (.int .i64 left2) ∧ Below W.heap.size W w')
    (hU1 : ∀ W, Below w.heap.size w W → Calls Tryd.prog 9 #[.agg #[.string a1, .string m1, .int .i64 mo1, .int .i64 ev1, .int .i64 su1, .int .i64 mx1, .slice ta1 tl1 tc1, .slice ha1 hl1 hc1]] W fun e w' => ∃ g h, e = .returned (.agg #[.string a1, .string m1, .int .i64 mo1, .int .i64 ev1, .int .i64 su1, .int .i64 mx1, .slice (some ⟨g, 0, none⟩) tl1 tl1, .slice (some ⟨h, 0, none⟩) hl1 hl1]) ∧ T1 W.heap.size w'.heap.size g h w' ∧ Below W.heap.size W w')
    (hU2 : ∀ W, Below w.heap.size w W → Calls Tryd.prog 9 #[.agg #[.string a2, .string m2, .int .i64 mo2, .int .i64 ev2, .int .i64 su2, .int .i64 mx2, .slice ta2 tl2 tc2, .slice ha2 hl2 hc2]] W fun e w' => ∃ g h, e = .returned (.agg #[.string a2, .string m2, .int .i64 mo2, .int .i64 ev2, .int .i64 su2, .int .i64 mx2, .slice (some ⟨g, 0, none⟩) tl2 tl2, .slice (some ⟨h, 0, none⟩) hl2 hl2]) ∧ T2 W.heap.size w'.heap.size g h w' ∧ Below W.heap.size W w')
    (hS : ∀ b t g h b' t' g' h' W, T1 b t g h W → T2 b' t' g' h' W → Calls Tryd.prog 8 #[.agg #[.string a1, .string m1, .int .i64 mo1, .int .i64 ev1, .int .i64 su1, .int .i64 mx1, .slice (some ⟨g, 0, none⟩) tl1 tl1, .slice (some ⟨h, 0, none⟩) hl1 hl1], .agg #[.string a2, .string m2, .int .i64 mo2, .int .i64 ev2, .int .i64 su2, .int .i64 mx2, .slice (some ⟨g', 0, none⟩) tl2 tl2, .slice (some ⟨h', 0, none⟩) hl2 hl2]] W fun e w' => ∃ t0 c0 h0 d0, e = .returned (.agg #[.string a, .string m, .int .i64 mo, .int .i64 ev, .int .i64 su, .int .i64 mx, .slice t0 tl c0, .slice h0 hl d0, .int .i64 cd]) ∧ N W.heap.size w'.heap.size (.agg #[.string a, .string m, .int .i64 mo, .int .i64 ev, .int .i64 su, .int .i64 mx, .slice t0 tl c0, .slice h0 hl d0, .int .i64 cd]) w' ∧ Below W.heap.size W w')
    (hJ : ∀ b t g h b' t' g' h' W, Laid W → T1 b t g h W → T2 b' t' g' h' W → Calls Tryd.prog 10 #[.agg #[.string a1, .string m1, .int .i64 mo1, .int .i64 ev1, .int .i64 su1, .int .i64 mx1, .slice (some ⟨g, 0, none⟩) tl1 tl1, .slice (some ⟨h, 0, none⟩) hl1 hl1], .agg #[.string a2, .string m2, .int .i64 mo2, .int .i64 ev2, .int .i64 su2, .int .i64 mx2, .slice (some ⟨g', 0, none⟩) tl2 tl2, .slice (some ⟨h', 0, none⟩) hl2 hl2]] W fun e w' => ∃ t0 c0 h0 d0, e = .returned (.agg #[.string a, .string m, .int .i64 mo, .int .i64 ev, .int .i64 su, .int .i64 mx, .slice t0 tl c0, .slice h0 hl d0, .int .i64 cd]) ∧ N W.heap.size w'.heap.size (.agg #[.string a, .string m, .int .i64 mo, .int .i64 ev, .int .i64 su, .int .i64 mx, .slice t0 tl c0, .slice h0 hl d0, .int .i64 cd]) w' ∧ J W.heap.size w'.heap.size t0 h0 w' ∧ Below W.heap.size W w')
    (hE1 : ∀ b t g h b' t' g' h' W, T1 b t g h W → T1 b' t' g' h' W → Calls Tryd.prog 12 #[.agg #[.string a1, .string m1, .int .i64 mo1, .int .i64 ev1, .int .i64 su1, .int .i64 mx1, .slice (some ⟨g, 0, none⟩) tl1 tl1, .slice (some ⟨h, 0, none⟩) hl1 hl1], .agg #[.string a1, .string m1, .int .i64 mo1, .int .i64 ev1, .int .i64 su1, .int .i64 mx1, .slice (some ⟨g', 0, none⟩) tl1 tl1, .slice (some ⟨h', 0, none⟩) hl1 hl1]] W fun e w' => e = .returned (.bool true) ∧ Below W.heap.size W w')
    (hE2 : ∀ b t g h b' t' g' h' W, T2 b t g h W → T2 b' t' g' h' W → Calls Tryd.prog 12 #[.agg #[.string a2, .string m2, .int .i64 mo2, .int .i64 ev2, .int .i64 su2, .int .i64 mx2, .slice (some ⟨g, 0, none⟩) tl2 tl2, .slice (some ⟨h, 0, none⟩) hl2 hl2], .agg #[.string a2, .string m2, .int .i64 mo2, .int .i64 ev2, .int .i64 su2, .int .i64 mx2, .slice (some ⟨g', 0, none⟩) tl2 tl2, .slice (some ⟨h', 0, none⟩) hl2 hl2]] W fun e w' => e = .returned (.bool true) ∧ Below W.heap.size W w')
    (hEO : ∀ b t b' t' v v' W, N b t v W → N b' t' v' W → Calls Tryd.prog 11 #[v, v'] W fun e w' => e = .returned (.bool true) ∧ Below W.heap.size W w')
    (hG1 : ∀ b t g h W, T1 b t g h W → Calls Tryd.prog 13 #[.agg #[.string a1, .string m1, .int .i64 mo1, .int .i64 ev1, .int .i64 su1, .int .i64 mx1, .slice (some ⟨g, 0, none⟩) tl1 tl1, .slice (some ⟨h, 0, none⟩) hl1 hl1], .int .i64 1] W fun e w' => e = .returned (.int .i64 Q1) ∧ Outs b t W w')
    (hG2 : ∀ b t g h W, T2 b t g h W → Calls Tryd.prog 13 #[.agg #[.string a2, .string m2, .int .i64 mo2, .int .i64 ev2, .int .i64 su2, .int .i64 mx2, .slice (some ⟨g, 0, none⟩) tl2 tl2, .slice (some ⟨h, 0, none⟩) hl2 hl2], .int .i64 Q1] W fun e w' => e = .returned (.int .i64 Q2) ∧ Outs b t W w')
    (hGO : ∀ b t p c q d W, J b t p q W → Calls Tryd.prog 14 #[.agg #[.string a, .string m, .int .i64 mo, .int .i64 ev, .int .i64 su, .int .i64 mx, .slice p tl c, .slice q hl d, .int .i64 cd], .int .i64 1] W fun e w' => e = .returned (.int .i64 QO) ∧ D p q w' ∧ Outs b t W w')
    (hHO : ∀ p c q d W, D p q W → Calls Tryd.prog 15 #[.agg #[.string a, .string m, .int .i64 mo, .int .i64 ev, .int .i64 su, .int .i64 mx, .slice p tl c, .slice q hl d, .int .i64 cd], .int .i64 1] W fun e w' => e = .returned (.int .i64 QO) ∧ Below W.heap.size W w') :
    Calls Tryd.prog 3 #[.agg #[.string a1, .string m1, .int .i64 mo1, .int .i64 ev1, .int .i64 su1, .int .i64 mx1, .slice ta1 tl1 tc1, .slice ha1 hl1 hc1], .agg #[.string a2, .string m2, .int .i64 mo2, .int .i64 ev2, .int .i64 su2, .int .i64 mx2, .slice ta2 tl2 tc2, .slice ha2 hl2 hc2]] w fun e w' => e = .returned (.bool true) ∧ Below w.heap.size w w' := by
  have HL := hid_intro hL
  have HK1 := hid_intro hK1
  have HK2 := hid_intro hK2
  have HO2 := hid_intro hO2
  have HNB := hid_intro hNb
  have HNG := hid_intro hNg
  have HNO := hid_intro hNo
  have HJB := hid_intro hJb
  have HJO := hid_intro hJo
  have HDB := hid_intro hDb
  have HZ1 := hid_intro hZ1
  have HZ2 := hid_intro hZ2
  have HU1 := hid_intro hU1
  have HU2 := hid_intro hU2
  have HS := hid_intro hS
  have HJJ := hid_intro hJ
  have HE1 := hid_intro hE1
  have HE2 := hid_intro hE2
  have HEO := hid_intro hEO
  have HG1 := hid_intro hG1
  have HG2 := hid_intro hG2
  have HGO := hid_intro hGO
  have HHO := hid_intro hHO
  clear hL hK1 hK2 hO2 hNb hNg hNo hJb hJo hDb hZ1 hZ2 hU1 hU2 hS hJ hE1 hE2 hEO hG1 hG2 hGO hHO
  obtain ⟨W0, hW0⟩ : ∃ W0, W0 = ((w.alloc (.cells #[.string a1, .string m1, .int .i64 mo1, .int .i64 ev1, .int .i64 su1, .int .i64 mx1, .slice ta1 tl1 tc1, .slice ha1 hl1 hc1] 25)).alloc (.cells #[.string a2, .string m2, .int .i64 mo2, .int .i64 ev2, .int .i64 su2, .int .i64 mx2, .slice ta2 tl2 tc2, .slice ha2 hl2 hc2] 25)) := ⟨_, rfl⟩
  have HB0 : Hid (Below w.heap.size w W0) := hid_intro (by rw [hW0]; exact ((Below.refl _ _).alloc (by simp; try omega) _).alloc (by simp; try omega) _)
  have HA0 : Hid (Blk w.heap.size [.string a1, .string m1, .int .i64 mo1, .int .i64 ev1, .int .i64 su1, .int .i64 mx1, .slice ta1 tl1 tc1, .slice ha1 hl1 hc1] W0) := hid_intro (by rw [hW0]; exact (Blk.new w [.string a1, .string m1, .int .i64 mo1, .int .i64 ev1, .int .i64 su1, .int .i64 mx1, .slice ta1 tl1 tc1, .slice ha1 hl1 hc1] 25).below ((Below.refl _ _).alloc (Nat.le_refl _) _))
  have HC0 : Hid (Blk (w.heap.size + 1) [.string a2, .string m2, .int .i64 mo2, .int .i64 ev2, .int .i64 su2, .int .i64 mx2, .slice ta2 tl2 tc2, .slice ha2 hl2 hc2] W0) := hid_intro (by
    have := Blk.new (w.alloc (.cells #[.string a1, .string m1, .int .i64 mo1, .int .i64 ev1, .int .i64 su1, .int .i64 mx1, .slice ta1 tl1 tc1, .slice ha1 hl1 hc1] 25)) [.string a2, .string m2, .int .i64 mo2, .int .i64 ev2, .int .i64 su2, .int .i64 mx2, .slice ta2 tl2 tc2, .slice ha2 hl2 hc2] 25
    rw [hW0]
    simp only [World.size_alloc] at this
    exact this)
  have HW := hid_intro hW0
  clear hW0
  go_enter Tryd.func3, Tryd.ntmps3
  have p0 : W0.cell? ⟨w.heap.size, 0, none⟩ = some (.string a1) := HA0.out.2 0 (by simp)
  have p1 : W0.cell? ⟨w.heap.size, 1, none⟩ = some (.string m1) := HA0.out.2 1 (by simp)
  have p2 : W0.cell? ⟨w.heap.size, 2, none⟩ = some (.int .i64 mo1) := HA0.out.2 2 (by simp)
  have p3 : W0.cell? ⟨w.heap.size, 3, none⟩ = some (.int .i64 ev1) := HA0.out.2 3 (by simp)
  have p4 : W0.cell? ⟨w.heap.size, 4, none⟩ = some (.int .i64 su1) := HA0.out.2 4 (by simp)
  have p5 : W0.cell? ⟨w.heap.size, 5, none⟩ = some (.int .i64 mx1) := HA0.out.2 5 (by simp)
  have p6 : W0.cell? ⟨w.heap.size, 6, none⟩ = some (.slice ta1 tl1 tc1) := HA0.out.2 6 (by simp)
  have p7 : W0.cell? ⟨w.heap.size, 7, none⟩ = some (.slice ha1 hl1 hc1) := HA0.out.2 7 (by simp)
  have pl := HA0.out.1
  go_wp2_with fail
  rw [← HW.out]
  refine (HZ1.out _ HB0.out).mono ?_
  rintro e w1 ⟨rfl, hb1⟩
  clear HW
  have HB1 := hid_intro (HB0.out.trans (hb1.mono HB0.out.size))
  have HA1 := hid_intro (HA0.out.below hb1)
  have HC1 := hid_intro (HC0.out.below hb1)
  clear HB0 HA0 HC0
  clear hb1
  clear p0 p1 p2 p3 p4 p5 p6 p7 pl
  have p0 : w1.cell? ⟨w.heap.size + 1, 0, none⟩ = some (.string a2) := HC1.out.2 0 (by simp)
  have p1 : w1.cell? ⟨w.heap.size + 1, 1, none⟩ = some (.string m2) := HC1.out.2 1 (by simp)
  have p2 : w1.cell? ⟨w.heap.size + 1, 2, none⟩ = some (.int .i64 mo2) := HC1.out.2 2 (by simp)
  have p3 : w1.cell? ⟨w.heap.size + 1, 3, none⟩ = some (.int .i64 ev2) := HC1.out.2 3 (by simp)
  have p4 : w1.cell? ⟨w.heap.size + 1, 4, none⟩ = some (.int .i64 su2) := HC1.out.2 4 (by simp)
  have p5 : w1.cell? ⟨w.heap.size + 1, 5, none⟩ = some (.int .i64 mx2) := HC1.out.2 5 (by simp)
  have p6 : w1.cell? ⟨w.heap.size + 1, 6, none⟩ = some (.slice ta2 tl2 tc2) := HC1.out.2 6 (by simp)
  have p7 : w1.cell? ⟨w.heap.size + 1, 7, none⟩ = some (.slice ha2 hl2 hc2) := HC1.out.2 7 (by simp)
  have pl := HC1.out.1
  go_wp2_with fail
  refine (HZ2.out _ HB1.out).mono ?_
  rintro e w2 ⟨rfl, hb2⟩
  have HB2 := hid_intro (HB1.out.trans (hb2.mono HB1.out.size))
  have HA2 := hid_intro (HA1.out.below hb2)
  have HC2 := hid_intro (HC1.out.below hb2)
  clear HB1 HA1 HC1
  clear hb2
  clear p0 p1 p2 p3 p4 p5 p6 p7 pl
  go_wp2_with fail
  go_cut [6] from 24 (fun v wx => ∃ bO t0 c0 h0 d0 bN tN, v = .pointer (some ⟨bO, 0, none⟩) ∧ Hid (Blk bO [.string a, .string m, .int .i64 mo, .int .i64 ev, .int .i64 su, .int .i64 mx, .slice t0 tl c0, .slice h0 hl d0, .int .i64 cd] wx) ∧ Hid (N bN tN (.agg #[.string a, .string m, .int .i64 mo, .int .i64 ev, .int .i64 su, .int .i64 mx, .slice t0 tl c0, .slice h0 hl d0, .int .i64 cd]) wx) ∧ Hid (tN ≤ wx.heap.size) ∧ Hid (BX w2 (w.heap.size) (w.heap.size + 1) (.string a1) (.string m1) (.int .i64 mo1) (.int .i64 ev1) (.int .i64 su1) (.int .i64 mx1) (.slice ta1 tl1 tc1) (.slice ha1 hl1 hc1) (.string a2) (.string m2) (.int .i64 mo2) (.int .i64 ev2) (.int .i64 su2) (.int .i64 mx2) (.slice ta2 tl2 tc2) (.slice ha2 hl2 hc2) wx))
  case first =>
    have a0 : w.heap.size < w2.heap.size := HA2.out.1
    have b0 : w.heap.size + 1 < w2.heap.size := HC2.out.1
    have HX := hid_intro (BX.of HA2.out HC2.out)
    have HBW := hid_intro HB2.out
    refine wp_region_held_drew (S := (fun W => Below w2.heap.size w2 W ∧ w.heap.size < W.heap.size ∧ w.heap.size + 1 < W.heap.size ∧ W.cell? ⟨w.heap.size, 0, none⟩ = some (.string a1) ∧ W.cell? ⟨w.heap.size, 1, none⟩ = some (.string m1) ∧ W.cell? ⟨w.heap.size, 2, none⟩ = some (.int .i64 mo1) ∧ W.cell? ⟨w.heap.size, 3, none⟩ = some (.int .i64 ev1) ∧ W.cell? ⟨w.heap.size, 4, none⟩ = some (.int .i64 su1) ∧ W.cell? ⟨w.heap.size, 5, none⟩ = some (.int .i64 mx1) ∧ W.cell? ⟨w.heap.size, 6, none⟩ = some (.slice ta1 tl1 tc1) ∧ W.cell? ⟨w.heap.size, 7, none⟩ = some (.slice ha1 hl1 hc1) ∧ W.cell? ⟨w.heap.size + 1, 0, none⟩ = some (.string a2) ∧ W.cell? ⟨w.heap.size + 1, 1, none⟩ = some (.string m2) ∧ W.cell? ⟨w.heap.size + 1, 2, none⟩ = some (.int .i64 mo2) ∧ W.cell? ⟨w.heap.size + 1, 3, none⟩ = some (.int .i64 ev2) ∧ W.cell? ⟨w.heap.size + 1, 4, none⟩ = some (.int .i64 su2) ∧ W.cell? ⟨w.heap.size + 1, 5, none⟩ = some (.int .i64 mx2) ∧ W.cell? ⟨w.heap.size + 1, 6, none⟩ = some (.slice ta2 tl2 tc2) ∧ W.cell? ⟨w.heap.size + 1, 7, none⟩ = some (.slice ha2 hl2 hc2))) (by kernel_rfl) HX.out (fun hHeld => ?_)
    have HX2 : Hid (BX w2 (w.heap.size) (w.heap.size + 1) (.string a1) (.string m1) (.int .i64 mo1) (.int .i64 ev1) (.int .i64 su1) (.int .i64 mx1) (.slice ta1 tl1 tc1) (.slice ha1 hl1 hc1) (.string a2) (.string m2) (.int .i64 mo2) (.int .i64 ev2) (.int .i64 su2) (.int .i64 mx2) (.slice ta2 tl2 tc2) (.slice ha2 hl2 hc2) w2.drew) := hid_intro HX.out
    clear HX
    generalize w2.drew = kd at *
    refine wpAnyH_take (i := 0) (oi := { dst := some 24, op := Op.load 25 (Operand.tmp 2), type := 25, pos := "exact.go:2711", after := #[], guard := none }) (v := ?_) rfl (by kernel_rfl) (by kernel_rfl) (by kernel_rfl) (fun _ _ _ h => h) (Or.inl ⟨by rfl, ?_⟩) (by assumption) ?_
    rotate_left
    · (intro w hSw; (try dsimp only at hSw); go_simp) <;> with_reducible rfl
    try simp only [Act.put, List.setIfInBounds_toArray, List.set_cons_zero, List.set_cons_succ]
    refine wpAnyH_take (i := 2) (oi := { dst := some 26, op := Op.load 25 (Operand.tmp 3), type := 25, pos := "exact.go:2711", after := #[], guard := none }) (v := ?_) rfl (by kernel_rfl) (by kernel_rfl) (by kernel_rfl) (fun _ _ _ h => h) (Or.inl ⟨by rfl, ?_⟩) (by assumption) ?_
    rotate_left
    · (intro w hSw; (try dsimp only at hSw); go_simp) <;> with_reducible rfl
    try simp only [Act.put, List.setIfInBounds_toArray, List.set_cons_zero, List.set_cons_succ]
    refine wpAnyH_ready (rs := [1, 5]) (by kernel_rfl) (by simp) ?_
    refine AllReadyH.cons (o := { dst := some 25, op := Op.call { callee := Callee.value (Operand.func 9), args := #[Operand.tmp 24], argTypes := #[25] }, type := 29, pos := "exact.go:2711", after := #[{ on := 0, ground := Ground.data }], guard := none }) rfl (fun K hK => ?_) (AllReadyH.cons (o := { dst := some 6, op := Op.alloc 31, type := 0, pos := "exact.go:2711", after := #[], guard := none }) rfl (fun K hK => ?_) AllReadyH.nil)
    · go_simp
      go_at_call 9
      refine (HU1.out _ (HBW.out.trans ((show BX w2 (w.heap.size) (w.heap.size + 1) (.string a1) (.string m1) (.int .i64 mo1) (.int .i64 ev1) (.int .i64 su1) (.int .i64 mx1) (.slice ta1 tl1 tc1) (.slice ha1 hl1 hc1) (.string a2) (.string m2) (.int .i64 mo2) (.int .i64 ev2) (.int .i64 su2) (.int .i64 mx2) (.slice ta2 tl2 tc2) (.slice ha2 hl2 hc2) kd from HX2.out).1.mono HBW.out.size))).mono ?_
      rintro e u1 ⟨g1x, h1x, rfl, hT1, hq1⟩
      try go_wp2_with fail
      have hh1 := BX.below (show BX w2 (w.heap.size) (w.heap.size + 1) (.string a1) (.string m1) (.int .i64 mo1) (.int .i64 ev1) (.int .i64 su1) (.int .i64 mx1) (.slice ta1 tl1 tc1) (.slice ha1 hl1 hc1) (.string a2) (.string m2) (.int .i64 mo2) (.int .i64 ev2) (.int .i64 su2) (.int .i64 mx2) (.slice ta2 tl2 tc2) (.slice ha2 hl2 hc2) kd from HX2.out) hq1
      refine hK.out _ _ hh1 (fun _ => ?_)
      clear hK K
      try simp only [Act.put, List.setIfInBounds_toArray, List.set_cons_zero, List.set_cons_succ]
      refine wpAnyH_ready (rs := [3, 5]) (by kernel_rfl) (by simp) ?_
      refine AllReadyH.cons (o := { dst := some 27, op := Op.call { callee := Callee.value (Operand.func 9), args := #[Operand.tmp 26], argTypes := #[25] }, type := 29, pos := "exact.go:2711", after := #[{ on := 2, ground := Ground.data }, { on := 1, ground := Ground.chain }], guard := none }) rfl (fun K hK => ?_) (AllReadyH.cons (o := { dst := some 6, op := Op.alloc 31, type := 0, pos := "exact.go:2711", after := #[], guard := none }) rfl (fun K hK => ?_) AllReadyH.nil)
      · go_simp
        go_at_call 9
        refine (HU2.out _ (HBW.out.trans ((show BX w2 (w.heap.size) (w.heap.size + 1) (.string a1) (.string m1) (.int .i64 mo1) (.int .i64 ev1) (.int .i64 su1) (.int .i64 mx1) (.slice ta1 tl1 tc1) (.slice ha1 hl1 hc1) (.string a2) (.string m2) (.int .i64 mo2) (.int .i64 ev2) (.int .i64 su2) (.int .i64 mx2) (.slice ta2 tl2 tc2) (.slice ha2 hl2 hc2) u1 from hh1).1.mono HBW.out.size))).mono ?_
        rintro e u2 ⟨g2x, h2x, rfl, hT2, hq2⟩
        try go_wp2_with fail
        have hh2 := BX.below (show BX w2 (w.heap.size) (w.heap.size + 1) (.string a1) (.string m1) (.int .i64 mo1) (.int .i64 ev1) (.int .i64 su1) (.int .i64 mx1) (.slice ta1 tl1 tc1) (.slice ha1 hl1 hc1) (.string a2) (.string m2) (.int .i64 mo2) (.int .i64 ev2) (.int .i64 su2) (.int .i64 mx2) (.slice ta2 tl2 tc2) (.slice ha2 hl2 hc2) u1 from hh1) hq2
        have hT1_2 := HK1.out _ _ _ _ _ _  hT1 hq2
        refine hK.out _ _ hh2 (fun _ => ?_)
        clear hK K
        try simp only [Act.put, List.setIfInBounds_toArray, List.set_cons_zero, List.set_cons_succ]
        refine wpAnyH_ready (rs := [4, 5]) (by kernel_rfl) (by simp) ?_
        refine AllReadyH.cons (o := { dst := some 28, op := Op.call { callee := Callee.value (Operand.func 8), args := #[Operand.tmp 25, Operand.tmp 27], argTypes := #[29, 29] }, type := 31, pos := "exact.go:2711", after := #[{ on := 1, ground := Ground.data }, { on := 3, ground := Ground.data }, { on := 3, ground := Ground.chain }], guard := none }) rfl (fun K hK => ?_) (AllReadyH.cons (o := { dst := some 6, op := Op.alloc 31, type := 0, pos := "exact.go:2711", after := #[], guard := none }) rfl (fun K hK => ?_) AllReadyH.nil)
        · go_simp
          go_at_call 8
          refine (HS.out _ _ _ _ _ _ _ _ _ hT1_2 hT2).mono ?_
          rintro e u3 ⟨t0, c0, h0, d0, rfl, hN, hq3⟩
          try go_wp2_with fail
          have htn : u3.heap.size ≤ u3.heap.size := Nat.le_refl _
          have hh3 := BX.below (show BX w2 (w.heap.size) (w.heap.size + 1) (.string a1) (.string m1) (.int .i64 mo1) (.int .i64 ev1) (.int .i64 su1) (.int .i64 mx1) (.slice ta1 tl1 tc1) (.slice ha1 hl1 hc1) (.string a2) (.string m2) (.int .i64 mo2) (.int .i64 ev2) (.int .i64 su2) (.int .i64 mx2) (.slice ta2 tl2 tc2) (.slice ha2 hl2 hc2) u2 from hh2) hq3
          have hT1_3 := HK1.out _ _ _ _ _ _  hT1_2 hq3
          have hT2_3 := HK2.out _ _ _ _ _ _  hT2 hq3
          refine hK.out _ _ hh3 (fun _ => ?_)
          clear hK K
          try simp only [Act.put, List.setIfInBounds_toArray, List.set_cons_zero, List.set_cons_succ]
          refine wpAnyH_ready (rs := [5]) (by kernel_rfl) (by simp) ?_
          refine AllReadyH.cons (o := { dst := some 6, op := Op.alloc 31, type := 0, pos := "exact.go:2711", after := #[], guard := none }) rfl (fun K hK => ?_) AllReadyH.nil
          go_simp
          try go_wp2_with fail
          have hlo : w2.heap.size ≤ u3.heap.size := (show BX w2 (w.heap.size) (w.heap.size + 1) (.string a1) (.string m1) (.int .i64 mo1) (.int .i64 ev1) (.int .i64 su1) (.int .i64 mx1) (.slice ta1 tl1 tc1) (.slice ha1 hl1 hc1) (.string a2) (.string m2) (.int .i64 mo2) (.int .i64 ev2) (.int .i64 su2) (.int .i64 mx2) (.slice ta2 tl2 tc2) (.slice ha2 hl2 hc2) u3 from hh3).1.size
          have hrel : u3.heap.size < 0 ∨ u3.heap.size ≤ u3.heap.size := .inr (by first | exact Nat.le_refl _ | omega)
          have hh4 := BX.below (show BX w2 (w.heap.size) (w.heap.size + 1) (.string a1) (.string m1) (.int .i64 mo1) (.int .i64 ev1) (.int .i64 su1) (.int .i64 mx1) (.slice ta1 tl1 tc1) (.slice ha1 hl1 hc1) (.string a2) (.string m2) (.int .i64 mo2) (.int .i64 ev2) (.int .i64 su2) (.int .i64 mx2) (.slice ta2 tl2 tc2) (.slice ha2 hl2 hc2) u3 from hh3) ((Below.refl u3.heap.size u3).alloc (Nat.le_refl _) (Obj.cells #[.string ⟨#[]⟩, .string ⟨#[]⟩, .int .i64 0, .int .i64 0, .int .i64 0, .int .i64 0, .slice none 0 0, .slice none 0 0, .int .i64 0] 31))
          have hT1_4 := HK1.out _ _ _ _ _ _  hT1_3 ((Below.refl u3.heap.size u3).alloc (Nat.le_refl _) (Obj.cells #[.string ⟨#[]⟩, .string ⟨#[]⟩, .int .i64 0, .int .i64 0, .int .i64 0, .int .i64 0, .slice none 0 0, .slice none 0 0, .int .i64 0] 31))
          have hT2_4 := HK2.out _ _ _ _ _ _  hT2_3 ((Below.refl u3.heap.size u3).alloc (Nat.le_refl _) (Obj.cells #[.string ⟨#[]⟩, .string ⟨#[]⟩, .int .i64 0, .int .i64 0, .int .i64 0, .int .i64 0, .slice none 0 0, .slice none 0 0, .int .i64 0] 31))
          have hN_4 := HNB.out _ _ _ _ _  hN ((Below.refl u3.heap.size u3).alloc (Nat.le_refl _) (Obj.cells #[.string ⟨#[]⟩, .string ⟨#[]⟩, .int .i64 0, .int .i64 0, .int .i64 0, .int .i64 0, .slice none 0 0, .slice none 0 0, .int .i64 0] 31))
          have pt_4 : Pt u3.heap.size 9 (u3.alloc (Obj.cells #[.string ⟨#[]⟩, .string ⟨#[]⟩, .int .i64 0, .int .i64 0, .int .i64 0, .int .i64 0, .slice none 0 0, .slice none 0 0, .int .i64 0] 31)) := StR.pt_new u3 [.string ⟨#[]⟩, .string ⟨#[]⟩, .int .i64 0, .int .i64 0, .int .i64 0, .int .i64 0, .slice none 0 0, .slice none 0 0, .int .i64 0] 31
          refine hK.out _ _ hh4 (fun _ => ?_)
          clear hK K
          try simp only [Act.put, List.setIfInBounds_toArray, List.set_cons_zero, List.set_cons_succ]
          generalize (u3.alloc (Obj.cells #[.string ⟨#[]⟩, .string ⟨#[]⟩, .int .i64 0, .int .i64 0, .int .i64 0, .int .i64 0, .slice none 0 0, .slice none 0 0, .int .i64 0] 31)) = k4 at *
          refine wpAnyH_ready (rs := [6]) (by kernel_rfl) (by simp) ?_
          refine AllReadyH.cons (o := { dst := none, op := Op.store 31 (Operand.tmp 6) (Operand.tmp 28), type := 0, pos := "exact.go:2711", after := #[{ on := 5, ground := Ground.data }, { on := 4, ground := Ground.data }, { on := 4, ground := Ground.chain }, { on := 0, ground := Ground.phase }, { on := 1, ground := Ground.phase }, { on := 2, ground := Ground.phase }, { on := 3, ground := Ground.phase }, { on := 4, ground := Ground.phase }, { on := 5, ground := Ground.phase }], guard := none }) rfl (fun K hK => ?_) AllReadyH.nil
          have htn2 : u3.heap.size ≤ k4.heap.size := by first | exact Nat.le_refl _ | (have := (show BX w2 (w.heap.size) (w.heap.size + 1) (.string a1) (.string m1) (.int .i64 mo1) (.int .i64 ev1) (.int .i64 su1) (.int .i64 mx1) (.slice ta1 tl1 tc1) (.slice ha1 hl1 hc1) (.string a2) (.string m2) (.int .i64 mo2) (.int .i64 ev2) (.int .i64 su2) (.int .i64 mx2) (.slice ta2 tl2 tc2) (.slice ha2 hl2 hc2) k4 from hh4).1.size; omega) | (have := pt_4.lt; omega)
          have zl5 := pt_4.lt
          obtain ⟨e5_0, y5_0⟩ := pt_4.has 0 (by omega)
          have z5_0 := pt_4.free 0 (by omega)
          obtain ⟨e5_1, y5_1⟩ := pt_4.has 1 (by omega)
          have z5_1 := pt_4.free 1 (by omega)
          obtain ⟨e5_2, y5_2⟩ := pt_4.has 2 (by omega)
          have z5_2 := pt_4.free 2 (by omega)
          obtain ⟨e5_3, y5_3⟩ := pt_4.has 3 (by omega)
          have z5_3 := pt_4.free 3 (by omega)
          obtain ⟨e5_4, y5_4⟩ := pt_4.has 4 (by omega)
          have z5_4 := pt_4.free 4 (by omega)
          obtain ⟨e5_5, y5_5⟩ := pt_4.has 5 (by omega)
          have z5_5 := pt_4.free 5 (by omega)
          obtain ⟨e5_6, y5_6⟩ := pt_4.has 6 (by omega)
          have z5_6 := pt_4.free 6 (by omega)
          obtain ⟨e5_7, y5_7⟩ := pt_4.has 7 (by omega)
          have z5_7 := pt_4.free 7 (by omega)
          obtain ⟨e5_8, y5_8⟩ := pt_4.has 8 (by omega)
          have z5_8 := pt_4.free 8 (by omega)
          go_simp
          try go_wp2_with fail
          have hg5 := StR.stL_grown u3.heap.size [.string a, .string m, .int .i64 mo, .int .i64 ev, .int .i64 su, .int .i64 mx, .slice t0 tl c0, .slice h0 hl d0, .int .i64 cd] 0 k4
          have hbO := StR.stL_blk (vs := [.string a, .string m, .int .i64 mo, .int .i64 ev, .int .i64 su, .int .i64 mx, .slice t0 tl c0, .slice h0 hl d0, .int .i64 cd]) (W := k4) pt_4 (by simp)
          have hh5 := BX.grown (show BX w2 (w.heap.size) (w.heap.size + 1) (.string a1) (.string m1) (.int .i64 mo1) (.int .i64 ev1) (.int .i64 su1) (.int .i64 mx1) (.slice ta1 tl1 tc1) (.slice ha1 hl1 hc1) (.string a2) (.string m2) (.int .i64 mo2) (.int .i64 ev2) (.int .i64 su2) (.int .i64 mx2) (.slice ta2 tl2 tc2) (.slice ha2 hl2 hc2) k4 from hh4) hlo a0 b0 hg5
          have hNn := HNG.out _ _ _ _ _ _ hN_4 hg5 (by rcases hrel with r | r; (first | exact .inl r | omega); exact .inr r)
          have hsz := Nat.le_trans htn2 hg5.size
          simp only [StR.stL, Nat.zero_add, Nat.reduceAdd] at hh5 hbO hNn hsz
          refine hK.out _ _ hh5 (fun _ => ?_)
          clear hK K
          try simp only [Act.put, List.setIfInBounds_toArray, List.set_cons_zero, List.set_cons_succ]
          generalize (((((((((k4.setCell ⟨u3.heap.size, 0, none⟩ (.string a)).setCell ⟨u3.heap.size, 1, none⟩ (.string m)).setCell ⟨u3.heap.size, 2, none⟩ (.int .i64 mo)).setCell ⟨u3.heap.size, 3, none⟩ (.int .i64 ev)).setCell ⟨u3.heap.size, 4, none⟩ (.int .i64 su)).setCell ⟨u3.heap.size, 5, none⟩ (.int .i64 mx)).setCell ⟨u3.heap.size, 6, none⟩ (.slice t0 tl c0)).setCell ⟨u3.heap.size, 7, none⟩ (.slice h0 hl d0)).setCell ⟨u3.heap.size, 8, none⟩ (.int .i64 cd)) = k5 at *
          refine wpAnyH_done (by kernel_rfl) ?_ _
          have F1 := hid_intro hbO
          have F2 := hid_intro hNn
          have F3 := hid_intro hsz
          have F4 := hid_intro (show BX w2 (w.heap.size) (w.heap.size + 1) (.string a1) (.string m1) (.int .i64 mo1) (.int .i64 ev1) (.int .i64 su1) (.int .i64 mx1) (.slice ta1 tl1 tc1) (.slice ha1 hl1 hc1) (.string a2) (.string m2) (.int .i64 mo2) (.int .i64 ev2) (.int .i64 su2) (.int .i64 mx2) (.slice ta2 tl2 tc2) (.slice ha2 hl2 hc2) k5 from hh5)
          try clear y5_8
          try clear y5_7
          try clear y5_6
          try clear y5_5
          try clear y5_4
          try clear y5_3
          try clear y5_2
          try clear y5_1
          try clear y5_0
          try clear hsz
          try clear hNn
          try clear hh5
          try clear hbO
          try clear hg5
          try clear z5_8
          try clear z5_7
          try clear z5_6
          try clear z5_5
          try clear z5_4
          try clear z5_3
          try clear z5_2
          try clear z5_1
          try clear z5_0
          try clear zl5
          try clear htn2
          try clear pt_4
          try clear hN_4
          try clear hT2_4
          try clear hT1_4
          try clear hh4
          try clear hrel
          try clear hlo
          try clear hq3
          try clear hN
          try clear hT2_3
          try clear hT1_3
          try clear hh3
          try clear htn
          try clear hq2
          try clear hT2
          try clear hT1_2
          try clear hh2
          try clear hq1
          try clear hT1
          try clear hh1
          go_wp2_with fail
          go_meet
          case rel => exact ⟨_, _, _, _, _, _, _, rfl, F1, F2, F3, F4⟩
        · go_simp
          try go_wp2_with fail
          have hlo : w2.heap.size ≤ u2.heap.size := (show BX w2 (w.heap.size) (w.heap.size + 1) (.string a1) (.string m1) (.int .i64 mo1) (.int .i64 ev1) (.int .i64 su1) (.int .i64 mx1) (.slice ta1 tl1 tc1) (.slice ha1 hl1 hc1) (.string a2) (.string m2) (.int .i64 mo2) (.int .i64 ev2) (.int .i64 su2) (.int .i64 mx2) (.slice ta2 tl2 tc2) (.slice ha2 hl2 hc2) u2 from hh2).1.size
          have hh3 := BX.below (show BX w2 (w.heap.size) (w.heap.size + 1) (.string a1) (.string m1) (.int .i64 mo1) (.int .i64 ev1) (.int .i64 su1) (.int .i64 mx1) (.slice ta1 tl1 tc1) (.slice ha1 hl1 hc1) (.string a2) (.string m2) (.int .i64 mo2) (.int .i64 ev2) (.int .i64 su2) (.int .i64 mx2) (.slice ta2 tl2 tc2) (.slice ha2 hl2 hc2) u2 from hh2) ((Below.refl u2.heap.size u2).alloc (Nat.le_refl _) (Obj.cells #[.string ⟨#[]⟩, .string ⟨#[]⟩, .int .i64 0, .int .i64 0, .int .i64 0, .int .i64 0, .slice none 0 0, .slice none 0 0, .int .i64 0] 31))
          have hT1_3 := HK1.out _ _ _ _ _ _  hT1_2 ((Below.refl u2.heap.size u2).alloc (Nat.le_refl _) (Obj.cells #[.string ⟨#[]⟩, .string ⟨#[]⟩, .int .i64 0, .int .i64 0, .int .i64 0, .int .i64 0, .slice none 0 0, .slice none 0 0, .int .i64 0] 31))
          have hT2_3 := HK2.out _ _ _ _ _ _  hT2 ((Below.refl u2.heap.size u2).alloc (Nat.le_refl _) (Obj.cells #[.string ⟨#[]⟩, .string ⟨#[]⟩, .int .i64 0, .int .i64 0, .int .i64 0, .int .i64 0, .slice none 0 0, .slice none 0 0, .int .i64 0] 31))
          have pt_3 : Pt u2.heap.size 9 (u2.alloc (Obj.cells #[.string ⟨#[]⟩, .string ⟨#[]⟩, .int .i64 0, .int .i64 0, .int .i64 0, .int .i64 0, .slice none 0 0, .slice none 0 0, .int .i64 0] 31)) := StR.pt_new u2 [.string ⟨#[]⟩, .string ⟨#[]⟩, .int .i64 0, .int .i64 0, .int .i64 0, .int .i64 0, .slice none 0 0, .slice none 0 0, .int .i64 0] 31
          refine hK.out _ _ hh3 (fun _ => ?_)
          clear hK K
          try simp only [Act.put, List.setIfInBounds_toArray, List.set_cons_zero, List.set_cons_succ]
          generalize (u2.alloc (Obj.cells #[.string ⟨#[]⟩, .string ⟨#[]⟩, .int .i64 0, .int .i64 0, .int .i64 0, .int .i64 0, .slice none 0 0, .slice none 0 0, .int .i64 0] 31)) = k3 at *
          refine wpAnyH_ready (rs := [4]) (by kernel_rfl) (by simp) ?_
          refine AllReadyH.cons (o := { dst := some 28, op := Op.call { callee := Callee.value (Operand.func 8), args := #[Operand.tmp 25, Operand.tmp 27], argTypes := #[29, 29] }, type := 31, pos := "exact.go:2711", after := #[{ on := 1, ground := Ground.data }, { on := 3, ground := Ground.data }, { on := 3, ground := Ground.chain }], guard := none }) rfl (fun K hK => ?_) AllReadyH.nil
          go_simp
          go_at_call 8
          refine (HS.out _ _ _ _ _ _ _ _ _ hT1_3 hT2_3).mono ?_
          rintro e u4 ⟨t0, c0, h0, d0, rfl, hN, hq4⟩
          try go_wp2_with fail
          have hrel : u2.heap.size < k3.heap.size ∨ u4.heap.size ≤ u2.heap.size := .inl pt_3.lt
          have htn : u4.heap.size ≤ u4.heap.size := Nat.le_refl _
          have hh4 := BX.below (show BX w2 (w.heap.size) (w.heap.size + 1) (.string a1) (.string m1) (.int .i64 mo1) (.int .i64 ev1) (.int .i64 su1) (.int .i64 mx1) (.slice ta1 tl1 tc1) (.slice ha1 hl1 hc1) (.string a2) (.string m2) (.int .i64 mo2) (.int .i64 ev2) (.int .i64 su2) (.int .i64 mx2) (.slice ta2 tl2 tc2) (.slice ha2 hl2 hc2) k3 from hh3) hq4
          have hT1_4 := HK1.out _ _ _ _ _ _  hT1_3 hq4
          have hT2_4 := HK2.out _ _ _ _ _ _  hT2_3 hq4
          have pt_4 := pt_3.below hq4
          refine hK.out _ _ hh4 (fun _ => ?_)
          clear hK K
          try simp only [Act.put, List.setIfInBounds_toArray, List.set_cons_zero, List.set_cons_succ]
          refine wpAnyH_ready (rs := [6]) (by kernel_rfl) (by simp) ?_
          refine AllReadyH.cons (o := { dst := none, op := Op.store 31 (Operand.tmp 6) (Operand.tmp 28), type := 0, pos := "exact.go:2711", after := #[{ on := 5, ground := Ground.data }, { on := 4, ground := Ground.data }, { on := 4, ground := Ground.chain }, { on := 0, ground := Ground.phase }, { on := 1, ground := Ground.phase }, { on := 2, ground := Ground.phase }, { on := 3, ground := Ground.phase }, { on := 4, ground := Ground.phase }, { on := 5, ground := Ground.phase }], guard := none }) rfl (fun K hK => ?_) AllReadyH.nil
          have htn2 : u4.heap.size ≤ u4.heap.size := by first | exact Nat.le_refl _ | (have := (show BX w2 (w.heap.size) (w.heap.size + 1) (.string a1) (.string m1) (.int .i64 mo1) (.int .i64 ev1) (.int .i64 su1) (.int .i64 mx1) (.slice ta1 tl1 tc1) (.slice ha1 hl1 hc1) (.string a2) (.string m2) (.int .i64 mo2) (.int .i64 ev2) (.int .i64 su2) (.int .i64 mx2) (.slice ta2 tl2 tc2) (.slice ha2 hl2 hc2) u4 from hh4).1.size; omega) | (have := pt_4.lt; omega)
          have zl5 := pt_4.lt
          obtain ⟨e5_0, y5_0⟩ := pt_4.has 0 (by omega)
          have z5_0 := pt_4.free 0 (by omega)
          obtain ⟨e5_1, y5_1⟩ := pt_4.has 1 (by omega)
          have z5_1 := pt_4.free 1 (by omega)
          obtain ⟨e5_2, y5_2⟩ := pt_4.has 2 (by omega)
          have z5_2 := pt_4.free 2 (by omega)
          obtain ⟨e5_3, y5_3⟩ := pt_4.has 3 (by omega)
          have z5_3 := pt_4.free 3 (by omega)
          obtain ⟨e5_4, y5_4⟩ := pt_4.has 4 (by omega)
          have z5_4 := pt_4.free 4 (by omega)
          obtain ⟨e5_5, y5_5⟩ := pt_4.has 5 (by omega)
          have z5_5 := pt_4.free 5 (by omega)
          obtain ⟨e5_6, y5_6⟩ := pt_4.has 6 (by omega)
          have z5_6 := pt_4.free 6 (by omega)
          obtain ⟨e5_7, y5_7⟩ := pt_4.has 7 (by omega)
          have z5_7 := pt_4.free 7 (by omega)
          obtain ⟨e5_8, y5_8⟩ := pt_4.has 8 (by omega)
          have z5_8 := pt_4.free 8 (by omega)
          go_simp
          try go_wp2_with fail
          have hg5 := StR.stL_grown u2.heap.size [.string a, .string m, .int .i64 mo, .int .i64 ev, .int .i64 su, .int .i64 mx, .slice t0 tl c0, .slice h0 hl d0, .int .i64 cd] 0 u4
          have hbO := StR.stL_blk (vs := [.string a, .string m, .int .i64 mo, .int .i64 ev, .int .i64 su, .int .i64 mx, .slice t0 tl c0, .slice h0 hl d0, .int .i64 cd]) (W := u4) pt_4 (by simp)
          have hh5 := BX.grown (show BX w2 (w.heap.size) (w.heap.size + 1) (.string a1) (.string m1) (.int .i64 mo1) (.int .i64 ev1) (.int .i64 su1) (.int .i64 mx1) (.slice ta1 tl1 tc1) (.slice ha1 hl1 hc1) (.string a2) (.string m2) (.int .i64 mo2) (.int .i64 ev2) (.int .i64 su2) (.int .i64 mx2) (.slice ta2 tl2 tc2) (.slice ha2 hl2 hc2) u4 from hh4) hlo a0 b0 hg5
          have hNn := HNG.out _ _ _ _ _ _ hN hg5 (by rcases hrel with r | r; (first | exact .inl r | omega); exact .inr r)
          have hsz := Nat.le_trans htn2 hg5.size
          simp only [StR.stL, Nat.zero_add, Nat.reduceAdd] at hh5 hbO hNn hsz
          refine hK.out _ _ hh5 (fun _ => ?_)
          clear hK K
          try simp only [Act.put, List.setIfInBounds_toArray, List.set_cons_zero, List.set_cons_succ]
          generalize (((((((((u4.setCell ⟨u2.heap.size, 0, none⟩ (.string a)).setCell ⟨u2.heap.size, 1, none⟩ (.string m)).setCell ⟨u2.heap.size, 2, none⟩ (.int .i64 mo)).setCell ⟨u2.heap.size, 3, none⟩ (.int .i64 ev)).setCell ⟨u2.heap.size, 4, none⟩ (.int .i64 su)).setCell ⟨u2.heap.size, 5, none⟩ (.int .i64 mx)).setCell ⟨u2.heap.size, 6, none⟩ (.slice t0 tl c0)).setCell ⟨u2.heap.size, 7, none⟩ (.slice h0 hl d0)).setCell ⟨u2.heap.size, 8, none⟩ (.int .i64 cd)) = k5 at *
          refine wpAnyH_done (by kernel_rfl) ?_ _
          have F1 := hid_intro hbO
          have F2 := hid_intro hNn
          have F3 := hid_intro hsz
          have F4 := hid_intro (show BX w2 (w.heap.size) (w.heap.size + 1) (.string a1) (.string m1) (.int .i64 mo1) (.int .i64 ev1) (.int .i64 su1) (.int .i64 mx1) (.slice ta1 tl1 tc1) (.slice ha1 hl1 hc1) (.string a2) (.string m2) (.int .i64 mo2) (.int .i64 ev2) (.int .i64 su2) (.int .i64 mx2) (.slice ta2 tl2 tc2) (.slice ha2 hl2 hc2) k5 from hh5)
          try clear y5_8
          try clear y5_7
          try clear y5_6
          try clear y5_5
          try clear y5_4
          try clear y5_3
          try clear y5_2
          try clear y5_1
          try clear y5_0
          try clear hsz
          try clear hNn
          try clear hh5
          try clear hbO
          try clear hg5
          try clear z5_8
          try clear z5_7
          try clear z5_6
          try clear z5_5
          try clear z5_4
          try clear z5_3
          try clear z5_2
          try clear z5_1
          try clear z5_0
          try clear zl5
          try clear htn2
          try clear hq4
          try clear hN
          try clear pt_4
          try clear hT2_4
          try clear hT1_4
          try clear hh4
          try clear htn
          try clear hrel
          try clear pt_3
          try clear hT2_3
          try clear hT1_3
          try clear hh3
          try clear hlo
          try clear hq2
          try clear hT2
          try clear hT1_2
          try clear hh2
          try clear hq1
          try clear hT1
          try clear hh1
          go_wp2_with fail
          go_meet
          case rel => exact ⟨_, _, _, _, _, _, _, rfl, F1, F2, F3, F4⟩
      · go_simp
        try go_wp2_with fail
        have hlo : w2.heap.size ≤ u1.heap.size := (show BX w2 (w.heap.size) (w.heap.size + 1) (.string a1) (.string m1) (.int .i64 mo1) (.int .i64 ev1) (.int .i64 su1) (.int .i64 mx1) (.slice ta1 tl1 tc1) (.slice ha1 hl1 hc1) (.string a2) (.string m2) (.int .i64 mo2) (.int .i64 ev2) (.int .i64 su2) (.int .i64 mx2) (.slice ta2 tl2 tc2) (.slice ha2 hl2 hc2) u1 from hh1).1.size
        have hh2 := BX.below (show BX w2 (w.heap.size) (w.heap.size + 1) (.string a1) (.string m1) (.int .i64 mo1) (.int .i64 ev1) (.int .i64 su1) (.int .i64 mx1) (.slice ta1 tl1 tc1) (.slice ha1 hl1 hc1) (.string a2) (.string m2) (.int .i64 mo2) (.int .i64 ev2) (.int .i64 su2) (.int .i64 mx2) (.slice ta2 tl2 tc2) (.slice ha2 hl2 hc2) u1 from hh1) ((Below.refl u1.heap.size u1).alloc (Nat.le_refl _) (Obj.cells #[.string ⟨#[]⟩, .string ⟨#[]⟩, .int .i64 0, .int .i64 0, .int .i64 0, .int .i64 0, .slice none 0 0, .slice none 0 0, .int .i64 0] 31))
        have hT1_2 := HK1.out _ _ _ _ _ _  hT1 ((Below.refl u1.heap.size u1).alloc (Nat.le_refl _) (Obj.cells #[.string ⟨#[]⟩, .string ⟨#[]⟩, .int .i64 0, .int .i64 0, .int .i64 0, .int .i64 0, .slice none 0 0, .slice none 0 0, .int .i64 0] 31))
        have pt_2 : Pt u1.heap.size 9 (u1.alloc (Obj.cells #[.string ⟨#[]⟩, .string ⟨#[]⟩, .int .i64 0, .int .i64 0, .int .i64 0, .int .i64 0, .slice none 0 0, .slice none 0 0, .int .i64 0] 31)) := StR.pt_new u1 [.string ⟨#[]⟩, .string ⟨#[]⟩, .int .i64 0, .int .i64 0, .int .i64 0, .int .i64 0, .slice none 0 0, .slice none 0 0, .int .i64 0] 31
        refine hK.out _ _ hh2 (fun _ => ?_)
        clear hK K
        try simp only [Act.put, List.setIfInBounds_toArray, List.set_cons_zero, List.set_cons_succ]
        generalize (u1.alloc (Obj.cells #[.string ⟨#[]⟩, .string ⟨#[]⟩, .int .i64 0, .int .i64 0, .int .i64 0, .int .i64 0, .slice none 0 0, .slice none 0 0, .int .i64 0] 31)) = k2 at *
        refine wpAnyH_ready (rs := [3]) (by kernel_rfl) (by simp) ?_
        refine AllReadyH.cons (o := { dst := some 27, op := Op.call { callee := Callee.value (Operand.func 9), args := #[Operand.tmp 26], argTypes := #[25] }, type := 29, pos := "exact.go:2711", after := #[{ on := 2, ground := Ground.data }, { on := 1, ground := Ground.chain }], guard := none }) rfl (fun K hK => ?_) AllReadyH.nil
        go_simp
        go_at_call 9
        refine (HU2.out _ (HBW.out.trans ((show BX w2 (w.heap.size) (w.heap.size + 1) (.string a1) (.string m1) (.int .i64 mo1) (.int .i64 ev1) (.int .i64 su1) (.int .i64 mx1) (.slice ta1 tl1 tc1) (.slice ha1 hl1 hc1) (.string a2) (.string m2) (.int .i64 mo2) (.int .i64 ev2) (.int .i64 su2) (.int .i64 mx2) (.slice ta2 tl2 tc2) (.slice ha2 hl2 hc2) k2 from hh2).1.mono HBW.out.size))).mono ?_
        rintro e u3 ⟨g2x, h2x, rfl, hT2, hq3⟩
        try go_wp2_with fail
        have hh3 := BX.below (show BX w2 (w.heap.size) (w.heap.size + 1) (.string a1) (.string m1) (.int .i64 mo1) (.int .i64 ev1) (.int .i64 su1) (.int .i64 mx1) (.slice ta1 tl1 tc1) (.slice ha1 hl1 hc1) (.string a2) (.string m2) (.int .i64 mo2) (.int .i64 ev2) (.int .i64 su2) (.int .i64 mx2) (.slice ta2 tl2 tc2) (.slice ha2 hl2 hc2) k2 from hh2) hq3
        have hT1_3 := HK1.out _ _ _ _ _ _  hT1_2 hq3
        have pt_3 := pt_2.below hq3
        refine hK.out _ _ hh3 (fun _ => ?_)
        clear hK K
        try simp only [Act.put, List.setIfInBounds_toArray, List.set_cons_zero, List.set_cons_succ]
        refine wpAnyH_ready (rs := [4]) (by kernel_rfl) (by simp) ?_
        refine AllReadyH.cons (o := { dst := some 28, op := Op.call { callee := Callee.value (Operand.func 8), args := #[Operand.tmp 25, Operand.tmp 27], argTypes := #[29, 29] }, type := 31, pos := "exact.go:2711", after := #[{ on := 1, ground := Ground.data }, { on := 3, ground := Ground.data }, { on := 3, ground := Ground.chain }], guard := none }) rfl (fun K hK => ?_) AllReadyH.nil
        go_simp
        go_at_call 8
        refine (HS.out _ _ _ _ _ _ _ _ _ hT1_3 hT2).mono ?_
        rintro e u4 ⟨t0, c0, h0, d0, rfl, hN, hq4⟩
        try go_wp2_with fail
        have hrel : u1.heap.size < u3.heap.size ∨ u4.heap.size ≤ u1.heap.size := .inl pt_3.lt
        have htn : u4.heap.size ≤ u4.heap.size := Nat.le_refl _
        have hh4 := BX.below (show BX w2 (w.heap.size) (w.heap.size + 1) (.string a1) (.string m1) (.int .i64 mo1) (.int .i64 ev1) (.int .i64 su1) (.int .i64 mx1) (.slice ta1 tl1 tc1) (.slice ha1 hl1 hc1) (.string a2) (.string m2) (.int .i64 mo2) (.int .i64 ev2) (.int .i64 su2) (.int .i64 mx2) (.slice ta2 tl2 tc2) (.slice ha2 hl2 hc2) u3 from hh3) hq4
        have hT1_4 := HK1.out _ _ _ _ _ _  hT1_3 hq4
        have pt_4 := pt_3.below hq4
        have hT2_4 := HK2.out _ _ _ _ _ _  hT2 hq4
        refine hK.out _ _ hh4 (fun _ => ?_)
        clear hK K
        try simp only [Act.put, List.setIfInBounds_toArray, List.set_cons_zero, List.set_cons_succ]
        refine wpAnyH_ready (rs := [6]) (by kernel_rfl) (by simp) ?_
        refine AllReadyH.cons (o := { dst := none, op := Op.store 31 (Operand.tmp 6) (Operand.tmp 28), type := 0, pos := "exact.go:2711", after := #[{ on := 5, ground := Ground.data }, { on := 4, ground := Ground.data }, { on := 4, ground := Ground.chain }, { on := 0, ground := Ground.phase }, { on := 1, ground := Ground.phase }, { on := 2, ground := Ground.phase }, { on := 3, ground := Ground.phase }, { on := 4, ground := Ground.phase }, { on := 5, ground := Ground.phase }], guard := none }) rfl (fun K hK => ?_) AllReadyH.nil
        have htn2 : u4.heap.size ≤ u4.heap.size := by first | exact Nat.le_refl _ | (have := (show BX w2 (w.heap.size) (w.heap.size + 1) (.string a1) (.string m1) (.int .i64 mo1) (.int .i64 ev1) (.int .i64 su1) (.int .i64 mx1) (.slice ta1 tl1 tc1) (.slice ha1 hl1 hc1) (.string a2) (.string m2) (.int .i64 mo2) (.int .i64 ev2) (.int .i64 su2) (.int .i64 mx2) (.slice ta2 tl2 tc2) (.slice ha2 hl2 hc2) u4 from hh4).1.size; omega) | (have := pt_4.lt; omega)
        have zl5 := pt_4.lt
        obtain ⟨e5_0, y5_0⟩ := pt_4.has 0 (by omega)
        have z5_0 := pt_4.free 0 (by omega)
        obtain ⟨e5_1, y5_1⟩ := pt_4.has 1 (by omega)
        have z5_1 := pt_4.free 1 (by omega)
        obtain ⟨e5_2, y5_2⟩ := pt_4.has 2 (by omega)
        have z5_2 := pt_4.free 2 (by omega)
        obtain ⟨e5_3, y5_3⟩ := pt_4.has 3 (by omega)
        have z5_3 := pt_4.free 3 (by omega)
        obtain ⟨e5_4, y5_4⟩ := pt_4.has 4 (by omega)
        have z5_4 := pt_4.free 4 (by omega)
        obtain ⟨e5_5, y5_5⟩ := pt_4.has 5 (by omega)
        have z5_5 := pt_4.free 5 (by omega)
        obtain ⟨e5_6, y5_6⟩ := pt_4.has 6 (by omega)
        have z5_6 := pt_4.free 6 (by omega)
        obtain ⟨e5_7, y5_7⟩ := pt_4.has 7 (by omega)
        have z5_7 := pt_4.free 7 (by omega)
        obtain ⟨e5_8, y5_8⟩ := pt_4.has 8 (by omega)
        have z5_8 := pt_4.free 8 (by omega)
        go_simp
        try go_wp2_with fail
        have hg5 := StR.stL_grown u1.heap.size [.string a, .string m, .int .i64 mo, .int .i64 ev, .int .i64 su, .int .i64 mx, .slice t0 tl c0, .slice h0 hl d0, .int .i64 cd] 0 u4
        have hbO := StR.stL_blk (vs := [.string a, .string m, .int .i64 mo, .int .i64 ev, .int .i64 su, .int .i64 mx, .slice t0 tl c0, .slice h0 hl d0, .int .i64 cd]) (W := u4) pt_4 (by simp)
        have hh5 := BX.grown (show BX w2 (w.heap.size) (w.heap.size + 1) (.string a1) (.string m1) (.int .i64 mo1) (.int .i64 ev1) (.int .i64 su1) (.int .i64 mx1) (.slice ta1 tl1 tc1) (.slice ha1 hl1 hc1) (.string a2) (.string m2) (.int .i64 mo2) (.int .i64 ev2) (.int .i64 su2) (.int .i64 mx2) (.slice ta2 tl2 tc2) (.slice ha2 hl2 hc2) u4 from hh4) hlo a0 b0 hg5
        have hNn := HNG.out _ _ _ _ _ _ hN hg5 (by rcases hrel with r | r; (first | exact .inl r | omega); exact .inr r)
        have hsz := Nat.le_trans htn2 hg5.size
        simp only [StR.stL, Nat.zero_add, Nat.reduceAdd] at hh5 hbO hNn hsz
        refine hK.out _ _ hh5 (fun _ => ?_)
        clear hK K
        try simp only [Act.put, List.setIfInBounds_toArray, List.set_cons_zero, List.set_cons_succ]
        generalize (((((((((u4.setCell ⟨u1.heap.size, 0, none⟩ (.string a)).setCell ⟨u1.heap.size, 1, none⟩ (.string m)).setCell ⟨u1.heap.size, 2, none⟩ (.int .i64 mo)).setCell ⟨u1.heap.size, 3, none⟩ (.int .i64 ev)).setCell ⟨u1.heap.size, 4, none⟩ (.int .i64 su)).setCell ⟨u1.heap.size, 5, none⟩ (.int .i64 mx)).setCell ⟨u1.heap.size, 6, none⟩ (.slice t0 tl c0)).setCell ⟨u1.heap.size, 7, none⟩ (.slice h0 hl d0)).setCell ⟨u1.heap.size, 8, none⟩ (.int .i64 cd)) = k5 at *
        refine wpAnyH_done (by kernel_rfl) ?_ _
        have F1 := hid_intro hbO
        have F2 := hid_intro hNn
        have F3 := hid_intro hsz
        have F4 := hid_intro (show BX w2 (w.heap.size) (w.heap.size + 1) (.string a1) (.string m1) (.int .i64 mo1) (.int .i64 ev1) (.int .i64 su1) (.int .i64 mx1) (.slice ta1 tl1 tc1) (.slice ha1 hl1 hc1) (.string a2) (.string m2) (.int .i64 mo2) (.int .i64 ev2) (.int .i64 su2) (.int .i64 mx2) (.slice ta2 tl2 tc2) (.slice ha2 hl2 hc2) k5 from hh5)
        try clear y5_8
        try clear y5_7
        try clear y5_6
        try clear y5_5
        try clear y5_4
        try clear y5_3
        try clear y5_2
        try clear y5_1
        try clear y5_0
        try clear hsz
        try clear hNn
        try clear hh5
        try clear hbO
        try clear hg5
        try clear z5_8
        try clear z5_7
        try clear z5_6
        try clear z5_5
        try clear z5_4
        try clear z5_3
        try clear z5_2
        try clear z5_1
        try clear z5_0
        try clear zl5
        try clear htn2
        try clear hq4
        try clear hN
        try clear hT2_4
        try clear pt_4
        try clear hT1_4
        try clear hh4
        try clear htn
        try clear hrel
        try clear hq3
        try clear hT2
        try clear pt_3
        try clear hT1_3
        try clear hh3
        try clear pt_2
        try clear hT1_2
        try clear hh2
        try clear hlo
        try clear hq1
        try clear hT1
        try clear hh1
        go_wp2_with fail
        go_meet
        case rel => exact ⟨_, _, _, _, _, _, _, rfl, F1, F2, F3, F4⟩
    · go_simp
      try go_wp2_with fail
      have hlo : w2.heap.size ≤ kd.heap.size := (show BX w2 (w.heap.size) (w.heap.size + 1) (.string a1) (.string m1) (.int .i64 mo1) (.int .i64 ev1) (.int .i64 su1) (.int .i64 mx1) (.slice ta1 tl1 tc1) (.slice ha1 hl1 hc1) (.string a2) (.string m2) (.int .i64 mo2) (.int .i64 ev2) (.int .i64 su2) (.int .i64 mx2) (.slice ta2 tl2 tc2) (.slice ha2 hl2 hc2) kd from HX2.out).1.size
      have hh1 := BX.below (show BX w2 (w.heap.size) (w.heap.size + 1) (.string a1) (.string m1) (.int .i64 mo1) (.int .i64 ev1) (.int .i64 su1) (.int .i64 mx1) (.slice ta1 tl1 tc1) (.slice ha1 hl1 hc1) (.string a2) (.string m2) (.int .i64 mo2) (.int .i64 ev2) (.int .i64 su2) (.int .i64 mx2) (.slice ta2 tl2 tc2) (.slice ha2 hl2 hc2) kd from HX2.out) ((Below.refl kd.heap.size kd).alloc (Nat.le_refl _) (Obj.cells #[.string ⟨#[]⟩, .string ⟨#[]⟩, .int .i64 0, .int .i64 0, .int .i64 0, .int .i64 0, .slice none 0 0, .slice none 0 0, .int .i64 0] 31))
      have pt_1 : Pt kd.heap.size 9 (kd.alloc (Obj.cells #[.string ⟨#[]⟩, .string ⟨#[]⟩, .int .i64 0, .int .i64 0, .int .i64 0, .int .i64 0, .slice none 0 0, .slice none 0 0, .int .i64 0] 31)) := StR.pt_new kd [.string ⟨#[]⟩, .string ⟨#[]⟩, .int .i64 0, .int .i64 0, .int .i64 0, .int .i64 0, .slice none 0 0, .slice none 0 0, .int .i64 0] 31
      refine hK.out _ _ hh1 (fun _ => ?_)
      clear hK K
      try simp only [Act.put, List.setIfInBounds_toArray, List.set_cons_zero, List.set_cons_succ]
      generalize (kd.alloc (Obj.cells #[.string ⟨#[]⟩, .string ⟨#[]⟩, .int .i64 0, .int .i64 0, .int .i64 0, .int .i64 0, .slice none 0 0, .slice none 0 0, .int .i64 0] 31)) = k1 at *
      refine wpAnyH_ready (rs := [1]) (by kernel_rfl) (by simp) ?_
      refine AllReadyH.cons (o := { dst := some 25, op := Op.call { callee := Callee.value (Operand.func 9), args := #[Operand.tmp 24], argTypes := #[25] }, type := 29, pos := "exact.go:2711", after := #[{ on := 0, ground := Ground.data }], guard := none }) rfl (fun K hK => ?_) AllReadyH.nil
      go_simp
      go_at_call 9
      refine (HU1.out _ (HBW.out.trans ((show BX w2 (w.heap.size) (w.heap.size + 1) (.string a1) (.string m1) (.int .i64 mo1) (.int .i64 ev1) (.int .i64 su1) (.int .i64 mx1) (.slice ta1 tl1 tc1) (.slice ha1 hl1 hc1) (.string a2) (.string m2) (.int .i64 mo2) (.int .i64 ev2) (.int .i64 su2) (.int .i64 mx2) (.slice ta2 tl2 tc2) (.slice ha2 hl2 hc2) k1 from hh1).1.mono HBW.out.size))).mono ?_
      rintro e u2 ⟨g1x, h1x, rfl, hT1, hq2⟩
      try go_wp2_with fail
      have hh2 := BX.below (show BX w2 (w.heap.size) (w.heap.size + 1) (.string a1) (.string m1) (.int .i64 mo1) (.int .i64 ev1) (.int .i64 su1) (.int .i64 mx1) (.slice ta1 tl1 tc1) (.slice ha1 hl1 hc1) (.string a2) (.string m2) (.int .i64 mo2) (.int .i64 ev2) (.int .i64 su2) (.int .i64 mx2) (.slice ta2 tl2 tc2) (.slice ha2 hl2 hc2) k1 from hh1) hq2
      have pt_2 := pt_1.below hq2
      refine hK.out _ _ hh2 (fun _ => ?_)
      clear hK K
      try simp only [Act.put, List.setIfInBounds_toArray, List.set_cons_zero, List.set_cons_succ]
      refine wpAnyH_ready (rs := [3]) (by kernel_rfl) (by simp) ?_
      refine AllReadyH.cons (o := { dst := some 27, op := Op.call { callee := Callee.value (Operand.func 9), args := #[Operand.tmp 26], argTypes := #[25] }, type := 29, pos := "exact.go:2711", after := #[{ on := 2, ground := Ground.data }, { on := 1, ground := Ground.chain }], guard := none }) rfl (fun K hK => ?_) AllReadyH.nil
      go_simp
      go_at_call 9
      refine (HU2.out _ (HBW.out.trans ((show BX w2 (w.heap.size) (w.heap.size + 1) (.string a1) (.string m1) (.int .i64 mo1) (.int .i64 ev1) (.int .i64 su1) (.int .i64 mx1) (.slice ta1 tl1 tc1) (.slice ha1 hl1 hc1) (.string a2) (.string m2) (.int .i64 mo2) (.int .i64 ev2) (.int .i64 su2) (.int .i64 mx2) (.slice ta2 tl2 tc2) (.slice ha2 hl2 hc2) u2 from hh2).1.mono HBW.out.size))).mono ?_
      rintro e u3 ⟨g2x, h2x, rfl, hT2, hq3⟩
      try go_wp2_with fail
      have hh3 := BX.below (show BX w2 (w.heap.size) (w.heap.size + 1) (.string a1) (.string m1) (.int .i64 mo1) (.int .i64 ev1) (.int .i64 su1) (.int .i64 mx1) (.slice ta1 tl1 tc1) (.slice ha1 hl1 hc1) (.string a2) (.string m2) (.int .i64 mo2) (.int .i64 ev2) (.int .i64 su2) (.int .i64 mx2) (.slice ta2 tl2 tc2) (.slice ha2 hl2 hc2) u2 from hh2) hq3
      have pt_3 := pt_2.below hq3
      have hT1_3 := HK1.out _ _ _ _ _ _  hT1 hq3
      refine hK.out _ _ hh3 (fun _ => ?_)
      clear hK K
      try simp only [Act.put, List.setIfInBounds_toArray, List.set_cons_zero, List.set_cons_succ]
      refine wpAnyH_ready (rs := [4]) (by kernel_rfl) (by simp) ?_
      refine AllReadyH.cons (o := { dst := some 28, op := Op.call { callee := Callee.value (Operand.func 8), args := #[Operand.tmp 25, Operand.tmp 27], argTypes := #[29, 29] }, type := 31, pos := "exact.go:2711", after := #[{ on := 1, ground := Ground.data }, { on := 3, ground := Ground.data }, { on := 3, ground := Ground.chain }], guard := none }) rfl (fun K hK => ?_) AllReadyH.nil
      go_simp
      go_at_call 8
      refine (HS.out _ _ _ _ _ _ _ _ _ hT1_3 hT2).mono ?_
      rintro e u4 ⟨t0, c0, h0, d0, rfl, hN, hq4⟩
      try go_wp2_with fail
      have hrel : kd.heap.size < u3.heap.size ∨ u4.heap.size ≤ kd.heap.size := .inl pt_3.lt
      have htn : u4.heap.size ≤ u4.heap.size := Nat.le_refl _
      have hh4 := BX.below (show BX w2 (w.heap.size) (w.heap.size + 1) (.string a1) (.string m1) (.int .i64 mo1) (.int .i64 ev1) (.int .i64 su1) (.int .i64 mx1) (.slice ta1 tl1 tc1) (.slice ha1 hl1 hc1) (.string a2) (.string m2) (.int .i64 mo2) (.int .i64 ev2) (.int .i64 su2) (.int .i64 mx2) (.slice ta2 tl2 tc2) (.slice ha2 hl2 hc2) u3 from hh3) hq4
      have pt_4 := pt_3.below hq4
      have hT1_4 := HK1.out _ _ _ _ _ _  hT1_3 hq4
      have hT2_4 := HK2.out _ _ _ _ _ _  hT2 hq4
      refine hK.out _ _ hh4 (fun _ => ?_)
      clear hK K
      try simp only [Act.put, List.setIfInBounds_toArray, List.set_cons_zero, List.set_cons_succ]
      refine wpAnyH_ready (rs := [6]) (by kernel_rfl) (by simp) ?_
      refine AllReadyH.cons (o := { dst := none, op := Op.store 31 (Operand.tmp 6) (Operand.tmp 28), type := 0, pos := "exact.go:2711", after := #[{ on := 5, ground := Ground.data }, { on := 4, ground := Ground.data }, { on := 4, ground := Ground.chain }, { on := 0, ground := Ground.phase }, { on := 1, ground := Ground.phase }, { on := 2, ground := Ground.phase }, { on := 3, ground := Ground.phase }, { on := 4, ground := Ground.phase }, { on := 5, ground := Ground.phase }], guard := none }) rfl (fun K hK => ?_) AllReadyH.nil
      have htn2 : u4.heap.size ≤ u4.heap.size := by first | exact Nat.le_refl _ | (have := (show BX w2 (w.heap.size) (w.heap.size + 1) (.string a1) (.string m1) (.int .i64 mo1) (.int .i64 ev1) (.int .i64 su1) (.int .i64 mx1) (.slice ta1 tl1 tc1) (.slice ha1 hl1 hc1) (.string a2) (.string m2) (.int .i64 mo2) (.int .i64 ev2) (.int .i64 su2) (.int .i64 mx2) (.slice ta2 tl2 tc2) (.slice ha2 hl2 hc2) u4 from hh4).1.size; omega) | (have := pt_4.lt; omega)
      have zl5 := pt_4.lt
      obtain ⟨e5_0, y5_0⟩ := pt_4.has 0 (by omega)
      have z5_0 := pt_4.free 0 (by omega)
      obtain ⟨e5_1, y5_1⟩ := pt_4.has 1 (by omega)
      have z5_1 := pt_4.free 1 (by omega)
      obtain ⟨e5_2, y5_2⟩ := pt_4.has 2 (by omega)
      have z5_2 := pt_4.free 2 (by omega)
      obtain ⟨e5_3, y5_3⟩ := pt_4.has 3 (by omega)
      have z5_3 := pt_4.free 3 (by omega)
      obtain ⟨e5_4, y5_4⟩ := pt_4.has 4 (by omega)
      have z5_4 := pt_4.free 4 (by omega)
      obtain ⟨e5_5, y5_5⟩ := pt_4.has 5 (by omega)
      have z5_5 := pt_4.free 5 (by omega)
      obtain ⟨e5_6, y5_6⟩ := pt_4.has 6 (by omega)
      have z5_6 := pt_4.free 6 (by omega)
      obtain ⟨e5_7, y5_7⟩ := pt_4.has 7 (by omega)
      have z5_7 := pt_4.free 7 (by omega)
      obtain ⟨e5_8, y5_8⟩ := pt_4.has 8 (by omega)
      have z5_8 := pt_4.free 8 (by omega)
      go_simp
      try go_wp2_with fail
      have hg5 := StR.stL_grown kd.heap.size [.string a, .string m, .int .i64 mo, .int .i64 ev, .int .i64 su, .int .i64 mx, .slice t0 tl c0, .slice h0 hl d0, .int .i64 cd] 0 u4
      have hbO := StR.stL_blk (vs := [.string a, .string m, .int .i64 mo, .int .i64 ev, .int .i64 su, .int .i64 mx, .slice t0 tl c0, .slice h0 hl d0, .int .i64 cd]) (W := u4) pt_4 (by simp)
      have hh5 := BX.grown (show BX w2 (w.heap.size) (w.heap.size + 1) (.string a1) (.string m1) (.int .i64 mo1) (.int .i64 ev1) (.int .i64 su1) (.int .i64 mx1) (.slice ta1 tl1 tc1) (.slice ha1 hl1 hc1) (.string a2) (.string m2) (.int .i64 mo2) (.int .i64 ev2) (.int .i64 su2) (.int .i64 mx2) (.slice ta2 tl2 tc2) (.slice ha2 hl2 hc2) u4 from hh4) hlo a0 b0 hg5
      have hNn := HNG.out _ _ _ _ _ _ hN hg5 (by rcases hrel with r | r; (first | exact .inl r | omega); exact .inr r)
      have hsz := Nat.le_trans htn2 hg5.size
      simp only [StR.stL, Nat.zero_add, Nat.reduceAdd] at hh5 hbO hNn hsz
      refine hK.out _ _ hh5 (fun _ => ?_)
      clear hK K
      try simp only [Act.put, List.setIfInBounds_toArray, List.set_cons_zero, List.set_cons_succ]
      generalize (((((((((u4.setCell ⟨kd.heap.size, 0, none⟩ (.string a)).setCell ⟨kd.heap.size, 1, none⟩ (.string m)).setCell ⟨kd.heap.size, 2, none⟩ (.int .i64 mo)).setCell ⟨kd.heap.size, 3, none⟩ (.int .i64 ev)).setCell ⟨kd.heap.size, 4, none⟩ (.int .i64 su)).setCell ⟨kd.heap.size, 5, none⟩ (.int .i64 mx)).setCell ⟨kd.heap.size, 6, none⟩ (.slice t0 tl c0)).setCell ⟨kd.heap.size, 7, none⟩ (.slice h0 hl d0)).setCell ⟨kd.heap.size, 8, none⟩ (.int .i64 cd)) = k5 at *
      refine wpAnyH_done (by kernel_rfl) ?_ _
      have F1 := hid_intro hbO
      have F2 := hid_intro hNn
      have F3 := hid_intro hsz
      have F4 := hid_intro (show BX w2 (w.heap.size) (w.heap.size + 1) (.string a1) (.string m1) (.int .i64 mo1) (.int .i64 ev1) (.int .i64 su1) (.int .i64 mx1) (.slice ta1 tl1 tc1) (.slice ha1 hl1 hc1) (.string a2) (.string m2) (.int .i64 mo2) (.int .i64 ev2) (.int .i64 su2) (.int .i64 mx2) (.slice ta2 tl2 tc2) (.slice ha2 hl2 hc2) k5 from hh5)
      try clear y5_8
      try clear y5_7
      try clear y5_6
      try clear y5_5
      try clear y5_4
      try clear y5_3
      try clear y5_2
      try clear y5_1
      try clear y5_0
      try clear hsz
      try clear hNn
      try clear hh5
      try clear hbO
      try clear hg5
      try clear z5_8
      try clear z5_7
      try clear z5_6
      try clear z5_5
      try clear z5_4
      try clear z5_3
      try clear z5_2
      try clear z5_1
      try clear z5_0
      try clear zl5
      try clear htn2
      try clear hq4
      try clear hN
      try clear hT2_4
      try clear hT1_4
      try clear pt_4
      try clear hh4
      try clear htn
      try clear hrel
      try clear hq3
      try clear hT2
      try clear hT1_3
      try clear pt_3
      try clear hh3
      try clear hq2
      try clear hT1
      try clear pt_2
      try clear hh2
      try clear pt_1
      try clear hh1
      try clear hlo
      go_wp2_with fail
      go_meet
      case rel => exact ⟨_, _, _, _, _, _, _, rfl, F1, F2, F3, F4⟩
  case rest =>
    obtain ⟨wx0, hwx0⟩ : ∃ z, z = wc := ⟨_, rfl⟩
    subst hwx0
    obtain ⟨b6, t0, c0, h0, d0, bN, tN, rfl, H6, HN, HT6, HX⟩ := hcut
    have HB3 := hid_intro (HB2.out.trans (HX.out.1.mono HB2.out.size))
    have HA3 : Hid (Blk w.heap.size [.string a1, .string m1, .int .i64 mo1, .int .i64 ev1, .int .i64 su1, .int .i64 mx1, .slice ta1 tl1 tc1, .slice ha1 hl1 hc1] wx0) := hid_intro (HA2.out.below HX.out.1)
    have HC3 : Hid (Blk (w.heap.size + 1) [.string a2, .string m2, .int .i64 mo2, .int .i64 ev2, .int .i64 su2, .int .i64 mx2, .slice ta2 tl2 tc2, .slice ha2 hl2 hc2] wx0) := hid_intro (HC2.out.below HX.out.1)
    have H63 := H6
    have HN3 := HN
    have HSW : Hid (w.heap.size + 1 < wx0.heap.size) := hid_intro HC3.out.1
    have H6L : Hid (b6 < wx0.heap.size) := hid_intro H63.out.1
    clear HX HB2 HA2 HC2 H6 HN
    have p0 : wx0.cell? ⟨w.heap.size, 0, none⟩ = some (.string a1) := HA3.out.2 0 (by simp)
    have p1 : wx0.cell? ⟨w.heap.size, 1, none⟩ = some (.string m1) := HA3.out.2 1 (by simp)
    have p2 : wx0.cell? ⟨w.heap.size, 2, none⟩ = some (.int .i64 mo1) := HA3.out.2 2 (by simp)
    have p3 : wx0.cell? ⟨w.heap.size, 3, none⟩ = some (.int .i64 ev1) := HA3.out.2 3 (by simp)
    have p4 : wx0.cell? ⟨w.heap.size, 4, none⟩ = some (.int .i64 su1) := HA3.out.2 4 (by simp)
    have p5 : wx0.cell? ⟨w.heap.size, 5, none⟩ = some (.int .i64 mx1) := HA3.out.2 5 (by simp)
    have p6 : wx0.cell? ⟨w.heap.size, 6, none⟩ = some (.slice ta1 tl1 tc1) := HA3.out.2 6 (by simp)
    have p7 : wx0.cell? ⟨w.heap.size, 7, none⟩ = some (.slice ha1 hl1 hc1) := HA3.out.2 7 (by simp)
    have pl := HA3.out.1
    go_wp2_with fail
    refine (HU1.out _ HB3.out).mono ?_
    rintro e w4 ⟨g1, k1, rfl, hT4, hb4⟩
    have HS4 : Hid (wx0.heap.size ≤ w4.heap.size) := hid_intro hb4.size
    have HB4 := hid_intro (HB3.out.trans (hb4.mono HB3.out.size))
    have HA4 := hid_intro (HA3.out.below hb4)
    have HC4 := hid_intro (HC3.out.below hb4)
    have H64 := hid_intro (H63.out.below hb4)
    have HN4 := hid_intro (HNB.out _ _ _ _ _  HN3.out hb4)
    clear HB3 HA3 HC3 H63 HN3
    have HT4 := hid_intro hT4
    clear hT4 hb4
    clear p0 p1 p2 p3 p4 p5 p6 p7 pl
    have AL : Hid (Below w4.heap.size w4 (w4.alloc (.cells #[.string a1, .string m1, .int .i64 mo1, .int .i64 ev1, .int .i64 su1, .int .i64 mx1, .slice (some ⟨g1, 0, none⟩) tl1 tl1, .slice (some ⟨k1, 0, none⟩) hl1 hl1] 29))) := hid_intro ((Below.refl _ _).alloc (Nat.le_refl _) _)
    have H75 := hid_intro (Blk.new w4 [.string a1, .string m1, .int .i64 mo1, .int .i64 ev1, .int .i64 su1, .int .i64 mx1, .slice (some ⟨g1, 0, none⟩) tl1 tl1, .slice (some ⟨k1, 0, none⟩) hl1 hl1] 29)
    have p0 : w4.cell? ⟨w.heap.size + 1, 0, none⟩ = some (.string a2) := HC4.out.2 0 (by simp)
    have p1 : w4.cell? ⟨w.heap.size + 1, 1, none⟩ = some (.string m2) := HC4.out.2 1 (by simp)
    have p2 : w4.cell? ⟨w.heap.size + 1, 2, none⟩ = some (.int .i64 mo2) := HC4.out.2 2 (by simp)
    have p3 : w4.cell? ⟨w.heap.size + 1, 3, none⟩ = some (.int .i64 ev2) := HC4.out.2 3 (by simp)
    have p4 : w4.cell? ⟨w.heap.size + 1, 4, none⟩ = some (.int .i64 su2) := HC4.out.2 4 (by simp)
    have p5 : w4.cell? ⟨w.heap.size + 1, 5, none⟩ = some (.int .i64 mx2) := HC4.out.2 5 (by simp)
    have p6 : w4.cell? ⟨w.heap.size + 1, 6, none⟩ = some (.slice ta2 tl2 tc2) := HC4.out.2 6 (by simp)
    have p7 : w4.cell? ⟨w.heap.size + 1, 7, none⟩ = some (.slice ha2 hl2 hc2) := HC4.out.2 7 (by simp)
    have pl := HC4.out.1
    have HB5 := hid_intro (HB4.out.trans (AL.out.mono HB4.out.size))
    have HA5 := hid_intro (HA4.out.below AL.out)
    have HC5 := hid_intro (HC4.out.below AL.out)
    have H65 := hid_intro (H64.out.below AL.out)
    have HN5 := hid_intro (HNB.out _ _ _ _ _  HN4.out AL.out)
    have HT5 := hid_intro (HK1.out _ _ _ _ _ _  HT4.out AL.out)
    clear HB4 HA4 HC4 H64 HN4 HT4
    have HS5 : Hid (w4.heap.size ≤ (w4.alloc (.cells #[.string a1, .string m1, .int .i64 mo1, .int .i64 ev1, .int .i64 su1, .int .i64 mx1, .slice (some ⟨g1, 0, none⟩) tl1 tl1, .slice (some ⟨k1, 0, none⟩) hl1 hl1] 29)).heap.size) := hid_intro AL.out.size
    clear AL
    go_wp2_with fail
    refine (HU2.out _ HB5.out).mono ?_
    rintro e w6 ⟨g2, k2, rfl, hT6, hb6⟩
    have HS6 := hid_intro hb6.size
    have HB6 := hid_intro (HB5.out.trans (hb6.mono HB5.out.size))
    have HA6 := hid_intro (HA5.out.below hb6)
    have HC6 := hid_intro (HC5.out.below hb6)
    have H66 := hid_intro (H65.out.below hb6)
    have HN6 := hid_intro (HNB.out _ _ _ _ _  HN5.out hb6)
    have HT6 := hid_intro (HK1.out _ _ _ _ _ _  HT5.out hb6)
    have H76 := hid_intro (H75.out.below hb6)
    clear HB5 HA5 HC5 H65 HN5 HT5 H75
    have HV6 := hid_intro hT6
    clear hT6 hb6
    clear p0 p1 p2 p3 p4 p5 p6 p7 pl
    generalize (w4.alloc (.cells #[.string a1, .string m1, .int .i64 mo1, .int .i64 ev1, .int .i64 su1, .int .i64 mx1, .slice (some ⟨g1, 0, none⟩) tl1 tl1, .slice (some ⟨k1, 0, none⟩) hl1 hl1] 29)).heap.size = B2 at *
    have AL : Hid (Below w6.heap.size w6 (w6.alloc (.cells #[.string a2, .string m2, .int .i64 mo2, .int .i64 ev2, .int .i64 su2, .int .i64 mx2, .slice (some ⟨g2, 0, none⟩) tl2 tl2, .slice (some ⟨k2, 0, none⟩) hl2 hl2] 29))) := hid_intro ((Below.refl _ _).alloc (Nat.le_refl _) _)
    have H87 := hid_intro (Blk.new w6 [.string a2, .string m2, .int .i64 mo2, .int .i64 ev2, .int .i64 su2, .int .i64 mx2, .slice (some ⟨g2, 0, none⟩) tl2 tl2, .slice (some ⟨k2, 0, none⟩) hl2 hl2] 29)
    have p0 : w6.cell? ⟨w4.heap.size, 0, none⟩ = some (.string a1) := H76.out.2 0 (by simp)
    have p1 : w6.cell? ⟨w4.heap.size, 1, none⟩ = some (.string m1) := H76.out.2 1 (by simp)
    have p2 : w6.cell? ⟨w4.heap.size, 2, none⟩ = some (.int .i64 mo1) := H76.out.2 2 (by simp)
    have p3 : w6.cell? ⟨w4.heap.size, 3, none⟩ = some (.int .i64 ev1) := H76.out.2 3 (by simp)
    have p4 : w6.cell? ⟨w4.heap.size, 4, none⟩ = some (.int .i64 su1) := H76.out.2 4 (by simp)
    have p5 : w6.cell? ⟨w4.heap.size, 5, none⟩ = some (.int .i64 mx1) := H76.out.2 5 (by simp)
    have p6 : w6.cell? ⟨w4.heap.size, 6, none⟩ = some (.slice (some ⟨g1, 0, none⟩) tl1 tl1) := H76.out.2 6 (by simp)
    have p7 : w6.cell? ⟨w4.heap.size, 7, none⟩ = some (.slice (some ⟨k1, 0, none⟩) hl1 hl1) := H76.out.2 7 (by simp)
    have pl := H76.out.1
    have HB7 := hid_intro (HB6.out.trans (AL.out.mono HB6.out.size))
    have HA7 := hid_intro (HA6.out.below AL.out)
    have HC7 := hid_intro (HC6.out.below AL.out)
    have H67 := hid_intro (H66.out.below AL.out)
    have HN7 := hid_intro (HNB.out _ _ _ _ _  HN6.out AL.out)
    have HT7 := hid_intro (HK1.out _ _ _ _ _ _  HT6.out AL.out)
    have H77 := hid_intro (H76.out.below AL.out)
    have HV7 := hid_intro (HK2.out _ _ _ _ _ _  HV6.out AL.out)
    clear HB6 HA6 HC6 H66 HN6 HT6 H76 HV6
    have HS7 : Hid (w6.heap.size ≤ (w6.alloc (.cells #[.string a2, .string m2, .int .i64 mo2, .int .i64 ev2, .int .i64 su2, .int .i64 mx2, .slice (some ⟨g2, 0, none⟩) tl2 tl2, .slice (some ⟨k2, 0, none⟩) hl2 hl2] 29)).heap.size) := hid_intro AL.out.size
    clear AL
    have HL7 := hid_intro (HL.out.below HB7.out)
    go_wp2_with fail
    refine (HJJ.out _ _ _ _ _ _ _ _ _ HL7.out HT7.out HV7.out).mono ?_
    rintro e w8 ⟨t1, c1, h1, d1, rfl, hN8, hJ8, hb8⟩
    have HS8 := hid_intro hb8.size
    have HB8 := hid_intro (HB7.out.trans (hb8.mono HB7.out.size))
    have HA8 := hid_intro (HA7.out.below hb8)
    have HC8 := hid_intro (HC7.out.below hb8)
    have H68 := hid_intro (H67.out.below hb8)
    have HN8 := hid_intro (HNB.out _ _ _ _ _  HN7.out hb8)
    have HT8 := hid_intro (HK1.out _ _ _ _ _ _  HT7.out hb8)
    have H78 := hid_intro (H77.out.below hb8)
    have HV8 := hid_intro (HK2.out _ _ _ _ _ _  HV7.out hb8)
    have H88 := hid_intro (H87.out.below hb8)
    clear HB7 HA7 HC7 H67 HN7 HT7 H77 HV7 H87
    have HM8 := hid_intro hN8
    have HJ8 := hid_intro hJ8
    clear hN8 hJ8 hb8 HL7
    clear p0 p1 p2 p3 p4 p5 p6 p7 pl
    generalize (w6.alloc (.cells #[.string a2, .string m2, .int .i64 mo2, .int .i64 ev2, .int .i64 su2, .int .i64 mx2, .slice (some ⟨g2, 0, none⟩) tl2 tl2, .slice (some ⟨k2, 0, none⟩) hl2 hl2] 29)).heap.size = B3 at *
    have AL : Hid (Below w8.heap.size w8 (w8.alloc (.cells #[.string a, .string m, .int .i64 mo, .int .i64 ev, .int .i64 su, .int .i64 mx, .slice t1 tl c1, .slice h1 hl d1, .int .i64 cd] 31))) := hid_intro ((Below.refl _ _).alloc (Nat.le_refl _) _)
    have H99 := hid_intro (Blk.new w8 [.string a, .string m, .int .i64 mo, .int .i64 ev, .int .i64 su, .int .i64 mx, .slice t1 tl c1, .slice h1 hl d1, .int .i64 cd] 31)
    have p0 : w8.cell? ⟨b6, 0, none⟩ = some (.string a) := H68.out.2 0 (by simp)
    have p1 : w8.cell? ⟨b6, 1, none⟩ = some (.string m) := H68.out.2 1 (by simp)
    have p2 : w8.cell? ⟨b6, 2, none⟩ = some (.int .i64 mo) := H68.out.2 2 (by simp)
    have p3 : w8.cell? ⟨b6, 3, none⟩ = some (.int .i64 ev) := H68.out.2 3 (by simp)
    have p4 : w8.cell? ⟨b6, 4, none⟩ = some (.int .i64 su) := H68.out.2 4 (by simp)
    have p5 : w8.cell? ⟨b6, 5, none⟩ = some (.int .i64 mx) := H68.out.2 5 (by simp)
    have p6 : w8.cell? ⟨b6, 6, none⟩ = some (.slice t0 tl c0) := H68.out.2 6 (by simp)
    have p7 : w8.cell? ⟨b6, 7, none⟩ = some (.slice h0 hl d0) := H68.out.2 7 (by simp)
    have p8 : w8.cell? ⟨b6, 8, none⟩ = some (.int .i64 cd) := H68.out.2 8 (by simp)
    have pl := H68.out.1
    have HB9 := hid_intro (HB8.out.trans (AL.out.mono HB8.out.size))
    have HA9 := hid_intro (HA8.out.below AL.out)
    have HC9 := hid_intro (HC8.out.below AL.out)
    have H69 := hid_intro (H68.out.below AL.out)
    have HN9 := hid_intro (HNB.out _ _ _ _ _  HN8.out AL.out)
    have HT9 := hid_intro (HK1.out _ _ _ _ _ _  HT8.out AL.out)
    have H79 := hid_intro (H78.out.below AL.out)
    have HV9 := hid_intro (HK2.out _ _ _ _ _ _  HV8.out AL.out)
    have H89 := hid_intro (H88.out.below AL.out)
    have HM9 := hid_intro (HNB.out _ _ _ _ _  HM8.out AL.out)
    have HJ9 := hid_intro (HJB.out _ _ _ _ _ _  HJ8.out AL.out)
    clear HB8 HA8 HC8 H68 HN8 HT8 H78 HV8 H88 HM8 HJ8
    clear AL
    go_wp2_with fail
    refine (HEO.out _ _ _ _ _ _ _ HM9.out HN9.out).mono ?_
    rintro e wa ⟨rfl, hba⟩
    have HBa := hid_intro (HB9.out.trans (hba.mono HB9.out.size))
    have HAa := hid_intro (HA9.out.below hba)
    have HCa := hid_intro (HC9.out.below hba)
    have H6a := hid_intro (H69.out.below hba)
    have HNa := hid_intro (HNB.out _ _ _ _ _  HN9.out hba)
    have HTa := hid_intro (HK1.out _ _ _ _ _ _  HT9.out hba)
    have H7a := hid_intro (H79.out.below hba)
    have HVa := hid_intro (HK2.out _ _ _ _ _ _  HV9.out hba)
    have H8a := hid_intro (H89.out.below hba)
    have HMa := hid_intro (HNB.out _ _ _ _ _  HM9.out hba)
    have HJa := hid_intro (HJB.out _ _ _ _ _ _  HJ9.out hba)
    have H9a := hid_intro (H99.out.below hba)
    clear HB9 HA9 HC9 H69 HN9 HT9 H79 HV9 H89 HM9 HJ9 H99
    clear hba
    clear p0 p1 p2 p3 p4 p5 p6 p7 p8 pl
    have HX := hid_intro (BX.of H7a.out HAa.out)
    go_wp2_with fail
    refine wp_region_held_drew (S := (fun W => Below wa.heap.size wa W ∧ w4.heap.size < W.heap.size ∧ w.heap.size < W.heap.size ∧ W.cell? ⟨w4.heap.size, 0, none⟩ = some (.string a1) ∧ W.cell? ⟨w4.heap.size, 1, none⟩ = some (.string m1) ∧ W.cell? ⟨w4.heap.size, 2, none⟩ = some (.int .i64 mo1) ∧ W.cell? ⟨w4.heap.size, 3, none⟩ = some (.int .i64 ev1) ∧ W.cell? ⟨w4.heap.size, 4, none⟩ = some (.int .i64 su1) ∧ W.cell? ⟨w4.heap.size, 5, none⟩ = some (.int .i64 mx1) ∧ W.cell? ⟨w4.heap.size, 6, none⟩ = some (.slice (some ⟨g1, 0, none⟩) tl1 tl1) ∧ W.cell? ⟨w4.heap.size, 7, none⟩ = some (.slice (some ⟨k1, 0, none⟩) hl1 hl1) ∧ W.cell? ⟨w.heap.size, 0, none⟩ = some (.string a1) ∧ W.cell? ⟨w.heap.size, 1, none⟩ = some (.string m1) ∧ W.cell? ⟨w.heap.size, 2, none⟩ = some (.int .i64 mo1) ∧ W.cell? ⟨w.heap.size, 3, none⟩ = some (.int .i64 ev1) ∧ W.cell? ⟨w.heap.size, 4, none⟩ = some (.int .i64 su1) ∧ W.cell? ⟨w.heap.size, 5, none⟩ = some (.int .i64 mx1) ∧ W.cell? ⟨w.heap.size, 6, none⟩ = some (.slice ta1 tl1 tc1) ∧ W.cell? ⟨w.heap.size, 7, none⟩ = some (.slice ha1 hl1 hc1))) (by kernel_rfl) HX.out (fun hHeld => ?_)
    have HX2 : Hid (BX wa (w4.heap.size) (w.heap.size) (.string a1) (.string m1) (.int .i64 mo1) (.int .i64 ev1) (.int .i64 su1) (.int .i64 mx1) (.slice (some ⟨g1, 0, none⟩) tl1 tl1) (.slice (some ⟨k1, 0, none⟩) hl1 hl1) (.string a1) (.string m1) (.int .i64 mo1) (.int .i64 ev1) (.int .i64 su1) (.int .i64 mx1) (.slice ta1 tl1 tc1) (.slice ha1 hl1 hc1) wa.drew) := hid_intro HX.out
    clear HX
    refine wpAnyH_take (i := 0) (oi := { dst := some 40, op := Op.load 29 (Operand.tmp 7), type := 29, pos := "exact.go:2718", after := #[], guard := none }) (v := ?_) rfl (by kernel_rfl) (by kernel_rfl) (by kernel_rfl) (fun _ _ _ h => h) (Or.inl ⟨by rfl, ?_⟩) (by assumption) ?_
    rotate_left
    · (intro w hSw; (try dsimp only at hSw); go_simp) <;> with_reducible rfl
    try simp only [Act.put, List.setIfInBounds_toArray, List.set_cons_zero, List.set_cons_succ]
    refine wpAnyH_take (i := 1) (oi := { dst := some 41, op := Op.load 25 (Operand.tmp 2), type := 25, pos := "exact.go:2718", after := #[], guard := none }) (v := ?_) rfl (by kernel_rfl) (by kernel_rfl) (by kernel_rfl) (fun _ _ _ h => h) (Or.inl ⟨by rfl, ?_⟩) (by assumption) ?_
    rotate_left
    · (intro w hSw; (try dsimp only at hSw); go_simp) <;> with_reducible rfl
    try simp only [Act.put, List.setIfInBounds_toArray, List.set_cons_zero, List.set_cons_succ]
    refine wpAnyH_ready (rs := [2]) (by kernel_rfl) (by simp) ?_
    refine AllReadyH.cons (o := { dst := some 42, op := Op.call { callee := Callee.value (Operand.func 9), args := #[Operand.tmp 41], argTypes := #[25] }, type := 29, pos := "exact.go:2718", after := #[{ on := 1, ground := Ground.data }], guard := none }) rfl (fun K hK => ?_) AllReadyH.nil
    go_simp
    go_at_call 9
    refine (HU1.out _ (HBa.out.trans (HX2.out.1.mono HBa.out.size))).mono ?_
    rintro e q1 ⟨gx, kx, rfl, hTx, hq1⟩
    try go_wp2_with fail
    have hk1 := BX.below (show BX wa (w4.heap.size) (w.heap.size) (.string a1) (.string m1) (.int .i64 mo1) (.int .i64 ev1) (.int .i64 su1) (.int .i64 mx1) (.slice (some ⟨g1, 0, none⟩) tl1 tl1) (.slice (some ⟨k1, 0, none⟩) hl1 hl1) (.string a1) (.string m1) (.int .i64 mo1) (.int .i64 ev1) (.int .i64 su1) (.int .i64 mx1) (.slice ta1 tl1 tc1) (.slice ha1 hl1 hc1) wa.drew from HX2.out) hq1
    refine hK.out _ _ hk1 (fun _ => ?_)
    clear hK K
    try simp only [Act.put, List.setIfInBounds_toArray, List.set_cons_zero, List.set_cons_succ]
    have hTy := HK1.out _ _ _ _ _ _ (HK1.out _ _ _ _ _ _ HTa.out (Below.refl _ _).drew) hq1
    refine wpAnyH_ready (rs := [3]) (by kernel_rfl) (by simp) ?_
    refine AllReadyH.cons (o := { dst := some 43, op := Op.call { callee := Callee.value (Operand.func 12), args := #[Operand.tmp 40, Operand.tmp 42], argTypes := #[29, 29] }, type := 4, pos := "exact.go:2718", after := #[{ on := 0, ground := Ground.data }, { on := 2, ground := Ground.data }, { on := 2, ground := Ground.chain }], guard := none }) rfl (fun K hK => ?_) AllReadyH.nil
    go_simp
    go_at_call 12
    refine (HE1.out _ _ _ _ _ _ _ _ _ hTy hTx).mono ?_
    rintro e q2 ⟨rfl, hq2⟩
    try go_wp2_with fail
    have hk2 := BX.below (show BX wa (w4.heap.size) (w.heap.size) (.string a1) (.string m1) (.int .i64 mo1) (.int .i64 ev1) (.int .i64 su1) (.int .i64 mx1) (.slice (some ⟨g1, 0, none⟩) tl1 tl1) (.slice (some ⟨k1, 0, none⟩) hl1 hl1) (.string a1) (.string m1) (.int .i64 mo1) (.int .i64 ev1) (.int .i64 su1) (.int .i64 mx1) (.slice ta1 tl1 tc1) (.slice ha1 hl1 hc1) q1 from hk1) hq2
    refine hK.out _ _ hk2 (fun _ => ?_)
    clear hK K
    try simp only [Act.put, List.setIfInBounds_toArray, List.set_cons_zero, List.set_cons_succ]
    refine wpAnyH_take (i := 4) (oi := { dst := some 44, op := Op.unOp UnOp.not 4 (Operand.tmp 43), type := 4, pos := "exact.go:2718", after := #[{ on := 3, ground := Ground.data }], guard := none }) (v := ?_) rfl (by kernel_rfl) (by kernel_rfl) (by kernel_rfl) (fun _ _ _ h => h) (Or.inl ⟨by rfl, ?_⟩) (by assumption) ?_
    rotate_left
    · (intro w hSw; (try dsimp only at hSw); go_simp) <;> with_reducible rfl
    try simp only [Act.put, List.setIfInBounds_toArray, List.set_cons_zero, List.set_cons_succ]
    refine wpAnyH_done (by kernel_rfl) ?_ _
    have hbz : Below wa.heap.size wa q2 := (show BX wa (w4.heap.size) (w.heap.size) (.string a1) (.string m1) (.int .i64 mo1) (.int .i64 ev1) (.int .i64 su1) (.int .i64 mx1) (.slice (some ⟨g1, 0, none⟩) tl1 tl1) (.slice (some ⟨k1, 0, none⟩) hl1 hl1) (.string a1) (.string m1) (.int .i64 mo1) (.int .i64 ev1) (.int .i64 su1) (.int .i64 mx1) (.slice ta1 tl1 tc1) (.slice ha1 hl1 hc1) q2 from hk2).1
    obtain ⟨wb, hwz⟩ : ∃ wz, wz = q2 := ⟨_, rfl⟩
    subst hwz
    have HBb := hid_intro (HBa.out.trans (hbz.mono HBa.out.size))
    have HAb := hid_intro (HAa.out.below hbz)
    have HCb := hid_intro (HCa.out.below hbz)
    have H6b := hid_intro (H6a.out.below hbz)
    have HNb := hid_intro (HNB.out _ _ _ _ _  HNa.out hbz)
    have HTb := hid_intro (HK1.out _ _ _ _ _ _  HTa.out hbz)
    have H7b := hid_intro (H7a.out.below hbz)
    have HVb := hid_intro (HK2.out _ _ _ _ _ _  HVa.out hbz)
    have H8b := hid_intro (H8a.out.below hbz)
    have HMb := hid_intro (HNB.out _ _ _ _ _  HMa.out hbz)
    have HJb := hid_intro (HJB.out _ _ _ _ _ _  HJa.out hbz)
    have H9b := hid_intro (H9a.out.below hbz)
    clear HBa HAa HCa H6a HNa HTa H7a HVa H8a HMa HJa H9a
    clear hbz hk1 hk2 hTx hTy hq1 hq2 HX2
    have HX := hid_intro (BX.of H8b.out HCb.out)
    go_wp2_with fail
    refine wp_region_held_drew (S := (fun W => Below wb.heap.size wb W ∧ w6.heap.size < W.heap.size ∧ w.heap.size + 1 < W.heap.size ∧ W.cell? ⟨w6.heap.size, 0, none⟩ = some (.string a2) ∧ W.cell? ⟨w6.heap.size, 1, none⟩ = some (.string m2) ∧ W.cell? ⟨w6.heap.size, 2, none⟩ = some (.int .i64 mo2) ∧ W.cell? ⟨w6.heap.size, 3, none⟩ = some (.int .i64 ev2) ∧ W.cell? ⟨w6.heap.size, 4, none⟩ = some (.int .i64 su2) ∧ W.cell? ⟨w6.heap.size, 5, none⟩ = some (.int .i64 mx2) ∧ W.cell? ⟨w6.heap.size, 6, none⟩ = some (.slice (some ⟨g2, 0, none⟩) tl2 tl2) ∧ W.cell? ⟨w6.heap.size, 7, none⟩ = some (.slice (some ⟨k2, 0, none⟩) hl2 hl2) ∧ W.cell? ⟨w.heap.size + 1, 0, none⟩ = some (.string a2) ∧ W.cell? ⟨w.heap.size + 1, 1, none⟩ = some (.string m2) ∧ W.cell? ⟨w.heap.size + 1, 2, none⟩ = some (.int .i64 mo2) ∧ W.cell? ⟨w.heap.size + 1, 3, none⟩ = some (.int .i64 ev2) ∧ W.cell? ⟨w.heap.size + 1, 4, none⟩ = some (.int .i64 su2) ∧ W.cell? ⟨w.heap.size + 1, 5, none⟩ = some (.int .i64 mx2) ∧ W.cell? ⟨w.heap.size + 1, 6, none⟩ = some (.slice ta2 tl2 tc2) ∧ W.cell? ⟨w.heap.size + 1, 7, none⟩ = some (.slice ha2 hl2 hc2))) (by kernel_rfl) HX.out (fun hHeld => ?_)
    have HX2 : Hid (BX wb (w6.heap.size) (w.heap.size + 1) (.string a2) (.string m2) (.int .i64 mo2) (.int .i64 ev2) (.int .i64 su2) (.int .i64 mx2) (.slice (some ⟨g2, 0, none⟩) tl2 tl2) (.slice (some ⟨k2, 0, none⟩) hl2 hl2) (.string a2) (.string m2) (.int .i64 mo2) (.int .i64 ev2) (.int .i64 su2) (.int .i64 mx2) (.slice ta2 tl2 tc2) (.slice ha2 hl2 hc2) wb.drew) := hid_intro HX.out
    clear HX
    refine wpAnyH_take (i := 0) (oi := { dst := some 45, op := Op.load 29 (Operand.tmp 8), type := 29, pos := "exact.go:2721", after := #[], guard := none }) (v := ?_) rfl (by kernel_rfl) (by kernel_rfl) (by kernel_rfl) (fun _ _ _ h => h) (Or.inl ⟨by rfl, ?_⟩) (by assumption) ?_
    rotate_left
    · (intro w hSw; (try dsimp only at hSw); go_simp) <;> with_reducible rfl
    try simp only [Act.put, List.setIfInBounds_toArray, List.set_cons_zero, List.set_cons_succ]
    refine wpAnyH_take (i := 1) (oi := { dst := some 46, op := Op.load 25 (Operand.tmp 3), type := 25, pos := "exact.go:2721", after := #[], guard := none }) (v := ?_) rfl (by kernel_rfl) (by kernel_rfl) (by kernel_rfl) (fun _ _ _ h => h) (Or.inl ⟨by rfl, ?_⟩) (by assumption) ?_
    rotate_left
    · (intro w hSw; (try dsimp only at hSw); go_simp) <;> with_reducible rfl
    try simp only [Act.put, List.setIfInBounds_toArray, List.set_cons_zero, List.set_cons_succ]
    refine wpAnyH_ready (rs := [2]) (by kernel_rfl) (by simp) ?_
    refine AllReadyH.cons (o := { dst := some 47, op := Op.call { callee := Callee.value (Operand.func 9), args := #[Operand.tmp 46], argTypes := #[25] }, type := 29, pos := "exact.go:2721", after := #[{ on := 1, ground := Ground.data }], guard := none }) rfl (fun K hK => ?_) AllReadyH.nil
    go_simp
    go_at_call 9
    refine (HU2.out _ (HBb.out.trans (HX2.out.1.mono HBb.out.size))).mono ?_
    rintro e q1 ⟨gx, kx, rfl, hTx, hq1⟩
    try go_wp2_with fail
    have hk1 := BX.below (show BX wb (w6.heap.size) (w.heap.size + 1) (.string a2) (.string m2) (.int .i64 mo2) (.int .i64 ev2) (.int .i64 su2) (.int .i64 mx2) (.slice (some ⟨g2, 0, none⟩) tl2 tl2) (.slice (some ⟨k2, 0, none⟩) hl2 hl2) (.string a2) (.string m2) (.int .i64 mo2) (.int .i64 ev2) (.int .i64 su2) (.int .i64 mx2) (.slice ta2 tl2 tc2) (.slice ha2 hl2 hc2) wb.drew from HX2.out) hq1
    refine hK.out _ _ hk1 (fun _ => ?_)
    clear hK K
    try simp only [Act.put, List.setIfInBounds_toArray, List.set_cons_zero, List.set_cons_succ]
    have hTy := HK2.out _ _ _ _ _ _ (HK2.out _ _ _ _ _ _ HVb.out (Below.refl _ _).drew) hq1
    refine wpAnyH_ready (rs := [3]) (by kernel_rfl) (by simp) ?_
    refine AllReadyH.cons (o := { dst := some 48, op := Op.call { callee := Callee.value (Operand.func 12), args := #[Operand.tmp 45, Operand.tmp 47], argTypes := #[29, 29] }, type := 4, pos := "exact.go:2721", after := #[{ on := 0, ground := Ground.data }, { on := 2, ground := Ground.data }, { on := 2, ground := Ground.chain }], guard := none }) rfl (fun K hK => ?_) AllReadyH.nil
    go_simp
    go_at_call 12
    refine (HE2.out _ _ _ _ _ _ _ _ _ hTy hTx).mono ?_
    rintro e q2 ⟨rfl, hq2⟩
    try go_wp2_with fail
    have hk2 := BX.below (show BX wb (w6.heap.size) (w.heap.size + 1) (.string a2) (.string m2) (.int .i64 mo2) (.int .i64 ev2) (.int .i64 su2) (.int .i64 mx2) (.slice (some ⟨g2, 0, none⟩) tl2 tl2) (.slice (some ⟨k2, 0, none⟩) hl2 hl2) (.string a2) (.string m2) (.int .i64 mo2) (.int .i64 ev2) (.int .i64 su2) (.int .i64 mx2) (.slice ta2 tl2 tc2) (.slice ha2 hl2 hc2) q1 from hk1) hq2
    refine hK.out _ _ hk2 (fun _ => ?_)
    clear hK K
    try simp only [Act.put, List.setIfInBounds_toArray, List.set_cons_zero, List.set_cons_succ]
    refine wpAnyH_take (i := 4) (oi := { dst := some 49, op := Op.unOp UnOp.not 4 (Operand.tmp 48), type := 4, pos := "exact.go:2721", after := #[{ on := 3, ground := Ground.data }], guard := none }) (v := ?_) rfl (by kernel_rfl) (by kernel_rfl) (by kernel_rfl) (fun _ _ _ h => h) (Or.inl ⟨by rfl, ?_⟩) (by assumption) ?_
    rotate_left
    · (intro w hSw; (try dsimp only at hSw); go_simp) <;> with_reducible rfl
    try simp only [Act.put, List.setIfInBounds_toArray, List.set_cons_zero, List.set_cons_succ]
    refine wpAnyH_done (by kernel_rfl) ?_ _
    have hbz : Below wb.heap.size wb q2 := (show BX wb (w6.heap.size) (w.heap.size + 1) (.string a2) (.string m2) (.int .i64 mo2) (.int .i64 ev2) (.int .i64 su2) (.int .i64 mx2) (.slice (some ⟨g2, 0, none⟩) tl2 tl2) (.slice (some ⟨k2, 0, none⟩) hl2 hl2) (.string a2) (.string m2) (.int .i64 mo2) (.int .i64 ev2) (.int .i64 su2) (.int .i64 mx2) (.slice ta2 tl2 tc2) (.slice ha2 hl2 hc2) q2 from hk2).1
    obtain ⟨wd, hwz⟩ : ∃ wz, wz = q2 := ⟨_, rfl⟩
    subst hwz
    have HBd := hid_intro (HBb.out.trans (hbz.mono HBb.out.size))
    have HAd := hid_intro (HAb.out.below hbz)
    have HCd := hid_intro (HCb.out.below hbz)
    have H6d := hid_intro (H6b.out.below hbz)
    have HNd := hid_intro (HNB.out _ _ _ _ _  HNb.out hbz)
    have HTd := hid_intro (HK1.out _ _ _ _ _ _  HTb.out hbz)
    have H7d := hid_intro (H7b.out.below hbz)
    have HVd := hid_intro (HK2.out _ _ _ _ _ _  HVb.out hbz)
    have H8d := hid_intro (H8b.out.below hbz)
    have HMd := hid_intro (HNB.out _ _ _ _ _  HMb.out hbz)
    have HJd := hid_intro (HJB.out _ _ _ _ _ _  HJb.out hbz)
    have H9d := hid_intro (H9b.out.below hbz)
    clear HBb HAb HCb H6b HNb HTb H7b HVb H8b HMb HJb H9b
    clear hbz hk1 hk2 hTx hTy hq1 hq2 HX2
    have p0 : wd.cell? ⟨w4.heap.size, 0, none⟩ = some (.string a1) := H7d.out.2 0 (by simp)
    have p1 : wd.cell? ⟨w4.heap.size, 1, none⟩ = some (.string m1) := H7d.out.2 1 (by simp)
    have p2 : wd.cell? ⟨w4.heap.size, 2, none⟩ = some (.int .i64 mo1) := H7d.out.2 2 (by simp)
    have p3 : wd.cell? ⟨w4.heap.size, 3, none⟩ = some (.int .i64 ev1) := H7d.out.2 3 (by simp)
    have p4 : wd.cell? ⟨w4.heap.size, 4, none⟩ = some (.int .i64 su1) := H7d.out.2 4 (by simp)
    have p5 : wd.cell? ⟨w4.heap.size, 5, none⟩ = some (.int .i64 mx1) := H7d.out.2 5 (by simp)
    have p6 : wd.cell? ⟨w4.heap.size, 6, none⟩ = some (.slice (some ⟨g1, 0, none⟩) tl1 tl1) := H7d.out.2 6 (by simp)
    have p7 : wd.cell? ⟨w4.heap.size, 7, none⟩ = some (.slice (some ⟨k1, 0, none⟩) hl1 hl1) := H7d.out.2 7 (by simp)
    have pl := H7d.out.1
    go_wp2_with fail
    refine (HG1.out _ _ _ _ _ HTd.out).mono ?_
    rintro e we ⟨rfl, hoe⟩
    have o1 := HAd.out.1
    have o0 := HSW.out
    have o2 := HT6.out
    have o3 := HS4.out
    have o4 := HS5.out
    have o5 := HS6.out
    have o6 := HS7.out
    have o7 := HS8.out
    have o8 := H6L.out
    have HBe := hid_intro (HBd.out.trans (hoe.bel (B := w.heap.size) (by omega) HBd.out.size))
    have HAe := hid_intro (hoe.blk HAd.out (.inl (by omega)))
    have HCe := hid_intro (hoe.blk HCd.out (.inl (by omega)))
    have H6e := hid_intro (hoe.blk H6d.out (.inl (by omega)))
    have H8e := hid_intro (hoe.blk H8d.out (.inr (by omega)))
    have H9e := hid_intro (hoe.blk H9d.out (.inr (by omega)))
    have HNe := hid_intro (HNO.out _ _ _ _ _ _ _ HNd.out hoe (.inl (by omega)))
    have HMe := hid_intro (HNO.out _ _ _ _ _ _ _ HMd.out hoe (.inr (by omega)))
    have HVe := hid_intro (HO2.out _ _ _ _ _ _ _ _  HVd.out hoe (by omega))
    have HJe := hid_intro (HJO.out _ _ _ _ _ _ _ _  HJd.out hoe (by omega))
    clear hoe o1 o0 o2 o3 o4 o5 o6 o7 o8 HBd HAd HCd H6d H8d H9d HNd HMd HVd HJd HTd H7d
    clear p0 p1 p2 p3 p4 p5 p6 p7 pl
    have p0 : we.cell? ⟨w6.heap.size, 0, none⟩ = some (.string a2) := H8e.out.2 0 (by simp)
    have p1 : we.cell? ⟨w6.heap.size, 1, none⟩ = some (.string m2) := H8e.out.2 1 (by simp)
    have p2 : we.cell? ⟨w6.heap.size, 2, none⟩ = some (.int .i64 mo2) := H8e.out.2 2 (by simp)
    have p3 : we.cell? ⟨w6.heap.size, 3, none⟩ = some (.int .i64 ev2) := H8e.out.2 3 (by simp)
    have p4 : we.cell? ⟨w6.heap.size, 4, none⟩ = some (.int .i64 su2) := H8e.out.2 4 (by simp)
    have p5 : we.cell? ⟨w6.heap.size, 5, none⟩ = some (.int .i64 mx2) := H8e.out.2 5 (by simp)
    have p6 : we.cell? ⟨w6.heap.size, 6, none⟩ = some (.slice (some ⟨g2, 0, none⟩) tl2 tl2) := H8e.out.2 6 (by simp)
    have p7 : we.cell? ⟨w6.heap.size, 7, none⟩ = some (.slice (some ⟨k2, 0, none⟩) hl2 hl2) := H8e.out.2 7 (by simp)
    have pl := H8e.out.1
    go_wp2_with fail
    refine (HG2.out _ _ _ _ _ HVe.out).mono ?_
    rintro e wf ⟨rfl, hof⟩
    have o1 := HAe.out.1
    have o0 := HSW.out
    have o2 := HT6.out
    have o3 := HS4.out
    have o4 := HS5.out
    have o5 := HS6.out
    have o6 := HS7.out
    have o7 := HS8.out
    have o8 := H6L.out
    have HBf := hid_intro (HBe.out.trans (hof.bel (B := w.heap.size) (by omega) HBe.out.size))
    have HAf := hid_intro (hof.blk HAe.out (.inl (by omega)))
    have HCf := hid_intro (hof.blk HCe.out (.inl (by omega)))
    have H6f := hid_intro (hof.blk H6e.out (.inl (by omega)))
    have H9f := hid_intro (hof.blk H9e.out (.inr (by omega)))
    have HNf := hid_intro (HNO.out _ _ _ _ _ _ _ HNe.out hof (.inl (by omega)))
    have HMf := hid_intro (HNO.out _ _ _ _ _ _ _ HMe.out hof (.inr (by omega)))
    have HJf := hid_intro (HJO.out _ _ _ _ _ _ _ _  HJe.out hof (by omega))
    clear hof o1 o0 o2 o3 o4 o5 o6 o7 o8 HBe HAe HCe H6e H9e HNe HMe HJe HVe H8e
    clear p0 p1 p2 p3 p4 p5 p6 p7 pl
    have p0 : wf.cell? ⟨w8.heap.size, 0, none⟩ = some (.string a) := H9f.out.2 0 (by simp)
    have p1 : wf.cell? ⟨w8.heap.size, 1, none⟩ = some (.string m) := H9f.out.2 1 (by simp)
    have p2 : wf.cell? ⟨w8.heap.size, 2, none⟩ = some (.int .i64 mo) := H9f.out.2 2 (by simp)
    have p3 : wf.cell? ⟨w8.heap.size, 3, none⟩ = some (.int .i64 ev) := H9f.out.2 3 (by simp)
    have p4 : wf.cell? ⟨w8.heap.size, 4, none⟩ = some (.int .i64 su) := H9f.out.2 4 (by simp)
    have p5 : wf.cell? ⟨w8.heap.size, 5, none⟩ = some (.int .i64 mx) := H9f.out.2 5 (by simp)
    have p6 : wf.cell? ⟨w8.heap.size, 6, none⟩ = some (.slice t1 tl c1) := H9f.out.2 6 (by simp)
    have p7 : wf.cell? ⟨w8.heap.size, 7, none⟩ = some (.slice h1 hl d1) := H9f.out.2 7 (by simp)
    have p8 : wf.cell? ⟨w8.heap.size, 8, none⟩ = some (.int .i64 cd) := H9f.out.2 8 (by simp)
    have pl := H9f.out.1
    have q0 : wf.cell? ⟨b6, 0, none⟩ = some (.string a) := H6f.out.2 0 (by simp)
    have q1 : wf.cell? ⟨b6, 1, none⟩ = some (.string m) := H6f.out.2 1 (by simp)
    have q2 : wf.cell? ⟨b6, 2, none⟩ = some (.int .i64 mo) := H6f.out.2 2 (by simp)
    have q3 : wf.cell? ⟨b6, 3, none⟩ = some (.int .i64 ev) := H6f.out.2 3 (by simp)
    have q4 : wf.cell? ⟨b6, 4, none⟩ = some (.int .i64 su) := H6f.out.2 4 (by simp)
    have q5 : wf.cell? ⟨b6, 5, none⟩ = some (.int .i64 mx) := H6f.out.2 5 (by simp)
    have q6 : wf.cell? ⟨b6, 6, none⟩ = some (.slice t0 tl c0) := H6f.out.2 6 (by simp)
    have q7 : wf.cell? ⟨b6, 7, none⟩ = some (.slice h0 hl d0) := H6f.out.2 7 (by simp)
    have q8 : wf.cell? ⟨b6, 8, none⟩ = some (.int .i64 cd) := H6f.out.2 8 (by simp)
    have ql := H6f.out.1
    go_wp2_with fail
    refine (HEO.out _ _ _ _ _ _ _ HMf.out HNf.out).mono ?_
    rintro e wg ⟨rfl, hbg⟩
    have HBg := hid_intro (HBf.out.trans (hbg.mono HBf.out.size))
    have HAg := hid_intro (HAf.out.below hbg)
    have HCg := hid_intro (HCf.out.below hbg)
    have H6g := hid_intro (H6f.out.below hbg)
    have H9g := hid_intro (H9f.out.below hbg)
    have HNg := hid_intro (HNB.out _ _ _ _ _  HNf.out hbg)
    have HMg := hid_intro (HNB.out _ _ _ _ _  HMf.out hbg)
    have HJg := hid_intro (HJB.out _ _ _ _ _ _  HJf.out hbg)
    clear HBf HAf HCf H6f H9f HNf HMf HJf
    clear hbg
    clear p0 p1 p2 p3 p4 p5 p6 p7 p8 pl
    clear q0 q1 q2 q3 q4 q5 q6 q7 q8 ql
    have p0 : wg.cell? ⟨w8.heap.size, 0, none⟩ = some (.string a) := H9g.out.2 0 (by simp)
    have p1 : wg.cell? ⟨w8.heap.size, 1, none⟩ = some (.string m) := H9g.out.2 1 (by simp)
    have p2 : wg.cell? ⟨w8.heap.size, 2, none⟩ = some (.int .i64 mo) := H9g.out.2 2 (by simp)
    have p3 : wg.cell? ⟨w8.heap.size, 3, none⟩ = some (.int .i64 ev) := H9g.out.2 3 (by simp)
    have p4 : wg.cell? ⟨w8.heap.size, 4, none⟩ = some (.int .i64 su) := H9g.out.2 4 (by simp)
    have p5 : wg.cell? ⟨w8.heap.size, 5, none⟩ = some (.int .i64 mx) := H9g.out.2 5 (by simp)
    have p6 : wg.cell? ⟨w8.heap.size, 6, none⟩ = some (.slice t1 tl c1) := H9g.out.2 6 (by simp)
    have p7 : wg.cell? ⟨w8.heap.size, 7, none⟩ = some (.slice h1 hl d1) := H9g.out.2 7 (by simp)
    have p8 : wg.cell? ⟨w8.heap.size, 8, none⟩ = some (.int .i64 cd) := H9g.out.2 8 (by simp)
    have pl := H9g.out.1
    go_wp2_with fail
    refine (HGO.out _ _ _ _ _ _ _ HJg.out).mono ?_
    rintro e wh ⟨rfl, hDh, hoh⟩
    have o1 := HAg.out.1
    have o0 := HSW.out
    have o2 := HT6.out
    have o3 := HS4.out
    have o4 := HS5.out
    have o5 := HS6.out
    have o6 := HS7.out
    have o7 := HS8.out
    have o8 := H6L.out
    have HBh := hid_intro (HBg.out.trans (hoh.bel (B := w.heap.size) (by omega) HBg.out.size))
    have HAh := hid_intro (hoh.blk HAg.out (.inl (by omega)))
    have HCh := hid_intro (hoh.blk HCg.out (.inl (by omega)))
    have H6h := hid_intro (hoh.blk H6g.out (.inl (by omega)))
    have H9h := hid_intro (hoh.blk H9g.out (.inr (by omega)))
    have HNh := hid_intro (HNO.out _ _ _ _ _ _ _ HNg.out hoh (.inl (by omega)))
    have HDh := hid_intro hDh
    clear hDh hoh o1 o0 o2 o3 o4 o5 o6 o7 o8 HBg HAg HCg H6g H9g HNg HMg HJg
    clear p0 p1 p2 p3 p4 p5 p6 p7 p8 pl
    have p0 : wh.cell? ⟨w8.heap.size, 0, none⟩ = some (.string a) := H9h.out.2 0 (by simp)
    have p1 : wh.cell? ⟨w8.heap.size, 1, none⟩ = some (.string m) := H9h.out.2 1 (by simp)
    have p2 : wh.cell? ⟨w8.heap.size, 2, none⟩ = some (.int .i64 mo) := H9h.out.2 2 (by simp)
    have p3 : wh.cell? ⟨w8.heap.size, 3, none⟩ = some (.int .i64 ev) := H9h.out.2 3 (by simp)
    have p4 : wh.cell? ⟨w8.heap.size, 4, none⟩ = some (.int .i64 su) := H9h.out.2 4 (by simp)
    have p5 : wh.cell? ⟨w8.heap.size, 5, none⟩ = some (.int .i64 mx) := H9h.out.2 5 (by simp)
    have p6 : wh.cell? ⟨w8.heap.size, 6, none⟩ = some (.slice t1 tl c1) := H9h.out.2 6 (by simp)
    have p7 : wh.cell? ⟨w8.heap.size, 7, none⟩ = some (.slice h1 hl d1) := H9h.out.2 7 (by simp)
    have p8 : wh.cell? ⟨w8.heap.size, 8, none⟩ = some (.int .i64 cd) := H9h.out.2 8 (by simp)
    have pl := H9h.out.1
    go_wp2_with fail
    refine (HHO.out _ _ _ _ _ HDh.out).mono ?_
    rintro e wi ⟨rfl, hbi⟩
    have HBi := hid_intro (HBh.out.trans (hbi.mono HBh.out.size))
    have HAi := hid_intro (HAh.out.below hbi)
    have HCi := hid_intro (HCh.out.below hbi)
    have H6i := hid_intro (H6h.out.below hbi)
    have H9i := hid_intro (H9h.out.below hbi)
    have HNi := hid_intro (HNB.out _ _ _ _ _  HNh.out hbi)
    have HDi := hid_intro (HDB.out _ _ _ _  HDh.out hbi)
    clear HBh HAh HCh H6h H9h HNh HDh
    clear hbi
    clear p0 p1 p2 p3 p4 p5 p6 p7 p8 pl
    go_wp2_with fail
    go_cut [13] from 75 (fun v wx => ∃ bO t2 c2 h2 d2 bN tN, v = .pointer (some ⟨bO, 0, none⟩) ∧ Hid (Blk bO [.string a, .string m, .int .i64 mo, .int .i64 ev, .int .i64 su, .int .i64 mx, .slice t2 tl c2, .slice h2 hl d2, .int .i64 cd] wx) ∧ Hid (N bN tN (.agg #[.string a, .string m, .int .i64 mo, .int .i64 ev, .int .i64 su, .int .i64 mx, .slice t2 tl c2, .slice h2 hl d2, .int .i64 cd]) wx) ∧ Hid (tN ≤ wx.heap.size) ∧ Hid (BX wi (w.heap.size) (w.heap.size + 1) (.string a1) (.string m1) (.int .i64 mo1) (.int .i64 ev1) (.int .i64 su1) (.int .i64 mx1) (.slice ta1 tl1 tc1) (.slice ha1 hl1 hc1) (.string a2) (.string m2) (.int .i64 mo2) (.int .i64 ev2) (.int .i64 su2) (.int .i64 mx2) (.slice ta2 tl2 tc2) (.slice ha2 hl2 hc2) wx))
    case first =>
      have a0 : w.heap.size < wi.heap.size := HAi.out.1
      have b0 : w.heap.size + 1 < wi.heap.size := HCi.out.1
      have HX := hid_intro (BX.of HAi.out HCi.out)
      have HBW := hid_intro HBi.out
      refine wp_region_held_drew (S := (fun W => Below wi.heap.size wi W ∧ w.heap.size < W.heap.size ∧ w.heap.size + 1 < W.heap.size ∧ W.cell? ⟨w.heap.size, 0, none⟩ = some (.string a1) ∧ W.cell? ⟨w.heap.size, 1, none⟩ = some (.string m1) ∧ W.cell? ⟨w.heap.size, 2, none⟩ = some (.int .i64 mo1) ∧ W.cell? ⟨w.heap.size, 3, none⟩ = some (.int .i64 ev1) ∧ W.cell? ⟨w.heap.size, 4, none⟩ = some (.int .i64 su1) ∧ W.cell? ⟨w.heap.size, 5, none⟩ = some (.int .i64 mx1) ∧ W.cell? ⟨w.heap.size, 6, none⟩ = some (.slice ta1 tl1 tc1) ∧ W.cell? ⟨w.heap.size, 7, none⟩ = some (.slice ha1 hl1 hc1) ∧ W.cell? ⟨w.heap.size + 1, 0, none⟩ = some (.string a2) ∧ W.cell? ⟨w.heap.size + 1, 1, none⟩ = some (.string m2) ∧ W.cell? ⟨w.heap.size + 1, 2, none⟩ = some (.int .i64 mo2) ∧ W.cell? ⟨w.heap.size + 1, 3, none⟩ = some (.int .i64 ev2) ∧ W.cell? ⟨w.heap.size + 1, 4, none⟩ = some (.int .i64 su2) ∧ W.cell? ⟨w.heap.size + 1, 5, none⟩ = some (.int .i64 mx2) ∧ W.cell? ⟨w.heap.size + 1, 6, none⟩ = some (.slice ta2 tl2 tc2) ∧ W.cell? ⟨w.heap.size + 1, 7, none⟩ = some (.slice ha2 hl2 hc2))) (by kernel_rfl) HX.out (fun hHeld => ?_)
      have HX2 : Hid (BX wi (w.heap.size) (w.heap.size + 1) (.string a1) (.string m1) (.int .i64 mo1) (.int .i64 ev1) (.int .i64 su1) (.int .i64 mx1) (.slice ta1 tl1 tc1) (.slice ha1 hl1 hc1) (.string a2) (.string m2) (.int .i64 mo2) (.int .i64 ev2) (.int .i64 su2) (.int .i64 mx2) (.slice ta2 tl2 tc2) (.slice ha2 hl2 hc2) wi.drew) := hid_intro HX.out
      clear HX
      generalize wi.drew = kd at *
      refine wpAnyH_take (i := 0) (oi := { dst := some 75, op := Op.load 25 (Operand.tmp 2), type := 25, pos := "exact.go:2740", after := #[], guard := none }) (v := ?_) rfl (by kernel_rfl) (by kernel_rfl) (by kernel_rfl) (fun _ _ _ h => h) (Or.inl ⟨by rfl, ?_⟩) (by assumption) ?_
      rotate_left
      · (intro w hSw; (try dsimp only at hSw); go_simp) <;> with_reducible rfl
      try simp only [Act.put, List.setIfInBounds_toArray, List.set_cons_zero, List.set_cons_succ]
      refine wpAnyH_take (i := 2) (oi := { dst := some 77, op := Op.load 25 (Operand.tmp 3), type := 25, pos := "exact.go:2740", after := #[], guard := none }) (v := ?_) rfl (by kernel_rfl) (by kernel_rfl) (by kernel_rfl) (fun _ _ _ h => h) (Or.inl ⟨by rfl, ?_⟩) (by assumption) ?_
      rotate_left
      · (intro w hSw; (try dsimp only at hSw); go_simp) <;> with_reducible rfl
      try simp only [Act.put, List.setIfInBounds_toArray, List.set_cons_zero, List.set_cons_succ]
      refine wpAnyH_ready (rs := [1, 5]) (by kernel_rfl) (by simp) ?_
      refine AllReadyH.cons (o := { dst := some 76, op := Op.call { callee := Callee.value (Operand.func 9), args := #[Operand.tmp 75], argTypes := #[25] }, type := 29, pos := "exact.go:2740", after := #[{ on := 0, ground := Ground.data }], guard := none }) rfl (fun K hK => ?_) (AllReadyH.cons (o := { dst := some 13, op := Op.alloc 31, type := 0, pos := "exact.go:2740", after := #[], guard := none }) rfl (fun K hK => ?_) AllReadyH.nil)
      · go_simp
        go_at_call 9
        refine (HU1.out _ (HBW.out.trans ((show BX wi (w.heap.size) (w.heap.size + 1) (.string a1) (.string m1) (.int .i64 mo1) (.int .i64 ev1) (.int .i64 su1) (.int .i64 mx1) (.slice ta1 tl1 tc1) (.slice ha1 hl1 hc1) (.string a2) (.string m2) (.int .i64 mo2) (.int .i64 ev2) (.int .i64 su2) (.int .i64 mx2) (.slice ta2 tl2 tc2) (.slice ha2 hl2 hc2) kd from HX2.out).1.mono HBW.out.size))).mono ?_
        rintro e u1 ⟨g1x, h1x, rfl, hT1, hq1⟩
        try go_wp2_with fail
        have hh1 := BX.below (show BX wi (w.heap.size) (w.heap.size + 1) (.string a1) (.string m1) (.int .i64 mo1) (.int .i64 ev1) (.int .i64 su1) (.int .i64 mx1) (.slice ta1 tl1 tc1) (.slice ha1 hl1 hc1) (.string a2) (.string m2) (.int .i64 mo2) (.int .i64 ev2) (.int .i64 su2) (.int .i64 mx2) (.slice ta2 tl2 tc2) (.slice ha2 hl2 hc2) kd from HX2.out) hq1
        refine hK.out _ _ hh1 (fun _ => ?_)
        clear hK K
        try simp only [Act.put, List.setIfInBounds_toArray, List.set_cons_zero, List.set_cons_succ]
        refine wpAnyH_ready (rs := [3, 5]) (by kernel_rfl) (by simp) ?_
        refine AllReadyH.cons (o := { dst := some 78, op := Op.call { callee := Callee.value (Operand.func 9), args := #[Operand.tmp 77], argTypes := #[25] }, type := 29, pos := "exact.go:2740", after := #[{ on := 2, ground := Ground.data }, { on := 1, ground := Ground.chain }], guard := none }) rfl (fun K hK => ?_) (AllReadyH.cons (o := { dst := some 13, op := Op.alloc 31, type := 0, pos := "exact.go:2740", after := #[], guard := none }) rfl (fun K hK => ?_) AllReadyH.nil)
        · go_simp
          go_at_call 9
          refine (HU2.out _ (HBW.out.trans ((show BX wi (w.heap.size) (w.heap.size + 1) (.string a1) (.string m1) (.int .i64 mo1) (.int .i64 ev1) (.int .i64 su1) (.int .i64 mx1) (.slice ta1 tl1 tc1) (.slice ha1 hl1 hc1) (.string a2) (.string m2) (.int .i64 mo2) (.int .i64 ev2) (.int .i64 su2) (.int .i64 mx2) (.slice ta2 tl2 tc2) (.slice ha2 hl2 hc2) u1 from hh1).1.mono HBW.out.size))).mono ?_
          rintro e u2 ⟨g2x, h2x, rfl, hT2, hq2⟩
          try go_wp2_with fail
          have hh2 := BX.below (show BX wi (w.heap.size) (w.heap.size + 1) (.string a1) (.string m1) (.int .i64 mo1) (.int .i64 ev1) (.int .i64 su1) (.int .i64 mx1) (.slice ta1 tl1 tc1) (.slice ha1 hl1 hc1) (.string a2) (.string m2) (.int .i64 mo2) (.int .i64 ev2) (.int .i64 su2) (.int .i64 mx2) (.slice ta2 tl2 tc2) (.slice ha2 hl2 hc2) u1 from hh1) hq2
          have hT1_2 := HK1.out _ _ _ _ _ _  hT1 hq2
          refine hK.out _ _ hh2 (fun _ => ?_)
          clear hK K
          try simp only [Act.put, List.setIfInBounds_toArray, List.set_cons_zero, List.set_cons_succ]
          refine wpAnyH_ready (rs := [4, 5]) (by kernel_rfl) (by simp) ?_
          refine AllReadyH.cons (o := { dst := some 79, op := Op.call { callee := Callee.value (Operand.func 10), args := #[Operand.tmp 76, Operand.tmp 78], argTypes := #[29, 29] }, type := 31, pos := "exact.go:2740", after := #[{ on := 1, ground := Ground.data }, { on := 3, ground := Ground.data }, { on := 3, ground := Ground.chain }], guard := none }) rfl (fun K hK => ?_) (AllReadyH.cons (o := { dst := some 13, op := Op.alloc 31, type := 0, pos := "exact.go:2740", after := #[], guard := none }) rfl (fun K hK => ?_) AllReadyH.nil)
          · go_simp
            have hLL := HL.out.below (HBW.out.trans ((show BX wi (w.heap.size) (w.heap.size + 1) (.string a1) (.string m1) (.int .i64 mo1) (.int .i64 ev1) (.int .i64 su1) (.int .i64 mx1) (.slice ta1 tl1 tc1) (.slice ha1 hl1 hc1) (.string a2) (.string m2) (.int .i64 mo2) (.int .i64 ev2) (.int .i64 su2) (.int .i64 mx2) (.slice ta2 tl2 tc2) (.slice ha2 hl2 hc2) u2 from hh2).1.mono HBW.out.size))
            go_at_call 10
            refine (HJJ.out _ _ _ _ _ _ _ _ _ hLL hT1_2 hT2).mono ?_
            rintro e u3 ⟨t2, c2, h2, d2, rfl, hN, _, hq3⟩
            try go_wp2_with fail
            have htn : u3.heap.size ≤ u3.heap.size := Nat.le_refl _
            have hh3 := BX.below (show BX wi (w.heap.size) (w.heap.size + 1) (.string a1) (.string m1) (.int .i64 mo1) (.int .i64 ev1) (.int .i64 su1) (.int .i64 mx1) (.slice ta1 tl1 tc1) (.slice ha1 hl1 hc1) (.string a2) (.string m2) (.int .i64 mo2) (.int .i64 ev2) (.int .i64 su2) (.int .i64 mx2) (.slice ta2 tl2 tc2) (.slice ha2 hl2 hc2) u2 from hh2) hq3
            have hT1_3 := HK1.out _ _ _ _ _ _  hT1_2 hq3
            have hT2_3 := HK2.out _ _ _ _ _ _  hT2 hq3
            refine hK.out _ _ hh3 (fun _ => ?_)
            clear hK K
            try simp only [Act.put, List.setIfInBounds_toArray, List.set_cons_zero, List.set_cons_succ]
            refine wpAnyH_ready (rs := [5]) (by kernel_rfl) (by simp) ?_
            refine AllReadyH.cons (o := { dst := some 13, op := Op.alloc 31, type := 0, pos := "exact.go:2740", after := #[], guard := none }) rfl (fun K hK => ?_) AllReadyH.nil
            go_simp
            try go_wp2_with fail
            have hlo : wi.heap.size ≤ u3.heap.size := (show BX wi (w.heap.size) (w.heap.size + 1) (.string a1) (.string m1) (.int .i64 mo1) (.int .i64 ev1) (.int .i64 su1) (.int .i64 mx1) (.slice ta1 tl1 tc1) (.slice ha1 hl1 hc1) (.string a2) (.string m2) (.int .i64 mo2) (.int .i64 ev2) (.int .i64 su2) (.int .i64 mx2) (.slice ta2 tl2 tc2) (.slice ha2 hl2 hc2) u3 from hh3).1.size
            have hrel : u3.heap.size < 0 ∨ u3.heap.size ≤ u3.heap.size := .inr (by first | exact Nat.le_refl _ | omega)
            have hh4 := BX.below (show BX wi (w.heap.size) (w.heap.size + 1) (.string a1) (.string m1) (.int .i64 mo1) (.int .i64 ev1) (.int .i64 su1) (.int .i64 mx1) (.slice ta1 tl1 tc1) (.slice ha1 hl1 hc1) (.string a2) (.string m2) (.int .i64 mo2) (.int .i64 ev2) (.int .i64 su2) (.int .i64 mx2) (.slice ta2 tl2 tc2) (.slice ha2 hl2 hc2) u3 from hh3) ((Below.refl u3.heap.size u3).alloc (Nat.le_refl _) (Obj.cells #[.string ⟨#[]⟩, .string ⟨#[]⟩, .int .i64 0, .int .i64 0, .int .i64 0, .int .i64 0, .slice none 0 0, .slice none 0 0, .int .i64 0] 31))
            have hT1_4 := HK1.out _ _ _ _ _ _  hT1_3 ((Below.refl u3.heap.size u3).alloc (Nat.le_refl _) (Obj.cells #[.string ⟨#[]⟩, .string ⟨#[]⟩, .int .i64 0, .int .i64 0, .int .i64 0, .int .i64 0, .slice none 0 0, .slice none 0 0, .int .i64 0] 31))
            have hT2_4 := HK2.out _ _ _ _ _ _  hT2_3 ((Below.refl u3.heap.size u3).alloc (Nat.le_refl _) (Obj.cells #[.string ⟨#[]⟩, .string ⟨#[]⟩, .int .i64 0, .int .i64 0, .int .i64 0, .int .i64 0, .slice none 0 0, .slice none 0 0, .int .i64 0] 31))
            have hN_4 := HNB.out _ _ _ _ _  hN ((Below.refl u3.heap.size u3).alloc (Nat.le_refl _) (Obj.cells #[.string ⟨#[]⟩, .string ⟨#[]⟩, .int .i64 0, .int .i64 0, .int .i64 0, .int .i64 0, .slice none 0 0, .slice none 0 0, .int .i64 0] 31))
            have pt_4 : Pt u3.heap.size 9 (u3.alloc (Obj.cells #[.string ⟨#[]⟩, .string ⟨#[]⟩, .int .i64 0, .int .i64 0, .int .i64 0, .int .i64 0, .slice none 0 0, .slice none 0 0, .int .i64 0] 31)) := StR.pt_new u3 [.string ⟨#[]⟩, .string ⟨#[]⟩, .int .i64 0, .int .i64 0, .int .i64 0, .int .i64 0, .slice none 0 0, .slice none 0 0, .int .i64 0] 31
            refine hK.out _ _ hh4 (fun _ => ?_)
            clear hK K
            try simp only [Act.put, List.setIfInBounds_toArray, List.set_cons_zero, List.set_cons_succ]
            generalize (u3.alloc (Obj.cells #[.string ⟨#[]⟩, .string ⟨#[]⟩, .int .i64 0, .int .i64 0, .int .i64 0, .int .i64 0, .slice none 0 0, .slice none 0 0, .int .i64 0] 31)) = k4 at *
            refine wpAnyH_ready (rs := [6]) (by kernel_rfl) (by simp) ?_
            refine AllReadyH.cons (o := { dst := none, op := Op.store 31 (Operand.tmp 13) (Operand.tmp 79), type := 0, pos := "exact.go:2740", after := #[{ on := 5, ground := Ground.data }, { on := 4, ground := Ground.data }, { on := 4, ground := Ground.chain }, { on := 0, ground := Ground.phase }, { on := 1, ground := Ground.phase }, { on := 2, ground := Ground.phase }, { on := 3, ground := Ground.phase }, { on := 4, ground := Ground.phase }, { on := 5, ground := Ground.phase }], guard := none }) rfl (fun K hK => ?_) AllReadyH.nil
            have htn2 : u3.heap.size ≤ k4.heap.size := by first | exact Nat.le_refl _ | (have := (show BX wi (w.heap.size) (w.heap.size + 1) (.string a1) (.string m1) (.int .i64 mo1) (.int .i64 ev1) (.int .i64 su1) (.int .i64 mx1) (.slice ta1 tl1 tc1) (.slice ha1 hl1 hc1) (.string a2) (.string m2) (.int .i64 mo2) (.int .i64 ev2) (.int .i64 su2) (.int .i64 mx2) (.slice ta2 tl2 tc2) (.slice ha2 hl2 hc2) k4 from hh4).1.size; omega) | (have := pt_4.lt; omega)
            have zl5 := pt_4.lt
            obtain ⟨e5_0, y5_0⟩ := pt_4.has 0 (by omega)
            have z5_0 := pt_4.free 0 (by omega)
            obtain ⟨e5_1, y5_1⟩ := pt_4.has 1 (by omega)
            have z5_1 := pt_4.free 1 (by omega)
            obtain ⟨e5_2, y5_2⟩ := pt_4.has 2 (by omega)
            have z5_2 := pt_4.free 2 (by omega)
            obtain ⟨e5_3, y5_3⟩ := pt_4.has 3 (by omega)
            have z5_3 := pt_4.free 3 (by omega)
            obtain ⟨e5_4, y5_4⟩ := pt_4.has 4 (by omega)
            have z5_4 := pt_4.free 4 (by omega)
            obtain ⟨e5_5, y5_5⟩ := pt_4.has 5 (by omega)
            have z5_5 := pt_4.free 5 (by omega)
            obtain ⟨e5_6, y5_6⟩ := pt_4.has 6 (by omega)
            have z5_6 := pt_4.free 6 (by omega)
            obtain ⟨e5_7, y5_7⟩ := pt_4.has 7 (by omega)
            have z5_7 := pt_4.free 7 (by omega)
            obtain ⟨e5_8, y5_8⟩ := pt_4.has 8 (by omega)
            have z5_8 := pt_4.free 8 (by omega)
            go_simp
            try go_wp2_with fail
            have hg5 := StR.stL_grown u3.heap.size [.string a, .string m, .int .i64 mo, .int .i64 ev, .int .i64 su, .int .i64 mx, .slice t2 tl c2, .slice h2 hl d2, .int .i64 cd] 0 k4
            have hbO := StR.stL_blk (vs := [.string a, .string m, .int .i64 mo, .int .i64 ev, .int .i64 su, .int .i64 mx, .slice t2 tl c2, .slice h2 hl d2, .int .i64 cd]) (W := k4) pt_4 (by simp)
            have hh5 := BX.grown (show BX wi (w.heap.size) (w.heap.size + 1) (.string a1) (.string m1) (.int .i64 mo1) (.int .i64 ev1) (.int .i64 su1) (.int .i64 mx1) (.slice ta1 tl1 tc1) (.slice ha1 hl1 hc1) (.string a2) (.string m2) (.int .i64 mo2) (.int .i64 ev2) (.int .i64 su2) (.int .i64 mx2) (.slice ta2 tl2 tc2) (.slice ha2 hl2 hc2) k4 from hh4) hlo a0 b0 hg5
            have hNn := HNG.out _ _ _ _ _ _ hN_4 hg5 (by rcases hrel with r | r; (first | exact .inl r | omega); exact .inr r)
            have hsz := Nat.le_trans htn2 hg5.size
            simp only [StR.stL, Nat.zero_add, Nat.reduceAdd] at hh5 hbO hNn hsz
            refine hK.out _ _ hh5 (fun _ => ?_)
            clear hK K
            try simp only [Act.put, List.setIfInBounds_toArray, List.set_cons_zero, List.set_cons_succ]
            generalize (((((((((k4.setCell ⟨u3.heap.size, 0, none⟩ (.string a)).setCell ⟨u3.heap.size, 1, none⟩ (.string m)).setCell ⟨u3.heap.size, 2, none⟩ (.int .i64 mo)).setCell ⟨u3.heap.size, 3, none⟩ (.int .i64 ev)).setCell ⟨u3.heap.size, 4, none⟩ (.int .i64 su)).setCell ⟨u3.heap.size, 5, none⟩ (.int .i64 mx)).setCell ⟨u3.heap.size, 6, none⟩ (.slice t2 tl c2)).setCell ⟨u3.heap.size, 7, none⟩ (.slice h2 hl d2)).setCell ⟨u3.heap.size, 8, none⟩ (.int .i64 cd)) = k5 at *
            refine wpAnyH_done (by kernel_rfl) ?_ _
            have F1 := hid_intro hbO
            have F2 := hid_intro hNn
            have F3 := hid_intro hsz
            have F4 := hid_intro (show BX wi (w.heap.size) (w.heap.size + 1) (.string a1) (.string m1) (.int .i64 mo1) (.int .i64 ev1) (.int .i64 su1) (.int .i64 mx1) (.slice ta1 tl1 tc1) (.slice ha1 hl1 hc1) (.string a2) (.string m2) (.int .i64 mo2) (.int .i64 ev2) (.int .i64 su2) (.int .i64 mx2) (.slice ta2 tl2 tc2) (.slice ha2 hl2 hc2) k5 from hh5)
            try clear y5_8
            try clear y5_7
            try clear y5_6
            try clear y5_5
            try clear y5_4
            try clear y5_3
            try clear y5_2
            try clear y5_1
            try clear y5_0
            try clear hsz
            try clear hNn
            try clear hh5
            try clear hbO
            try clear hg5
            try clear z5_8
            try clear z5_7
            try clear z5_6
            try clear z5_5
            try clear z5_4
            try clear z5_3
            try clear z5_2
            try clear z5_1
            try clear z5_0
            try clear zl5
            try clear htn2
            try clear pt_4
            try clear hN_4
            try clear hT2_4
            try clear hT1_4
            try clear hh4
            try clear hrel
            try clear hlo
            try clear hq3
            try clear hN
            try clear hT2_3
            try clear hT1_3
            try clear hh3
            try clear htn
            try clear hLL
            try clear hq2
            try clear hT2
            try clear hT1_2
            try clear hh2
            try clear hq1
            try clear hT1
            try clear hh1
            go_wp2_with fail
            go_meet
            case rel => exact ⟨_, _, _, _, _, _, _, rfl, F1, F2, F3, F4⟩
          · go_simp
            try go_wp2_with fail
            have hlo : wi.heap.size ≤ u2.heap.size := (show BX wi (w.heap.size) (w.heap.size + 1) (.string a1) (.string m1) (.int .i64 mo1) (.int .i64 ev1) (.int .i64 su1) (.int .i64 mx1) (.slice ta1 tl1 tc1) (.slice ha1 hl1 hc1) (.string a2) (.string m2) (.int .i64 mo2) (.int .i64 ev2) (.int .i64 su2) (.int .i64 mx2) (.slice ta2 tl2 tc2) (.slice ha2 hl2 hc2) u2 from hh2).1.size
            have hh3 := BX.below (show BX wi (w.heap.size) (w.heap.size + 1) (.string a1) (.string m1) (.int .i64 mo1) (.int .i64 ev1) (.int .i64 su1) (.int .i64 mx1) (.slice ta1 tl1 tc1) (.slice ha1 hl1 hc1) (.string a2) (.string m2) (.int .i64 mo2) (.int .i64 ev2) (.int .i64 su2) (.int .i64 mx2) (.slice ta2 tl2 tc2) (.slice ha2 hl2 hc2) u2 from hh2) ((Below.refl u2.heap.size u2).alloc (Nat.le_refl _) (Obj.cells #[.string ⟨#[]⟩, .string ⟨#[]⟩, .int .i64 0, .int .i64 0, .int .i64 0, .int .i64 0, .slice none 0 0, .slice none 0 0, .int .i64 0] 31))
            have hT1_3 := HK1.out _ _ _ _ _ _  hT1_2 ((Below.refl u2.heap.size u2).alloc (Nat.le_refl _) (Obj.cells #[.string ⟨#[]⟩, .string ⟨#[]⟩, .int .i64 0, .int .i64 0, .int .i64 0, .int .i64 0, .slice none 0 0, .slice none 0 0, .int .i64 0] 31))
            have hT2_3 := HK2.out _ _ _ _ _ _  hT2 ((Below.refl u2.heap.size u2).alloc (Nat.le_refl _) (Obj.cells #[.string ⟨#[]⟩, .string ⟨#[]⟩, .int .i64 0, .int .i64 0, .int .i64 0, .int .i64 0, .slice none 0 0, .slice none 0 0, .int .i64 0] 31))
            have pt_3 : Pt u2.heap.size 9 (u2.alloc (Obj.cells #[.string ⟨#[]⟩, .string ⟨#[]⟩, .int .i64 0, .int .i64 0, .int .i64 0, .int .i64 0, .slice none 0 0, .slice none 0 0, .int .i64 0] 31)) := StR.pt_new u2 [.string ⟨#[]⟩, .string ⟨#[]⟩, .int .i64 0, .int .i64 0, .int .i64 0, .int .i64 0, .slice none 0 0, .slice none 0 0, .int .i64 0] 31
            refine hK.out _ _ hh3 (fun _ => ?_)
            clear hK K
            try simp only [Act.put, List.setIfInBounds_toArray, List.set_cons_zero, List.set_cons_succ]
            generalize (u2.alloc (Obj.cells #[.string ⟨#[]⟩, .string ⟨#[]⟩, .int .i64 0, .int .i64 0, .int .i64 0, .int .i64 0, .slice none 0 0, .slice none 0 0, .int .i64 0] 31)) = k3 at *
            refine wpAnyH_ready (rs := [4]) (by kernel_rfl) (by simp) ?_
            refine AllReadyH.cons (o := { dst := some 79, op := Op.call { callee := Callee.value (Operand.func 10), args := #[Operand.tmp 76, Operand.tmp 78], argTypes := #[29, 29] }, type := 31, pos := "exact.go:2740", after := #[{ on := 1, ground := Ground.data }, { on := 3, ground := Ground.data }, { on := 3, ground := Ground.chain }], guard := none }) rfl (fun K hK => ?_) AllReadyH.nil
            go_simp
            have hLL := HL.out.below (HBW.out.trans ((show BX wi (w.heap.size) (w.heap.size + 1) (.string a1) (.string m1) (.int .i64 mo1) (.int .i64 ev1) (.int .i64 su1) (.int .i64 mx1) (.slice ta1 tl1 tc1) (.slice ha1 hl1 hc1) (.string a2) (.string m2) (.int .i64 mo2) (.int .i64 ev2) (.int .i64 su2) (.int .i64 mx2) (.slice ta2 tl2 tc2) (.slice ha2 hl2 hc2) k3 from hh3).1.mono HBW.out.size))
            go_at_call 10
            refine (HJJ.out _ _ _ _ _ _ _ _ _ hLL hT1_3 hT2_3).mono ?_
            rintro e u4 ⟨t2, c2, h2, d2, rfl, hN, _, hq4⟩
            try go_wp2_with fail
            have hrel : u2.heap.size < k3.heap.size ∨ u4.heap.size ≤ u2.heap.size := .inl pt_3.lt
            have htn : u4.heap.size ≤ u4.heap.size := Nat.le_refl _
            have hh4 := BX.below (show BX wi (w.heap.size) (w.heap.size + 1) (.string a1) (.string m1) (.int .i64 mo1) (.int .i64 ev1) (.int .i64 su1) (.int .i64 mx1) (.slice ta1 tl1 tc1) (.slice ha1 hl1 hc1) (.string a2) (.string m2) (.int .i64 mo2) (.int .i64 ev2) (.int .i64 su2) (.int .i64 mx2) (.slice ta2 tl2 tc2) (.slice ha2 hl2 hc2) k3 from hh3) hq4
            have hT1_4 := HK1.out _ _ _ _ _ _  hT1_3 hq4
            have hT2_4 := HK2.out _ _ _ _ _ _  hT2_3 hq4
            have pt_4 := pt_3.below hq4
            refine hK.out _ _ hh4 (fun _ => ?_)
            clear hK K
            try simp only [Act.put, List.setIfInBounds_toArray, List.set_cons_zero, List.set_cons_succ]
            refine wpAnyH_ready (rs := [6]) (by kernel_rfl) (by simp) ?_
            refine AllReadyH.cons (o := { dst := none, op := Op.store 31 (Operand.tmp 13) (Operand.tmp 79), type := 0, pos := "exact.go:2740", after := #[{ on := 5, ground := Ground.data }, { on := 4, ground := Ground.data }, { on := 4, ground := Ground.chain }, { on := 0, ground := Ground.phase }, { on := 1, ground := Ground.phase }, { on := 2, ground := Ground.phase }, { on := 3, ground := Ground.phase }, { on := 4, ground := Ground.phase }, { on := 5, ground := Ground.phase }], guard := none }) rfl (fun K hK => ?_) AllReadyH.nil
            have htn2 : u4.heap.size ≤ u4.heap.size := by first | exact Nat.le_refl _ | (have := (show BX wi (w.heap.size) (w.heap.size + 1) (.string a1) (.string m1) (.int .i64 mo1) (.int .i64 ev1) (.int .i64 su1) (.int .i64 mx1) (.slice ta1 tl1 tc1) (.slice ha1 hl1 hc1) (.string a2) (.string m2) (.int .i64 mo2) (.int .i64 ev2) (.int .i64 su2) (.int .i64 mx2) (.slice ta2 tl2 tc2) (.slice ha2 hl2 hc2) u4 from hh4).1.size; omega) | (have := pt_4.lt; omega)
            have zl5 := pt_4.lt
            obtain ⟨e5_0, y5_0⟩ := pt_4.has 0 (by omega)
            have z5_0 := pt_4.free 0 (by omega)
            obtain ⟨e5_1, y5_1⟩ := pt_4.has 1 (by omega)
            have z5_1 := pt_4.free 1 (by omega)
            obtain ⟨e5_2, y5_2⟩ := pt_4.has 2 (by omega)
            have z5_2 := pt_4.free 2 (by omega)
            obtain ⟨e5_3, y5_3⟩ := pt_4.has 3 (by omega)
            have z5_3 := pt_4.free 3 (by omega)
            obtain ⟨e5_4, y5_4⟩ := pt_4.has 4 (by omega)
            have z5_4 := pt_4.free 4 (by omega)
            obtain ⟨e5_5, y5_5⟩ := pt_4.has 5 (by omega)
            have z5_5 := pt_4.free 5 (by omega)
            obtain ⟨e5_6, y5_6⟩ := pt_4.has 6 (by omega)
            have z5_6 := pt_4.free 6 (by omega)
            obtain ⟨e5_7, y5_7⟩ := pt_4.has 7 (by omega)
            have z5_7 := pt_4.free 7 (by omega)
            obtain ⟨e5_8, y5_8⟩ := pt_4.has 8 (by omega)
            have z5_8 := pt_4.free 8 (by omega)
            go_simp
            try go_wp2_with fail
            have hg5 := StR.stL_grown u2.heap.size [.string a, .string m, .int .i64 mo, .int .i64 ev, .int .i64 su, .int .i64 mx, .slice t2 tl c2, .slice h2 hl d2, .int .i64 cd] 0 u4
            have hbO := StR.stL_blk (vs := [.string a, .string m, .int .i64 mo, .int .i64 ev, .int .i64 su, .int .i64 mx, .slice t2 tl c2, .slice h2 hl d2, .int .i64 cd]) (W := u4) pt_4 (by simp)
            have hh5 := BX.grown (show BX wi (w.heap.size) (w.heap.size + 1) (.string a1) (.string m1) (.int .i64 mo1) (.int .i64 ev1) (.int .i64 su1) (.int .i64 mx1) (.slice ta1 tl1 tc1) (.slice ha1 hl1 hc1) (.string a2) (.string m2) (.int .i64 mo2) (.int .i64 ev2) (.int .i64 su2) (.int .i64 mx2) (.slice ta2 tl2 tc2) (.slice ha2 hl2 hc2) u4 from hh4) hlo a0 b0 hg5
            have hNn := HNG.out _ _ _ _ _ _ hN hg5 (by rcases hrel with r | r; (first | exact .inl r | omega); exact .inr r)
            have hsz := Nat.le_trans htn2 hg5.size
            simp only [StR.stL, Nat.zero_add, Nat.reduceAdd] at hh5 hbO hNn hsz
            refine hK.out _ _ hh5 (fun _ => ?_)
            clear hK K
            try simp only [Act.put, List.setIfInBounds_toArray, List.set_cons_zero, List.set_cons_succ]
            generalize (((((((((u4.setCell ⟨u2.heap.size, 0, none⟩ (.string a)).setCell ⟨u2.heap.size, 1, none⟩ (.string m)).setCell ⟨u2.heap.size, 2, none⟩ (.int .i64 mo)).setCell ⟨u2.heap.size, 3, none⟩ (.int .i64 ev)).setCell ⟨u2.heap.size, 4, none⟩ (.int .i64 su)).setCell ⟨u2.heap.size, 5, none⟩ (.int .i64 mx)).setCell ⟨u2.heap.size, 6, none⟩ (.slice t2 tl c2)).setCell ⟨u2.heap.size, 7, none⟩ (.slice h2 hl d2)).setCell ⟨u2.heap.size, 8, none⟩ (.int .i64 cd)) = k5 at *
            refine wpAnyH_done (by kernel_rfl) ?_ _
            have F1 := hid_intro hbO
            have F2 := hid_intro hNn
            have F3 := hid_intro hsz
            have F4 := hid_intro (show BX wi (w.heap.size) (w.heap.size + 1) (.string a1) (.string m1) (.int .i64 mo1) (.int .i64 ev1) (.int .i64 su1) (.int .i64 mx1) (.slice ta1 tl1 tc1) (.slice ha1 hl1 hc1) (.string a2) (.string m2) (.int .i64 mo2) (.int .i64 ev2) (.int .i64 su2) (.int .i64 mx2) (.slice ta2 tl2 tc2) (.slice ha2 hl2 hc2) k5 from hh5)
            try clear y5_8
            try clear y5_7
            try clear y5_6
            try clear y5_5
            try clear y5_4
            try clear y5_3
            try clear y5_2
            try clear y5_1
            try clear y5_0
            try clear hsz
            try clear hNn
            try clear hh5
            try clear hbO
            try clear hg5
            try clear z5_8
            try clear z5_7
            try clear z5_6
            try clear z5_5
            try clear z5_4
            try clear z5_3
            try clear z5_2
            try clear z5_1
            try clear z5_0
            try clear zl5
            try clear htn2
            try clear hq4
            try clear hN
            try clear pt_4
            try clear hT2_4
            try clear hT1_4
            try clear hh4
            try clear htn
            try clear hrel
            try clear hLL
            try clear pt_3
            try clear hT2_3
            try clear hT1_3
            try clear hh3
            try clear hlo
            try clear hq2
            try clear hT2
            try clear hT1_2
            try clear hh2
            try clear hq1
            try clear hT1
            try clear hh1
            go_wp2_with fail
            go_meet
            case rel => exact ⟨_, _, _, _, _, _, _, rfl, F1, F2, F3, F4⟩
        · go_simp
          try go_wp2_with fail
          have hlo : wi.heap.size ≤ u1.heap.size := (show BX wi (w.heap.size) (w.heap.size + 1) (.string a1) (.string m1) (.int .i64 mo1) (.int .i64 ev1) (.int .i64 su1) (.int .i64 mx1) (.slice ta1 tl1 tc1) (.slice ha1 hl1 hc1) (.string a2) (.string m2) (.int .i64 mo2) (.int .i64 ev2) (.int .i64 su2) (.int .i64 mx2) (.slice ta2 tl2 tc2) (.slice ha2 hl2 hc2) u1 from hh1).1.size
          have hh2 := BX.below (show BX wi (w.heap.size) (w.heap.size + 1) (.string a1) (.string m1) (.int .i64 mo1) (.int .i64 ev1) (.int .i64 su1) (.int .i64 mx1) (.slice ta1 tl1 tc1) (.slice ha1 hl1 hc1) (.string a2) (.string m2) (.int .i64 mo2) (.int .i64 ev2) (.int .i64 su2) (.int .i64 mx2) (.slice ta2 tl2 tc2) (.slice ha2 hl2 hc2) u1 from hh1) ((Below.refl u1.heap.size u1).alloc (Nat.le_refl _) (Obj.cells #[.string ⟨#[]⟩, .string ⟨#[]⟩, .int .i64 0, .int .i64 0, .int .i64 0, .int .i64 0, .slice none 0 0, .slice none 0 0, .int .i64 0] 31))
          have hT1_2 := HK1.out _ _ _ _ _ _  hT1 ((Below.refl u1.heap.size u1).alloc (Nat.le_refl _) (Obj.cells #[.string ⟨#[]⟩, .string ⟨#[]⟩, .int .i64 0, .int .i64 0, .int .i64 0, .int .i64 0, .slice none 0 0, .slice none 0 0, .int .i64 0] 31))
          have pt_2 : Pt u1.heap.size 9 (u1.alloc (Obj.cells #[.string ⟨#[]⟩, .string ⟨#[]⟩, .int .i64 0, .int .i64 0, .int .i64 0, .int .i64 0, .slice none 0 0, .slice none 0 0, .int .i64 0] 31)) := StR.pt_new u1 [.string ⟨#[]⟩, .string ⟨#[]⟩, .int .i64 0, .int .i64 0, .int .i64 0, .int .i64 0, .slice none 0 0, .slice none 0 0, .int .i64 0] 31
          refine hK.out _ _ hh2 (fun _ => ?_)
          clear hK K
          try simp only [Act.put, List.setIfInBounds_toArray, List.set_cons_zero, List.set_cons_succ]
          generalize (u1.alloc (Obj.cells #[.string ⟨#[]⟩, .string ⟨#[]⟩, .int .i64 0, .int .i64 0, .int .i64 0, .int .i64 0, .slice none 0 0, .slice none 0 0, .int .i64 0] 31)) = k2 at *
          refine wpAnyH_ready (rs := [3]) (by kernel_rfl) (by simp) ?_
          refine AllReadyH.cons (o := { dst := some 78, op := Op.call { callee := Callee.value (Operand.func 9), args := #[Operand.tmp 77], argTypes := #[25] }, type := 29, pos := "exact.go:2740", after := #[{ on := 2, ground := Ground.data }, { on := 1, ground := Ground.chain }], guard := none }) rfl (fun K hK => ?_) AllReadyH.nil
          go_simp
          go_at_call 9
          refine (HU2.out _ (HBW.out.trans ((show BX wi (w.heap.size) (w.heap.size + 1) (.string a1) (.string m1) (.int .i64 mo1) (.int .i64 ev1) (.int .i64 su1) (.int .i64 mx1) (.slice ta1 tl1 tc1) (.slice ha1 hl1 hc1) (.string a2) (.string m2) (.int .i64 mo2) (.int .i64 ev2) (.int .i64 su2) (.int .i64 mx2) (.slice ta2 tl2 tc2) (.slice ha2 hl2 hc2) k2 from hh2).1.mono HBW.out.size))).mono ?_
          rintro e u3 ⟨g2x, h2x, rfl, hT2, hq3⟩
          try go_wp2_with fail
          have hh3 := BX.below (show BX wi (w.heap.size) (w.heap.size + 1) (.string a1) (.string m1) (.int .i64 mo1) (.int .i64 ev1) (.int .i64 su1) (.int .i64 mx1) (.slice ta1 tl1 tc1) (.slice ha1 hl1 hc1) (.string a2) (.string m2) (.int .i64 mo2) (.int .i64 ev2) (.int .i64 su2) (.int .i64 mx2) (.slice ta2 tl2 tc2) (.slice ha2 hl2 hc2) k2 from hh2) hq3
          have hT1_3 := HK1.out _ _ _ _ _ _  hT1_2 hq3
          have pt_3 := pt_2.below hq3
          refine hK.out _ _ hh3 (fun _ => ?_)
          clear hK K
          try simp only [Act.put, List.setIfInBounds_toArray, List.set_cons_zero, List.set_cons_succ]
          refine wpAnyH_ready (rs := [4]) (by kernel_rfl) (by simp) ?_
          refine AllReadyH.cons (o := { dst := some 79, op := Op.call { callee := Callee.value (Operand.func 10), args := #[Operand.tmp 76, Operand.tmp 78], argTypes := #[29, 29] }, type := 31, pos := "exact.go:2740", after := #[{ on := 1, ground := Ground.data }, { on := 3, ground := Ground.data }, { on := 3, ground := Ground.chain }], guard := none }) rfl (fun K hK => ?_) AllReadyH.nil
          go_simp
          have hLL := HL.out.below (HBW.out.trans ((show BX wi (w.heap.size) (w.heap.size + 1) (.string a1) (.string m1) (.int .i64 mo1) (.int .i64 ev1) (.int .i64 su1) (.int .i64 mx1) (.slice ta1 tl1 tc1) (.slice ha1 hl1 hc1) (.string a2) (.string m2) (.int .i64 mo2) (.int .i64 ev2) (.int .i64 su2) (.int .i64 mx2) (.slice ta2 tl2 tc2) (.slice ha2 hl2 hc2) u3 from hh3).1.mono HBW.out.size))
          go_at_call 10
          refine (HJJ.out _ _ _ _ _ _ _ _ _ hLL hT1_3 hT2).mono ?_
          rintro e u4 ⟨t2, c2, h2, d2, rfl, hN, _, hq4⟩
          try go_wp2_with fail
          have hrel : u1.heap.size < u3.heap.size ∨ u4.heap.size ≤ u1.heap.size := .inl pt_3.lt
          have htn : u4.heap.size ≤ u4.heap.size := Nat.le_refl _
          have hh4 := BX.below (show BX wi (w.heap.size) (w.heap.size + 1) (.string a1) (.string m1) (.int .i64 mo1) (.int .i64 ev1) (.int .i64 su1) (.int .i64 mx1) (.slice ta1 tl1 tc1) (.slice ha1 hl1 hc1) (.string a2) (.string m2) (.int .i64 mo2) (.int .i64 ev2) (.int .i64 su2) (.int .i64 mx2) (.slice ta2 tl2 tc2) (.slice ha2 hl2 hc2) u3 from hh3) hq4
          have hT1_4 := HK1.out _ _ _ _ _ _  hT1_3 hq4
          have pt_4 := pt_3.below hq4
          have hT2_4 := HK2.out _ _ _ _ _ _  hT2 hq4
          refine hK.out _ _ hh4 (fun _ => ?_)
          clear hK K
          try simp only [Act.put, List.setIfInBounds_toArray, List.set_cons_zero, List.set_cons_succ]
          refine wpAnyH_ready (rs := [6]) (by kernel_rfl) (by simp) ?_
          refine AllReadyH.cons (o := { dst := none, op := Op.store 31 (Operand.tmp 13) (Operand.tmp 79), type := 0, pos := "exact.go:2740", after := #[{ on := 5, ground := Ground.data }, { on := 4, ground := Ground.data }, { on := 4, ground := Ground.chain }, { on := 0, ground := Ground.phase }, { on := 1, ground := Ground.phase }, { on := 2, ground := Ground.phase }, { on := 3, ground := Ground.phase }, { on := 4, ground := Ground.phase }, { on := 5, ground := Ground.phase }], guard := none }) rfl (fun K hK => ?_) AllReadyH.nil
          have htn2 : u4.heap.size ≤ u4.heap.size := by first | exact Nat.le_refl _ | (have := (show BX wi (w.heap.size) (w.heap.size + 1) (.string a1) (.string m1) (.int .i64 mo1) (.int .i64 ev1) (.int .i64 su1) (.int .i64 mx1) (.slice ta1 tl1 tc1) (.slice ha1 hl1 hc1) (.string a2) (.string m2) (.int .i64 mo2) (.int .i64 ev2) (.int .i64 su2) (.int .i64 mx2) (.slice ta2 tl2 tc2) (.slice ha2 hl2 hc2) u4 from hh4).1.size; omega) | (have := pt_4.lt; omega)
          have zl5 := pt_4.lt
          obtain ⟨e5_0, y5_0⟩ := pt_4.has 0 (by omega)
          have z5_0 := pt_4.free 0 (by omega)
          obtain ⟨e5_1, y5_1⟩ := pt_4.has 1 (by omega)
          have z5_1 := pt_4.free 1 (by omega)
          obtain ⟨e5_2, y5_2⟩ := pt_4.has 2 (by omega)
          have z5_2 := pt_4.free 2 (by omega)
          obtain ⟨e5_3, y5_3⟩ := pt_4.has 3 (by omega)
          have z5_3 := pt_4.free 3 (by omega)
          obtain ⟨e5_4, y5_4⟩ := pt_4.has 4 (by omega)
          have z5_4 := pt_4.free 4 (by omega)
          obtain ⟨e5_5, y5_5⟩ := pt_4.has 5 (by omega)
          have z5_5 := pt_4.free 5 (by omega)
          obtain ⟨e5_6, y5_6⟩ := pt_4.has 6 (by omega)
          have z5_6 := pt_4.free 6 (by omega)
          obtain ⟨e5_7, y5_7⟩ := pt_4.has 7 (by omega)
          have z5_7 := pt_4.free 7 (by omega)
          obtain ⟨e5_8, y5_8⟩ := pt_4.has 8 (by omega)
          have z5_8 := pt_4.free 8 (by omega)
          go_simp
          try go_wp2_with fail
          have hg5 := StR.stL_grown u1.heap.size [.string a, .string m, .int .i64 mo, .int .i64 ev, .int .i64 su, .int .i64 mx, .slice t2 tl c2, .slice h2 hl d2, .int .i64 cd] 0 u4
          have hbO := StR.stL_blk (vs := [.string a, .string m, .int .i64 mo, .int .i64 ev, .int .i64 su, .int .i64 mx, .slice t2 tl c2, .slice h2 hl d2, .int .i64 cd]) (W := u4) pt_4 (by simp)
          have hh5 := BX.grown (show BX wi (w.heap.size) (w.heap.size + 1) (.string a1) (.string m1) (.int .i64 mo1) (.int .i64 ev1) (.int .i64 su1) (.int .i64 mx1) (.slice ta1 tl1 tc1) (.slice ha1 hl1 hc1) (.string a2) (.string m2) (.int .i64 mo2) (.int .i64 ev2) (.int .i64 su2) (.int .i64 mx2) (.slice ta2 tl2 tc2) (.slice ha2 hl2 hc2) u4 from hh4) hlo a0 b0 hg5
          have hNn := HNG.out _ _ _ _ _ _ hN hg5 (by rcases hrel with r | r; (first | exact .inl r | omega); exact .inr r)
          have hsz := Nat.le_trans htn2 hg5.size
          simp only [StR.stL, Nat.zero_add, Nat.reduceAdd] at hh5 hbO hNn hsz
          refine hK.out _ _ hh5 (fun _ => ?_)
          clear hK K
          try simp only [Act.put, List.setIfInBounds_toArray, List.set_cons_zero, List.set_cons_succ]
          generalize (((((((((u4.setCell ⟨u1.heap.size, 0, none⟩ (.string a)).setCell ⟨u1.heap.size, 1, none⟩ (.string m)).setCell ⟨u1.heap.size, 2, none⟩ (.int .i64 mo)).setCell ⟨u1.heap.size, 3, none⟩ (.int .i64 ev)).setCell ⟨u1.heap.size, 4, none⟩ (.int .i64 su)).setCell ⟨u1.heap.size, 5, none⟩ (.int .i64 mx)).setCell ⟨u1.heap.size, 6, none⟩ (.slice t2 tl c2)).setCell ⟨u1.heap.size, 7, none⟩ (.slice h2 hl d2)).setCell ⟨u1.heap.size, 8, none⟩ (.int .i64 cd)) = k5 at *
          refine wpAnyH_done (by kernel_rfl) ?_ _
          have F1 := hid_intro hbO
          have F2 := hid_intro hNn
          have F3 := hid_intro hsz
          have F4 := hid_intro (show BX wi (w.heap.size) (w.heap.size + 1) (.string a1) (.string m1) (.int .i64 mo1) (.int .i64 ev1) (.int .i64 su1) (.int .i64 mx1) (.slice ta1 tl1 tc1) (.slice ha1 hl1 hc1) (.string a2) (.string m2) (.int .i64 mo2) (.int .i64 ev2) (.int .i64 su2) (.int .i64 mx2) (.slice ta2 tl2 tc2) (.slice ha2 hl2 hc2) k5 from hh5)
          try clear y5_8
          try clear y5_7
          try clear y5_6
          try clear y5_5
          try clear y5_4
          try clear y5_3
          try clear y5_2
          try clear y5_1
          try clear y5_0
          try clear hsz
          try clear hNn
          try clear hh5
          try clear hbO
          try clear hg5
          try clear z5_8
          try clear z5_7
          try clear z5_6
          try clear z5_5
          try clear z5_4
          try clear z5_3
          try clear z5_2
          try clear z5_1
          try clear z5_0
          try clear zl5
          try clear htn2
          try clear hq4
          try clear hN
          try clear hT2_4
          try clear pt_4
          try clear hT1_4
          try clear hh4
          try clear htn
          try clear hrel
          try clear hLL
          try clear hq3
          try clear hT2
          try clear pt_3
          try clear hT1_3
          try clear hh3
          try clear pt_2
          try clear hT1_2
          try clear hh2
          try clear hlo
          try clear hq1
          try clear hT1
          try clear hh1
          go_wp2_with fail
          go_meet
          case rel => exact ⟨_, _, _, _, _, _, _, rfl, F1, F2, F3, F4⟩
      · go_simp
        try go_wp2_with fail
        have hlo : wi.heap.size ≤ kd.heap.size := (show BX wi (w.heap.size) (w.heap.size + 1) (.string a1) (.string m1) (.int .i64 mo1) (.int .i64 ev1) (.int .i64 su1) (.int .i64 mx1) (.slice ta1 tl1 tc1) (.slice ha1 hl1 hc1) (.string a2) (.string m2) (.int .i64 mo2) (.int .i64 ev2) (.int .i64 su2) (.int .i64 mx2) (.slice ta2 tl2 tc2) (.slice ha2 hl2 hc2) kd from HX2.out).1.size
        have hh1 := BX.below (show BX wi (w.heap.size) (w.heap.size + 1) (.string a1) (.string m1) (.int .i64 mo1) (.int .i64 ev1) (.int .i64 su1) (.int .i64 mx1) (.slice ta1 tl1 tc1) (.slice ha1 hl1 hc1) (.string a2) (.string m2) (.int .i64 mo2) (.int .i64 ev2) (.int .i64 su2) (.int .i64 mx2) (.slice ta2 tl2 tc2) (.slice ha2 hl2 hc2) kd from HX2.out) ((Below.refl kd.heap.size kd).alloc (Nat.le_refl _) (Obj.cells #[.string ⟨#[]⟩, .string ⟨#[]⟩, .int .i64 0, .int .i64 0, .int .i64 0, .int .i64 0, .slice none 0 0, .slice none 0 0, .int .i64 0] 31))
        have pt_1 : Pt kd.heap.size 9 (kd.alloc (Obj.cells #[.string ⟨#[]⟩, .string ⟨#[]⟩, .int .i64 0, .int .i64 0, .int .i64 0, .int .i64 0, .slice none 0 0, .slice none 0 0, .int .i64 0] 31)) := StR.pt_new kd [.string ⟨#[]⟩, .string ⟨#[]⟩, .int .i64 0, .int .i64 0, .int .i64 0, .int .i64 0, .slice none 0 0, .slice none 0 0, .int .i64 0] 31
        refine hK.out _ _ hh1 (fun _ => ?_)
        clear hK K
        try simp only [Act.put, List.setIfInBounds_toArray, List.set_cons_zero, List.set_cons_succ]
        generalize (kd.alloc (Obj.cells #[.string ⟨#[]⟩, .string ⟨#[]⟩, .int .i64 0, .int .i64 0, .int .i64 0, .int .i64 0, .slice none 0 0, .slice none 0 0, .int .i64 0] 31)) = k1 at *
        refine wpAnyH_ready (rs := [1]) (by kernel_rfl) (by simp) ?_
        refine AllReadyH.cons (o := { dst := some 76, op := Op.call { callee := Callee.value (Operand.func 9), args := #[Operand.tmp 75], argTypes := #[25] }, type := 29, pos := "exact.go:2740", after := #[{ on := 0, ground := Ground.data }], guard := none }) rfl (fun K hK => ?_) AllReadyH.nil
        go_simp
        go_at_call 9
        refine (HU1.out _ (HBW.out.trans ((show BX wi (w.heap.size) (w.heap.size + 1) (.string a1) (.string m1) (.int .i64 mo1) (.int .i64 ev1) (.int .i64 su1) (.int .i64 mx1) (.slice ta1 tl1 tc1) (.slice ha1 hl1 hc1) (.string a2) (.string m2) (.int .i64 mo2) (.int .i64 ev2) (.int .i64 su2) (.int .i64 mx2) (.slice ta2 tl2 tc2) (.slice ha2 hl2 hc2) k1 from hh1).1.mono HBW.out.size))).mono ?_
        rintro e u2 ⟨g1x, h1x, rfl, hT1, hq2⟩
        try go_wp2_with fail
        have hh2 := BX.below (show BX wi (w.heap.size) (w.heap.size + 1) (.string a1) (.string m1) (.int .i64 mo1) (.int .i64 ev1) (.int .i64 su1) (.int .i64 mx1) (.slice ta1 tl1 tc1) (.slice ha1 hl1 hc1) (.string a2) (.string m2) (.int .i64 mo2) (.int .i64 ev2) (.int .i64 su2) (.int .i64 mx2) (.slice ta2 tl2 tc2) (.slice ha2 hl2 hc2) k1 from hh1) hq2
        have pt_2 := pt_1.below hq2
        refine hK.out _ _ hh2 (fun _ => ?_)
        clear hK K
        try simp only [Act.put, List.setIfInBounds_toArray, List.set_cons_zero, List.set_cons_succ]
        refine wpAnyH_ready (rs := [3]) (by kernel_rfl) (by simp) ?_
        refine AllReadyH.cons (o := { dst := some 78, op := Op.call { callee := Callee.value (Operand.func 9), args := #[Operand.tmp 77], argTypes := #[25] }, type := 29, pos := "exact.go:2740", after := #[{ on := 2, ground := Ground.data }, { on := 1, ground := Ground.chain }], guard := none }) rfl (fun K hK => ?_) AllReadyH.nil
        go_simp
        go_at_call 9
        refine (HU2.out _ (HBW.out.trans ((show BX wi (w.heap.size) (w.heap.size + 1) (.string a1) (.string m1) (.int .i64 mo1) (.int .i64 ev1) (.int .i64 su1) (.int .i64 mx1) (.slice ta1 tl1 tc1) (.slice ha1 hl1 hc1) (.string a2) (.string m2) (.int .i64 mo2) (.int .i64 ev2) (.int .i64 su2) (.int .i64 mx2) (.slice ta2 tl2 tc2) (.slice ha2 hl2 hc2) u2 from hh2).1.mono HBW.out.size))).mono ?_
        rintro e u3 ⟨g2x, h2x, rfl, hT2, hq3⟩
        try go_wp2_with fail
        have hh3 := BX.below (show BX wi (w.heap.size) (w.heap.size + 1) (.string a1) (.string m1) (.int .i64 mo1) (.int .i64 ev1) (.int .i64 su1) (.int .i64 mx1) (.slice ta1 tl1 tc1) (.slice ha1 hl1 hc1) (.string a2) (.string m2) (.int .i64 mo2) (.int .i64 ev2) (.int .i64 su2) (.int .i64 mx2) (.slice ta2 tl2 tc2) (.slice ha2 hl2 hc2) u2 from hh2) hq3
        have pt_3 := pt_2.below hq3
        have hT1_3 := HK1.out _ _ _ _ _ _  hT1 hq3
        refine hK.out _ _ hh3 (fun _ => ?_)
        clear hK K
        try simp only [Act.put, List.setIfInBounds_toArray, List.set_cons_zero, List.set_cons_succ]
        refine wpAnyH_ready (rs := [4]) (by kernel_rfl) (by simp) ?_
        refine AllReadyH.cons (o := { dst := some 79, op := Op.call { callee := Callee.value (Operand.func 10), args := #[Operand.tmp 76, Operand.tmp 78], argTypes := #[29, 29] }, type := 31, pos := "exact.go:2740", after := #[{ on := 1, ground := Ground.data }, { on := 3, ground := Ground.data }, { on := 3, ground := Ground.chain }], guard := none }) rfl (fun K hK => ?_) AllReadyH.nil
        go_simp
        have hLL := HL.out.below (HBW.out.trans ((show BX wi (w.heap.size) (w.heap.size + 1) (.string a1) (.string m1) (.int .i64 mo1) (.int .i64 ev1) (.int .i64 su1) (.int .i64 mx1) (.slice ta1 tl1 tc1) (.slice ha1 hl1 hc1) (.string a2) (.string m2) (.int .i64 mo2) (.int .i64 ev2) (.int .i64 su2) (.int .i64 mx2) (.slice ta2 tl2 tc2) (.slice ha2 hl2 hc2) u3 from hh3).1.mono HBW.out.size))
        go_at_call 10
        refine (HJJ.out _ _ _ _ _ _ _ _ _ hLL hT1_3 hT2).mono ?_
        rintro e u4 ⟨t2, c2, h2, d2, rfl, hN, _, hq4⟩
        try go_wp2_with fail
        have hrel : kd.heap.size < u3.heap.size ∨ u4.heap.size ≤ kd.heap.size := .inl pt_3.lt
        have htn : u4.heap.size ≤ u4.heap.size := Nat.le_refl _
        have hh4 := BX.below (show BX wi (w.heap.size) (w.heap.size + 1) (.string a1) (.string m1) (.int .i64 mo1) (.int .i64 ev1) (.int .i64 su1) (.int .i64 mx1) (.slice ta1 tl1 tc1) (.slice ha1 hl1 hc1) (.string a2) (.string m2) (.int .i64 mo2) (.int .i64 ev2) (.int .i64 su2) (.int .i64 mx2) (.slice ta2 tl2 tc2) (.slice ha2 hl2 hc2) u3 from hh3) hq4
        have pt_4 := pt_3.below hq4
        have hT1_4 := HK1.out _ _ _ _ _ _  hT1_3 hq4
        have hT2_4 := HK2.out _ _ _ _ _ _  hT2 hq4
        refine hK.out _ _ hh4 (fun _ => ?_)
        clear hK K
        try simp only [Act.put, List.setIfInBounds_toArray, List.set_cons_zero, List.set_cons_succ]
        refine wpAnyH_ready (rs := [6]) (by kernel_rfl) (by simp) ?_
        refine AllReadyH.cons (o := { dst := none, op := Op.store 31 (Operand.tmp 13) (Operand.tmp 79), type := 0, pos := "exact.go:2740", after := #[{ on := 5, ground := Ground.data }, { on := 4, ground := Ground.data }, { on := 4, ground := Ground.chain }, { on := 0, ground := Ground.phase }, { on := 1, ground := Ground.phase }, { on := 2, ground := Ground.phase }, { on := 3, ground := Ground.phase }, { on := 4, ground := Ground.phase }, { on := 5, ground := Ground.phase }], guard := none }) rfl (fun K hK => ?_) AllReadyH.nil
        have htn2 : u4.heap.size ≤ u4.heap.size := by first | exact Nat.le_refl _ | (have := (show BX wi (w.heap.size) (w.heap.size + 1) (.string a1) (.string m1) (.int .i64 mo1) (.int .i64 ev1) (.int .i64 su1) (.int .i64 mx1) (.slice ta1 tl1 tc1) (.slice ha1 hl1 hc1) (.string a2) (.string m2) (.int .i64 mo2) (.int .i64 ev2) (.int .i64 su2) (.int .i64 mx2) (.slice ta2 tl2 tc2) (.slice ha2 hl2 hc2) u4 from hh4).1.size; omega) | (have := pt_4.lt; omega)
        have zl5 := pt_4.lt
        obtain ⟨e5_0, y5_0⟩ := pt_4.has 0 (by omega)
        have z5_0 := pt_4.free 0 (by omega)
        obtain ⟨e5_1, y5_1⟩ := pt_4.has 1 (by omega)
        have z5_1 := pt_4.free 1 (by omega)
        obtain ⟨e5_2, y5_2⟩ := pt_4.has 2 (by omega)
        have z5_2 := pt_4.free 2 (by omega)
        obtain ⟨e5_3, y5_3⟩ := pt_4.has 3 (by omega)
        have z5_3 := pt_4.free 3 (by omega)
        obtain ⟨e5_4, y5_4⟩ := pt_4.has 4 (by omega)
        have z5_4 := pt_4.free 4 (by omega)
        obtain ⟨e5_5, y5_5⟩ := pt_4.has 5 (by omega)
        have z5_5 := pt_4.free 5 (by omega)
        obtain ⟨e5_6, y5_6⟩ := pt_4.has 6 (by omega)
        have z5_6 := pt_4.free 6 (by omega)
        obtain ⟨e5_7, y5_7⟩ := pt_4.has 7 (by omega)
        have z5_7 := pt_4.free 7 (by omega)
        obtain ⟨e5_8, y5_8⟩ := pt_4.has 8 (by omega)
        have z5_8 := pt_4.free 8 (by omega)
        go_simp
        try go_wp2_with fail
        have hg5 := StR.stL_grown kd.heap.size [.string a, .string m, .int .i64 mo, .int .i64 ev, .int .i64 su, .int .i64 mx, .slice t2 tl c2, .slice h2 hl d2, .int .i64 cd] 0 u4
        have hbO := StR.stL_blk (vs := [.string a, .string m, .int .i64 mo, .int .i64 ev, .int .i64 su, .int .i64 mx, .slice t2 tl c2, .slice h2 hl d2, .int .i64 cd]) (W := u4) pt_4 (by simp)
        have hh5 := BX.grown (show BX wi (w.heap.size) (w.heap.size + 1) (.string a1) (.string m1) (.int .i64 mo1) (.int .i64 ev1) (.int .i64 su1) (.int .i64 mx1) (.slice ta1 tl1 tc1) (.slice ha1 hl1 hc1) (.string a2) (.string m2) (.int .i64 mo2) (.int .i64 ev2) (.int .i64 su2) (.int .i64 mx2) (.slice ta2 tl2 tc2) (.slice ha2 hl2 hc2) u4 from hh4) hlo a0 b0 hg5
        have hNn := HNG.out _ _ _ _ _ _ hN hg5 (by rcases hrel with r | r; (first | exact .inl r | omega); exact .inr r)
        have hsz := Nat.le_trans htn2 hg5.size
        simp only [StR.stL, Nat.zero_add, Nat.reduceAdd] at hh5 hbO hNn hsz
        refine hK.out _ _ hh5 (fun _ => ?_)
        clear hK K
        try simp only [Act.put, List.setIfInBounds_toArray, List.set_cons_zero, List.set_cons_succ]
        generalize (((((((((u4.setCell ⟨kd.heap.size, 0, none⟩ (.string a)).setCell ⟨kd.heap.size, 1, none⟩ (.string m)).setCell ⟨kd.heap.size, 2, none⟩ (.int .i64 mo)).setCell ⟨kd.heap.size, 3, none⟩ (.int .i64 ev)).setCell ⟨kd.heap.size, 4, none⟩ (.int .i64 su)).setCell ⟨kd.heap.size, 5, none⟩ (.int .i64 mx)).setCell ⟨kd.heap.size, 6, none⟩ (.slice t2 tl c2)).setCell ⟨kd.heap.size, 7, none⟩ (.slice h2 hl d2)).setCell ⟨kd.heap.size, 8, none⟩ (.int .i64 cd)) = k5 at *
        refine wpAnyH_done (by kernel_rfl) ?_ _
        have F1 := hid_intro hbO
        have F2 := hid_intro hNn
        have F3 := hid_intro hsz
        have F4 := hid_intro (show BX wi (w.heap.size) (w.heap.size + 1) (.string a1) (.string m1) (.int .i64 mo1) (.int .i64 ev1) (.int .i64 su1) (.int .i64 mx1) (.slice ta1 tl1 tc1) (.slice ha1 hl1 hc1) (.string a2) (.string m2) (.int .i64 mo2) (.int .i64 ev2) (.int .i64 su2) (.int .i64 mx2) (.slice ta2 tl2 tc2) (.slice ha2 hl2 hc2) k5 from hh5)
        try clear y5_8
        try clear y5_7
        try clear y5_6
        try clear y5_5
        try clear y5_4
        try clear y5_3
        try clear y5_2
        try clear y5_1
        try clear y5_0
        try clear hsz
        try clear hNn
        try clear hh5
        try clear hbO
        try clear hg5
        try clear z5_8
        try clear z5_7
        try clear z5_6
        try clear z5_5
        try clear z5_4
        try clear z5_3
        try clear z5_2
        try clear z5_1
        try clear z5_0
        try clear zl5
        try clear htn2
        try clear hq4
        try clear hN
        try clear hT2_4
        try clear hT1_4
        try clear pt_4
        try clear hh4
        try clear htn
        try clear hrel
        try clear hLL
        try clear hq3
        try clear hT2
        try clear hT1_3
        try clear pt_3
        try clear hh3
        try clear hq2
        try clear hT1
        try clear pt_2
        try clear hh2
        try clear pt_1
        try clear hh1
        try clear hlo
        go_wp2_with fail
        go_meet
        case rel => exact ⟨_, _, _, _, _, _, _, rfl, F1, F2, F3, F4⟩
    case rest =>
      obtain ⟨b13, t2, c2, h2, d2, bM, tM, rfl, HY, HM, _, HX⟩ := hcut
      have hbx := HX.out.1
      have HBj := hid_intro (HBi.out.trans (hbx.mono HBi.out.size))
      have HAj := hid_intro (HAi.out.below hbx)
      have HCj := hid_intro (HCi.out.below hbx)
      have H6j := hid_intro (H6i.out.below hbx)
      have H9j := hid_intro (H9i.out.below hbx)
      have HNj := hid_intro (HNB.out _ _ _ _ _  HNi.out hbx)
      have HDj := hid_intro (HDB.out _ _ _ _  HDi.out hbx)
      clear HBi HAi HCi H6i H9i HNi HDi
      clear hbx HX
      have p0 : wc.cell? ⟨b13, 0, none⟩ = some (.string a) := HY.out.2 0 (by simp)
      have p1 : wc.cell? ⟨b13, 1, none⟩ = some (.string m) := HY.out.2 1 (by simp)
      have p2 : wc.cell? ⟨b13, 2, none⟩ = some (.int .i64 mo) := HY.out.2 2 (by simp)
      have p3 : wc.cell? ⟨b13, 3, none⟩ = some (.int .i64 ev) := HY.out.2 3 (by simp)
      have p4 : wc.cell? ⟨b13, 4, none⟩ = some (.int .i64 su) := HY.out.2 4 (by simp)
      have p5 : wc.cell? ⟨b13, 5, none⟩ = some (.int .i64 mx) := HY.out.2 5 (by simp)
      have p6 : wc.cell? ⟨b13, 6, none⟩ = some (.slice t2 tl c2) := HY.out.2 6 (by simp)
      have p7 : wc.cell? ⟨b13, 7, none⟩ = some (.slice h2 hl d2) := HY.out.2 7 (by simp)
      have p8 : wc.cell? ⟨b13, 8, none⟩ = some (.int .i64 cd) := HY.out.2 8 (by simp)
      have pl := HY.out.1
      have q0 : wc.cell? ⟨b6, 0, none⟩ = some (.string a) := H6j.out.2 0 (by simp)
      have q1 : wc.cell? ⟨b6, 1, none⟩ = some (.string m) := H6j.out.2 1 (by simp)
      have q2 : wc.cell? ⟨b6, 2, none⟩ = some (.int .i64 mo) := H6j.out.2 2 (by simp)
      have q3 : wc.cell? ⟨b6, 3, none⟩ = some (.int .i64 ev) := H6j.out.2 3 (by simp)
      have q4 : wc.cell? ⟨b6, 4, none⟩ = some (.int .i64 su) := H6j.out.2 4 (by simp)
      have q5 : wc.cell? ⟨b6, 5, none⟩ = some (.int .i64 mx) := H6j.out.2 5 (by simp)
      have q6 : wc.cell? ⟨b6, 6, none⟩ = some (.slice t0 tl c0) := H6j.out.2 6 (by simp)
      have q7 : wc.cell? ⟨b6, 7, none⟩ = some (.slice h0 hl d0) := H6j.out.2 7 (by simp)
      have q8 : wc.cell? ⟨b6, 8, none⟩ = some (.int .i64 cd) := H6j.out.2 8 (by simp)
      have ql := H6j.out.1
      go_wp2_with fail
      refine (HEO.out _ _ _ _ _ _ _ HM.out HNj.out).mono ?_
      rintro e wk ⟨rfl, hbk⟩
      clear HY HM
      have HBk := hid_intro (HBj.out.trans (hbk.mono HBj.out.size))
      have HAk := hid_intro (HAj.out.below hbk)
      have HCk := hid_intro (HCj.out.below hbk)
      have H6k := hid_intro (H6j.out.below hbk)
      have H9k := hid_intro (H9j.out.below hbk)
      have HNk := hid_intro (HNB.out _ _ _ _ _  HNj.out hbk)
      have HDk := hid_intro (HDB.out _ _ _ _  HDj.out hbk)
      clear HBj HAj HCj H6j H9j HNj HDj
      clear hbk
      clear p0 p1 p2 p3 p4 p5 p6 p7 p8 pl
      clear q0 q1 q2 q3 q4 q5 q6 q7 q8 ql
      have p0 : wk.cell? ⟨w8.heap.size, 0, none⟩ = some (.string a) := H9k.out.2 0 (by simp)
      have p1 : wk.cell? ⟨w8.heap.size, 1, none⟩ = some (.string m) := H9k.out.2 1 (by simp)
      have p2 : wk.cell? ⟨w8.heap.size, 2, none⟩ = some (.int .i64 mo) := H9k.out.2 2 (by simp)
      have p3 : wk.cell? ⟨w8.heap.size, 3, none⟩ = some (.int .i64 ev) := H9k.out.2 3 (by simp)
      have p4 : wk.cell? ⟨w8.heap.size, 4, none⟩ = some (.int .i64 su) := H9k.out.2 4 (by simp)
      have p5 : wk.cell? ⟨w8.heap.size, 5, none⟩ = some (.int .i64 mx) := H9k.out.2 5 (by simp)
      have p6 : wk.cell? ⟨w8.heap.size, 6, none⟩ = some (.slice t1 tl c1) := H9k.out.2 6 (by simp)
      have p7 : wk.cell? ⟨w8.heap.size, 7, none⟩ = some (.slice h1 hl d1) := H9k.out.2 7 (by simp)
      have p8 : wk.cell? ⟨w8.heap.size, 8, none⟩ = some (.int .i64 cd) := H9k.out.2 8 (by simp)
      have pl := H9k.out.1
      go_wp2_with fail
      refine (HHO.out _ _ _ _ _ HDk.out).mono ?_
      rintro e wl ⟨rfl, hbl⟩
      have HBl := hid_intro (HBk.out.trans (hbl.mono HBk.out.size))
      clear hbl
      clear p0 p1 p2 p3 p4 p5 p6 p7 p8 pl
      go_wp2_with fail
      go_ret
      exact ⟨rfl, HBl.out⟩
theorem big1 (a1 m1 : ByteArray) (mo1 ev1 su1 mx1 : Int) (ta1 : Option Addr) (tl1 tc1 : Nat) (ha1 : Option Addr) (hl1 hc1 : Nat) (a2 m2 : ByteArray) (mo2 ev2 su2 mx2 : Int) (ta2 : Option Addr) (tl2 tc2 : Nat) (ha2 : Option Addr) (hl2 hc2 : Nat) (left1 : Int) (w : World) (hl1' : left1 < 0)
    (hZ1 : ∀ W, Below w.heap.size w W → Calls Tryd.prog 7 #[.agg #[.string a1, .string m1, .int .i64 mo1, .int .i64 ev1, .int .i64 su1, .int .i64 mx1, .slice ta1 tl1 tc1, .slice ha1 hl1 hc1], .int .i64 1048576] W fun e w' => e = .returned (.int .i64 left1) ∧ Below W.heap.size W w') :
    Calls Tryd.prog 3 #[.agg #[.string a1, .string m1, .int .i64 mo1, .int .i64 ev1, .int .i64 su1, .int .i64 mx1, .slice ta1 tl1 tc1, .slice ha1 hl1 hc1], .agg #[.string a2, .string m2, .int .i64 mo2, .int .i64 ev2, .int .i64 su2, .int .i64 mx2, .slice ta2 tl2 tc2, .slice ha2 hl2 hc2]] w fun e w' => e = .returned (.bool true) ∧ Below w.heap.size w w' := by
  have HZ1 := hid_intro hZ1
  clear hZ1
  have HB0 : Hid (Below w.heap.size w ((w.alloc (.cells #[.string a1, .string m1, .int .i64 mo1, .int .i64 ev1, .int .i64 su1, .int .i64 mx1, .slice ta1 tl1 tc1, .slice ha1 hl1 hc1] 25)).alloc (.cells #[.string a2, .string m2, .int .i64 mo2, .int .i64 ev2, .int .i64 su2, .int .i64 mx2, .slice ta2 tl2 tc2, .slice ha2 hl2 hc2] 25))) := hid_intro (((Below.refl _ _).alloc (by simp; try omega) _).alloc (by simp; try omega) _)
  go_enter Tryd.func3, Tryd.ntmps3
  go_wp2_with fail
  refine (HZ1.out _ HB0.out).mono ?_
  rintro e w1 ⟨rfl, hb1⟩
  have HB1 := hid_intro (HB0.out.trans (hb1.mono HB0.out.size))
  clear hb1
  go_wp2_with fail
  go_ret
  exact ⟨rfl, HB1.out⟩
theorem big2 (a1 m1 : ByteArray) (mo1 ev1 su1 mx1 : Int) (ta1 : Option Addr) (tl1 tc1 : Nat) (ha1 : Option Addr) (hl1 hc1 : Nat) (a2 m2 : ByteArray) (mo2 ev2 su2 mx2 : Int) (ta2 : Option Addr) (tl2 tc2 : Nat) (ha2 : Option Addr) (hl2 hc2 : Nat) (left1 left2 : Int) (w : World) (hl1' : ¬ left1 < 0) (hl2' : left2 < 0)
    (hZ1 : ∀ W, Below w.heap.size w W → Calls Tryd.prog 7 #[.agg #[.string a1, .string m1, .int .i64 mo1, .int .i64 ev1, .int .i64 su1, .int .i64 mx1, .slice ta1 tl1 tc1, .slice ha1 hl1 hc1], .int .i64 1048576] W fun e w' => e = .returned (.int .i64 left1) ∧ Below W.heap.size W w')
    (hZ2 : ∀ W, Below w.heap.size w W → Calls Tryd.prog 7 #[.agg #[.string a2, .string m2, .int .i64 mo2, .int .i64 ev2, .int .i64 su2, .int .i64 mx2, .slice ta2 tl2 tc2, .slice ha2 hl2 hc2], .int .i64 left1] W fun e w' => e = .returned (.int .i64 left2) ∧ Below W.heap.size W w') :
    Calls Tryd.prog 3 #[.agg #[.string a1, .string m1, .int .i64 mo1, .int .i64 ev1, .int .i64 su1, .int .i64 mx1, .slice ta1 tl1 tc1, .slice ha1 hl1 hc1], .agg #[.string a2, .string m2, .int .i64 mo2, .int .i64 ev2, .int .i64 su2, .int .i64 mx2, .slice ta2 tl2 tc2, .slice ha2 hl2 hc2]] w fun e w' => e = .returned (.bool true) ∧ Below w.heap.size w w' := by
  have HZ1 := hid_intro hZ1
  have HZ2 := hid_intro hZ2
  clear hZ1 hZ2
  obtain ⟨W0, hW0⟩ : ∃ W0, W0 = ((w.alloc (.cells #[.string a1, .string m1, .int .i64 mo1, .int .i64 ev1, .int .i64 su1, .int .i64 mx1, .slice ta1 tl1 tc1, .slice ha1 hl1 hc1] 25)).alloc (.cells #[.string a2, .string m2, .int .i64 mo2, .int .i64 ev2, .int .i64 su2, .int .i64 mx2, .slice ta2 tl2 tc2, .slice ha2 hl2 hc2] 25)) := ⟨_, rfl⟩
  have HB0 : Hid (Below w.heap.size w W0) := hid_intro (by rw [hW0]; exact ((Below.refl _ _).alloc (by simp; try omega) _).alloc (by simp; try omega) _)
  have HA0 : Hid (Blk w.heap.size [.string a1, .string m1, .int .i64 mo1, .int .i64 ev1, .int .i64 su1, .int .i64 mx1, .slice ta1 tl1 tc1, .slice ha1 hl1 hc1] W0) := hid_intro (by rw [hW0]; exact (Blk.new w [.string a1, .string m1, .int .i64 mo1, .int .i64 ev1, .int .i64 su1, .int .i64 mx1, .slice ta1 tl1 tc1, .slice ha1 hl1 hc1] 25).below ((Below.refl _ _).alloc (Nat.le_refl _) _))
  have HC0 : Hid (Blk (w.heap.size + 1) [.string a2, .string m2, .int .i64 mo2, .int .i64 ev2, .int .i64 su2, .int .i64 mx2, .slice ta2 tl2 tc2, .slice ha2 hl2 hc2] W0) := hid_intro (by
    have := Blk.new (w.alloc (.cells #[.string a1, .string m1, .int .i64 mo1, .int .i64 ev1, .int .i64 su1, .int .i64 mx1, .slice ta1 tl1 tc1, .slice ha1 hl1 hc1] 25)) [.string a2, .string m2, .int .i64 mo2, .int .i64 ev2, .int .i64 su2, .int .i64 mx2, .slice ta2 tl2 tc2, .slice ha2 hl2 hc2] 25
    rw [hW0]
    simp only [World.size_alloc] at this
    exact this)
  have HW := hid_intro hW0
  clear hW0
  go_enter Tryd.func3, Tryd.ntmps3
  have p0 : W0.cell? ⟨w.heap.size, 0, none⟩ = some (.string a1) := HA0.out.2 0 (by simp)
  have p1 : W0.cell? ⟨w.heap.size, 1, none⟩ = some (.string m1) := HA0.out.2 1 (by simp)
  have p2 : W0.cell? ⟨w.heap.size, 2, none⟩ = some (.int .i64 mo1) := HA0.out.2 2 (by simp)
  have p3 : W0.cell? ⟨w.heap.size, 3, none⟩ = some (.int .i64 ev1) := HA0.out.2 3 (by simp)
  have p4 : W0.cell? ⟨w.heap.size, 4, none⟩ = some (.int .i64 su1) := HA0.out.2 4 (by simp)
  have p5 : W0.cell? ⟨w.heap.size, 5, none⟩ = some (.int .i64 mx1) := HA0.out.2 5 (by simp)
  have p6 : W0.cell? ⟨w.heap.size, 6, none⟩ = some (.slice ta1 tl1 tc1) := HA0.out.2 6 (by simp)
  have p7 : W0.cell? ⟨w.heap.size, 7, none⟩ = some (.slice ha1 hl1 hc1) := HA0.out.2 7 (by simp)
  have pl := HA0.out.1
  go_wp2_with fail
  rw [← HW.out]
  refine (HZ1.out _ HB0.out).mono ?_
  rintro e w1 ⟨rfl, hb1⟩
  clear HW
  have HB1 := hid_intro (HB0.out.trans (hb1.mono HB0.out.size))
  have HA1 := hid_intro (HA0.out.below hb1)
  have HC1 := hid_intro (HC0.out.below hb1)
  clear HB0 HA0 HC0
  clear hb1
  clear p0 p1 p2 p3 p4 p5 p6 p7 pl
  have p0 : w1.cell? ⟨w.heap.size + 1, 0, none⟩ = some (.string a2) := HC1.out.2 0 (by simp)
  have p1 : w1.cell? ⟨w.heap.size + 1, 1, none⟩ = some (.string m2) := HC1.out.2 1 (by simp)
  have p2 : w1.cell? ⟨w.heap.size + 1, 2, none⟩ = some (.int .i64 mo2) := HC1.out.2 2 (by simp)
  have p3 : w1.cell? ⟨w.heap.size + 1, 3, none⟩ = some (.int .i64 ev2) := HC1.out.2 3 (by simp)
  have p4 : w1.cell? ⟨w.heap.size + 1, 4, none⟩ = some (.int .i64 su2) := HC1.out.2 4 (by simp)
  have p5 : w1.cell? ⟨w.heap.size + 1, 5, none⟩ = some (.int .i64 mx2) := HC1.out.2 5 (by simp)
  have p6 : w1.cell? ⟨w.heap.size + 1, 6, none⟩ = some (.slice ta2 tl2 tc2) := HC1.out.2 6 (by simp)
  have p7 : w1.cell? ⟨w.heap.size + 1, 7, none⟩ = some (.slice ha2 hl2 hc2) := HC1.out.2 7 (by simp)
  have pl := HC1.out.1
  go_wp2_with fail
  refine (HZ2.out _ HB1.out).mono ?_
  rintro e w2 ⟨rfl, hb2⟩
  have HB2 := hid_intro (HB1.out.trans (hb2.mono HB1.out.size))
  have HA2 := hid_intro (HA1.out.below hb2)
  have HC2 := hid_intro (HC1.out.below hb2)
  clear HB1 HA1 HC1
  clear hb2
  clear p0 p1 p2 p3 p4 p5 p6 p7 pl
  go_wp2_with fail
  go_ret
  exact ⟨rfl, HB2.out⟩
end WindowJoinL
end Go.Proofs.YtmeemmbpkjfleaaDoor
namespace Go.Proofs.YtmeemmbpkjfleaaDoor
open Go.ChangeShapes Go.WideShapes Go.ChangeAt Go.RowKit
set_option linter.unusedVariables false
namespace WinR
open RowG (MadeG Rws)
open EvtR (Pt)
open CatR (Blk Blk.new)
open DateR (Laid)
theorem rws_out {α : Type} {k : Nat} {cells : α → List Value} {z : α} {ao : Option Addr} {xs : List α} {b' t' : Nat} {w w' : World} (h : Rws k cells z ao xs w) (ho : Outs b' t' w w') (hn : xs.length = 0 ∨ ∀ b off, ao = some ⟨b, off, none⟩ → b < b' ∨ t' ≤ b) : Rws k cells z ao xs w' := by
  rcases h with h0 | ⟨b, off, rfl, hlt, hc⟩
  · exact .inl h0
  · rcases hn with h0 | hn
    · exact .inl h0
    · have e := ho.block b hlt (hn b off rfl)
      exact .inr ⟨b, off, rfl, Nat.lt_of_lt_of_le hlt ho.size, fun i hi o ho' => (World.cell?_of_block (a := ⟨b, _, none⟩) e).trans (hc i hi o ho')⟩
/-- A window's lists of one's own, between base and top. -/
def TB (x : Wd) (base top g h : Nat) (W : World) : Prop := base ≤ g ∧ base ≤ h ∧ g ≠ h ∧ top ≤ W.heap.size ∧ Tgs (some ⟨g, 0, none⟩) x.ts W ∧ Hrs (some ⟨h, 0, none⟩) x.hs W ∧ (x.ts.length = 0 ∨ (g < top ∧ Pt g x.ts.length W)) ∧ (x.hs.length = 0 ∨ (h < top ∧ Pt h (x.hs.length * 2) W))
theorem TB.below {x : Wd} {base top g h : Nat} {W W' : World} (t : TB x base top g h W) (hb : Below W.heap.size W W') : TB x base top g h W' := by
  obtain ⟨h1, h2, h3, h4, h5, h6, h7, h8⟩ := t
  exact ⟨h1, h2, h3, Nat.le_trans h4 hb.size, h5.below hb, h6.below hb, h7.imp id (fun ⟨q, r⟩ => ⟨q, r.below hb⟩), h8.imp id (fun ⟨q, r⟩ => ⟨q, r.below hb⟩)⟩
theorem TB.out {x : Wd} {base top g h b' t' : Nat} {W W' : World} (t : TB x base top g h W) (ho : Outs b' t' W W') (hl : t' ≤ base) : TB x base top g h W' := by
  obtain ⟨h1, h2, h3, h4, h5, h6, h7, h8⟩ := t
  exact ⟨h1, h2, h3, Nat.le_trans h4 ho.size, rws_out h5 ho (.inr (fun b off e => by cases e; exact .inr (by omega))), rws_out h6 ho (.inr (fun b off e => by cases e; exact .inr (by omega))), h7.imp id (fun ⟨q, r⟩ => ⟨q, pt_out ho r (.inr (by omega))⟩), h8.imp id (fun ⟨q, r⟩ => ⟨q, pt_out ho r (.inr (by omega))⟩)⟩
theorem TB.tw {x : Wd} {base top g h : Nat} {W : World} (t : TB x base top g h W) : TwW base x (.agg (wcells x (some ⟨g, 0, none⟩) x.ts.length (some ⟨h, 0, none⟩) x.hs.length)) W := by
  obtain ⟨h1, h2, h3, h4, h5, h6, h7, h8⟩ := t
  exact ⟨g, h, rfl, h1, h2, h3, ⟨h5, h7.imp id (fun ⟨_, r⟩ => ⟨g, rfl, h1, by rw [Nat.mul_one]; exact r⟩)⟩, ⟨h6, h8.imp id (fun ⟨_, r⟩ => ⟨h, rfl, h2, r⟩)⟩⟩
theorem tb_of {x : Wd} {base : Nat} {v : Value} {W : World} (hlo : base ≤ W.heap.size) (t : TwW base x v W) : ∃ g h, v = .agg (wcells x (some ⟨g, 0, none⟩) x.ts.length (some ⟨h, 0, none⟩) x.hs.length) ∧ TB x base W.heap.size g h W := by
  obtain ⟨g, h, e, h1, h2, h3, m1, m2⟩ := t
  refine ⟨g, h, e, h1, h2, h3, Nat.le_refl _, m1.rws, m2.rws, m1.own.imp id (fun ⟨q, e1, _, p⟩ => ?_), m2.own.imp id (fun ⟨q, e1, _, p⟩ => ?_)⟩
  · cases e1
    rw [Nat.mul_one] at p
    exact ⟨p.lt, p⟩
  · cases e1
    exact ⟨p.lt, p⟩
/-- An answer whose lists lie between base and top. -/
def NX (z : Wd) (cd : Int) (base top : Nat) (v : Value) (W : World) : Prop := ∃ ta tc ha hc, v = .agg (ocells z ta tc ha hc cd) ∧ Tgs ta z.ts W ∧ Hrs ha z.hs W ∧ (z.ts.length = 0 ∨ ∀ b off, ta = some ⟨b, off, none⟩ → base ≤ b ∧ b < top) ∧ (z.hs.length = 0 ∨ ∀ b off, ha = some ⟨b, off, none⟩ → base ≤ b ∧ b < top)
theorem NX.is {z : Wd} {cd : Int} {base top : Nat} {v : Value} {W : World} (h : NX z cd base top v W) : IsO v z cd W := by
  obtain ⟨ta, tc, ha, hc, e, h1, h2, _⟩ := h
  exact ⟨ta, tc, ha, hc, e, h1, h2⟩
theorem NX.below {z : Wd} {cd : Int} {base top : Nat} {v : Value} {W W' : World} (h : NX z cd base top v W) (hb : Below W.heap.size W W') : NX z cd base top v W' := by
  obtain ⟨ta, tc, ha, hc, e, h1, h2, h3, h4⟩ := h
  exact ⟨ta, tc, ha, hc, e, h1.below hb, h2.below hb, h3, h4⟩
theorem NX.grown {z : Wd} {cd : Int} {base top k : Nat} {v : Value} {W W' : World} (h : NX z cd base top v W) (hg : W.grownBy W' (some k)) (hk : k < base ∨ top ≤ k) : NX z cd base top v W' := by
  obtain ⟨ta, tc, ha, hc, e, h1, h2, h3, h4⟩ := h
  exact ⟨ta, tc, ha, hc, e, Rws.keep h1 hg (h3.imp id (fun q b off e => by have := q b off e; omega)), Rws.keep h2 hg (h4.imp id (fun q b off e => by have := q b off e; omega)), h3, h4⟩
theorem NX.out {z : Wd} {cd : Int} {base top b' t' : Nat} {v : Value} {W W' : World} (h : NX z cd base top v W) (ho : Outs b' t' W W') (hk : top ≤ b' ∨ t' ≤ base) : NX z cd base top v W' := by
  obtain ⟨ta, tc, ha, hc, e, h1, h2, h3, h4⟩ := h
  exact ⟨ta, tc, ha, hc, e, rws_out h1 ho (h3.imp id (fun q b off e => by have := q b off e; omega)), rws_out h2 ho (h4.imp id (fun q b off e => by have := q b off e; omega)), h3, h4⟩
theorem nx_new {z : Wd} {cd : Int} {base : Nat} {v : Value} {W : World} (h : NewO base z cd v W) : NX z cd base W.heap.size v W := by
  obtain ⟨ta, tc, ha, hc, e, h1, h2, h3, h4⟩ := h
  refine ⟨ta, tc, ha, hc, e, h1, h2, ?_, ?_⟩
  · rcases h1 with h0 | ⟨b, off, rfl, hlt, _⟩
    · exact .inl h0
    · exact h3.imp id (fun q b' off' e => ⟨q b' off' e, by cases e; exact hlt⟩)
  · rcases h2 with h0 | ⟨b, off, rfl, hlt, _⟩
    · exact .inl h0
    · exact h4.imp id (fun q b' off' e => ⟨q b' off' e, by cases e; exact hlt⟩)
theorem made_new {base : Nat} {z : Wd} {cd : Int} {v : Value} {W : World} (h : MadeO base z cd v W) : NewO base z cd v W := by
  obtain ⟨ta, tc, ha, hc, e, h1, h2, _⟩ := h
  exact ⟨ta, tc, ha, hc, e, h1.rws, h2.rws, h1.own.imp id (fun ⟨g, e1, e2, _⟩ b off e => by rw [e1] at e; cases e; exact e2), h2.own.imp id (fun ⟨g, e1, e2, _⟩ b off e => by rw [e1] at e; cases e; exact e2)⟩
/-- An answer's lists of one's own, between base and top. -/
def JO (z : Wd) (base top : Nat) (p q : Option Addr) (W : World) : Prop := top ≤ W.heap.size ∧ (z.ts.length = 0 ∨ ∃ g, p = some ⟨g, 0, none⟩ ∧ base ≤ g ∧ g < top ∧ Pt g z.ts.length W) ∧ (z.hs.length = 0 ∨ ∃ g, q = some ⟨g, 0, none⟩ ∧ base ≤ g ∧ g < top ∧ Pt g (z.hs.length * 2) W) ∧ Apart p q z.ts.length z.hs.length
theorem JO.below {z : Wd} {base top : Nat} {p q : Option Addr} {W W' : World} (h : JO z base top p q W) (hb : Below W.heap.size W W') : JO z base top p q W' :=
  ⟨Nat.le_trans h.1 hb.size, h.2.1.imp id (fun ⟨g, e, l, u, r⟩ => ⟨g, e, l, u, r.below hb⟩), h.2.2.1.imp id (fun ⟨g, e, l, u, r⟩ => ⟨g, e, l, u, r.below hb⟩), h.2.2.2⟩
theorem JO.out {z : Wd} {base top b' t' : Nat} {p q : Option Addr} {W W' : World} (h : JO z base top p q W) (ho : Outs b' t' W W') (hl : t' ≤ base) : JO z base top p q W' :=
  ⟨Nat.le_trans h.1 ho.size, h.2.1.imp id (fun ⟨g, e, l, u, r⟩ => ⟨g, e, l, u, pt_out ho r (.inr (by omega))⟩), h.2.2.1.imp id (fun ⟨g, e, l, u, r⟩ => ⟨g, e, l, u, pt_out ho r (.inr (by omega))⟩), h.2.2.2⟩
theorem JO.grown {z : Wd} {base top k : Nat} {p q : Option Addr} {W W' : World} (h : JO z base top p q W) (hg : W.grownBy W' (some k)) (hk : k < base ∨ top ≤ k) : JO z base top p q W' :=
  ⟨Nat.le_trans h.1 hg.size, h.2.1.imp id (fun ⟨g, e, l, u, r⟩ => ⟨g, e, l, u, StR.pt_far r hg (by omega)⟩), h.2.2.1.imp id (fun ⟨g, e, l, u, r⟩ => ⟨g, e, l, u, StR.pt_far r hg (by omega)⟩), h.2.2.2⟩
end WinR
end Go.Proofs.YtmeemmbpkjfleaaDoor
