/-
  FnRate: for all bytes the law's call returns true (of a drawn right meter that is not rated as a whole more costs no less; what it costs from one number to another, and on to a third, it costs from the first to the third; nothing costs nothing), and the bytes read as they did. No condition.
-/
import Derived.Test.YtnhjodlcdfkpnaaDoorDrawRt
import Derived.Test.YtnhjodlcdfkpnaaDoorRtM
import Derived.Test.YtnhjodlcdfkpnaaDoorRtT
import Derived.Test.YtnhjodlcdfkpnaaDoorSent
import Derived.Test.YtnhjodlcdfkpnaaDoorCards
import Derived.Deep.RegionHeld3
import Derived.Deep.CutRange
namespace Go.Proofs.YtnhjodlcdfkpnaaDoor
open Go.ChangeShapes Go.WideShapes Go.ChangeAt Go.RowKit
set_option linter.unusedVariables false
namespace RateLawL
open CatR DrawR
open FixR (Laid out)
theorem hid_intro {p : Prop} (h : p) : Hid p := h
/-- What is held: two meters, two answers. -/
def LX (W0 : World) (bM bX bN bY : Nat) (n1 n2 : ByteArray) (g1 f1 l1 g2 f2 l2 A1 C1 A2 C2 : Int) (h1 h2 : Bool) (ta1 ta2 : Option Addr) (tl1 tc1 tl2 tc2 : Nat) (W : World) : Prop := Below W0.heap.size W0 W ∧ bM < W.heap.size ∧ bX < W.heap.size ∧ bN < W.heap.size ∧ bY < W.heap.size ∧ W.cell? ⟨bM, 0, none⟩ = some (.string n1) ∧ W.cell? ⟨bM, 1, none⟩ = some (.int .i64 g1) ∧ W.cell? ⟨bM, 2, none⟩ = some (.bool h1) ∧ W.cell? ⟨bM, 3, none⟩ = some (.int .i64 f1) ∧ W.cell? ⟨bM, 4, none⟩ = some (.int .i64 l1) ∧ W.cell? ⟨bM, 5, none⟩ = some (.slice ta1 tl1 tc1) ∧ W.cell? ⟨bX, 0, none⟩ = some (.int .i64 A1) ∧ W.cell? ⟨bX, 1, none⟩ = some (.int .i64 0) ∧ W.cell? ⟨bX, 2, none⟩ = some (.int .i64 C1) ∧ W.cell? ⟨bN, 0, none⟩ = some (.string n2) ∧ W.cell? ⟨bN, 1, none⟩ = some (.int .i64 g2) ∧ W.cell? ⟨bN, 2, none⟩ = some (.bool h2) ∧ W.cell? ⟨bN, 3, none⟩ = some (.int .i64 f2) ∧ W.cell? ⟨bN, 4, none⟩ = some (.int .i64 l2) ∧ W.cell? ⟨bN, 5, none⟩ = some (.slice ta2 tl2 tc2) ∧ W.cell? ⟨bY, 0, none⟩ = some (.int .i64 A2) ∧ W.cell? ⟨bY, 1, none⟩ = some (.int .i64 0) ∧ W.cell? ⟨bY, 2, none⟩ = some (.int .i64 C2)
theorem LX.below {W0 : World} {bM bX bN bY : Nat} {n1 n2 : ByteArray} {g1 f1 l1 g2 f2 l2 A1 C1 A2 C2 : Int} {h1 h2 : Bool} {ta1 ta2 : Option Addr} {tl1 tc1 tl2 tc2 : Nat} {W W' : World} (h : LX W0 bM bX bN bY n1 n2 g1 f1 l1 g2 f2 l2 A1 C1 A2 C2 h1 h2 ta1 ta2 tl1 tc1 tl2 tc2 W) (hb : Below W.heap.size W W') : LX W0 bM bX bN bY n1 n2 g1 f1 l1 g2 f2 l2 A1 C1 A2 C2 h1 h2 ta1 ta2 tl1 tc1 tl2 tc2 W' := by
  obtain ⟨h0, k0, k1, k2, k3, c0, c1, c2, c3, c4, c5, c6, c7, c8, c9, c10, c11, c12, c13, c14, c15, c16, c17⟩ := h
  have q0 := fun o => hb.cell (p := ⟨bM, o, none⟩) k0
  have q1 := fun o => hb.cell (p := ⟨bX, o, none⟩) k1
  have q2 := fun o => hb.cell (p := ⟨bN, o, none⟩) k2
  have q3 := fun o => hb.cell (p := ⟨bY, o, none⟩) k3
  have hs := hb.size
  exact ⟨h0.trans (hb.mono h0.size), by omega, by omega, by omega, by omega, (q0 0).trans c0, (q0 1).trans c1, (q0 2).trans c2, (q0 3).trans c3, (q0 4).trans c4, (q0 5).trans c5, (q1 0).trans c6, (q1 1).trans c7, (q1 2).trans c8, (q2 0).trans c9, (q2 1).trans c10, (q2 2).trans c11, (q2 3).trans c12, (q2 4).trans c13, (q2 5).trans c14, (q3 0).trans c15, (q3 1).trans c16, (q3 2).trans c17⟩
theorem LX.drew {W0 : World} {bM bX bN bY : Nat} {n1 n2 : ByteArray} {g1 f1 l1 g2 f2 l2 A1 C1 A2 C2 : Int} {h1 h2 : Bool} {ta1 ta2 : Option Addr} {tl1 tc1 tl2 tc2 : Nat} {W : World} (h : LX W0 bM bX bN bY n1 n2 g1 f1 l1 g2 f2 l2 A1 C1 A2 C2 h1 h2 ta1 ta2 tl1 tc1 tl2 tc2 W) : LX W0 bM bX bN bY n1 n2 g1 f1 l1 g2 f2 l2 A1 C1 A2 C2 h1 h2 ta1 ta2 tl1 tc1 tl2 tc2 W.drew := ⟨h.1.drew, h.2⟩
theorem z3_put {p q : Nat} {w : World} (h : Z3 p w) (hne : p ≠ q) (o : Nat) (v : Value) : Z3 p (w.setCell ⟨q, o, none⟩ v) := by
  obtain ⟨hl, ⟨x0, h0⟩, ⟨x1, h1⟩, ⟨x2, h2⟩, z0, z1, z2⟩ := h
  have e := (RowG.grown_set w q o v).block p hl (by simpa using hne)
  have c := fun i => World.cell?_of_block (a := ⟨p, i, none⟩) e
  have z := fun i => World.frozen?_of_block (a := ⟨p, i, none⟩) e
  exact ⟨by simpa using hl, ⟨x0, (c 0).trans h0⟩, ⟨x1, (c 1).trans h1⟩, ⟨x2, (c 2).trans h2⟩, (z 0).trans z0, (z 1).trans z1, (z 2).trans z2⟩
/-- Three cells written. -/
def st3 (W : World) (p : Nat) (a c : Int) : World := ((W.setCell ⟨p, 0, none⟩ (.int .i64 a)).setCell ⟨p, 1, none⟩ (.int .i64 0)).setCell ⟨p, 2, none⟩ (.int .i64 c)
theorem st3_cells {W : World} {p : Nat} (h : Z3 p W) (a c : Int) : Blk p [.int .i64 a, .int .i64 0, .int .i64 c] (st3 W p a c) := by
  obtain ⟨hl, ⟨x0, h0⟩, ⟨x1, h1⟩, ⟨x2, h2⟩, z0, z1, z2⟩ := h
  refine ⟨by simpa [st3] using hl, fun i hi => ?_⟩
  match i, hi with
  | 0, _ => simp [st3, go_sem, h0]
  | 1, _ => simp [st3, go_sem, h1]
  | 2, _ => simp [st3, go_sem, h2]
theorem st3_grown (W : World) (p : Nat) (a c : Int) : W.grownBy (st3 W p a c) (some p) := Lib.grownBy_trans (Lib.grownBy_trans (RowG.grown_set _ _ _ _) (RowG.grown_set _ _ _ _)) (RowG.grown_set _ _ _ _)
theorem z3_st3 {p q : Nat} {W : World} (h : Z3 p W) (hne : p ≠ q) (a c : Int) : Z3 p (st3 W q a c) := z3_put (z3_put (z3_put h hne _ _) hne _ _) hne _ _
theorem blk_st3 {p q : Nat} {cs : List Value} {W : World} (h : Blk p cs W) (hne : p ≠ q) (a c : Int) : Blk p cs (st3 W q a c) := by
  have e := (st3_grown W q a c).block p h.1 (by simpa using hne)
  exact ⟨by have := (st3_grown W q a c).size; have := h.1; omega, fun i hi => (World.cell?_of_block (a := ⟨p, i, none⟩) e).trans (h.2 i hi)⟩
theorem lx_st3 {W0 : World} {bM bX bN bY : Nat} {n1 n2 : ByteArray} {g1 f1 l1 g2 f2 l2 A1 C1 A2 C2 : Int} {h1 h2 : Bool} {ta1 ta2 : Option Addr} {tl1 tc1 tl2 tc2 : Nat} {W : World} {q : Nat} (h : LX W0 bM bX bN bY n1 n2 g1 f1 l1 g2 f2 l2 A1 C1 A2 C2 h1 h2 ta1 ta2 tl1 tc1 tl2 tc2 W) (hq : W0.heap.size ≤ q) (hb1 : bM < W0.heap.size) (hb2 : bX < W0.heap.size) (hb3 : bN < W0.heap.size) (hb4 : bY < W0.heap.size) (a c : Int) : LX W0 bM bX bN bY n1 n2 g1 f1 l1 g2 f2 l2 A1 C1 A2 C2 h1 h2 ta1 ta2 tl1 tc1 tl2 tc2 (st3 W q a c) := by
  obtain ⟨h0, k0, k1, k2, k3, c0, c1, c2, c3, c4, c5, c6, c7, c8, c9, c10, c11, c12, c13, c14, c15, c16, c17⟩ := h
  have hg := st3_grown W q a c
  have q0 := fun o => World.cell?_of_block (a := ⟨bM, o, none⟩) (hg.block bM k0 (by simp; omega))
  have q1 := fun o => World.cell?_of_block (a := ⟨bX, o, none⟩) (hg.block bX k1 (by simp; omega))
  have q2 := fun o => World.cell?_of_block (a := ⟨bN, o, none⟩) (hg.block bN k2 (by simp; omega))
  have q3 := fun o => World.cell?_of_block (a := ⟨bY, o, none⟩) (hg.block bY k3 (by simp; omega))
  have hs := hg.size
  exact ⟨h0.grown hg h0.size (fun k e => by cases e; exact hq), by omega, by omega, by omega, by omega, (q0 0).trans c0, (q0 1).trans c1, (q0 2).trans c2, (q0 3).trans c3, (q0 4).trans c4, (q0 5).trans c5, (q1 0).trans c6, (q1 1).trans c7, (q1 2).trans c8, (q2 0).trans c9, (q2 1).trans c10, (q2 2).trans c11, (q2 3).trans c12, (q2 4).trans c13, (q2 5).trans c14, (q3 0).trans c15, (q3 1).trans c16, (q3 2).trans c17⟩
set_option maxRecDepth 100000 in
set_option maxHeartbeats 16000000 in
theorem law_in (w : World) (a0 a1 : Option Addr) (len0 cap0 len1 cap1 : Nat) (hl0 : len0 ≤ 1048576) (hl1 : len1 ≤ 1048576) (hB0 : Bytes a0 len0 w) (hB1 : Bytes a1 len1 w) (hL : Laid w) :
    Calls Tryd.prog 5 #[.slice a0 len0 cap0, .slice a1 len1 cap1] w fun e w' => e = .returned (.bool true) ∧ Below w.heap.size w w' := by
  have HL := hid_intro hL
  have HB1 := hid_intro hB1
  have HD0 := hid_intro (rate_any a0 len0 cap0 w hl0 hB0)
  have hl0' : ¬ (1048576 : Int) < (len0 : Int) := by omega
  have hl1' : ¬ (1048576 : Int) < (len1 : Int) := by omega
  have HD1 := hid_intro (fun W (h : Bytes a1 len1 W) => between_any a1 len1 cap1 W hl1 h)
  clear hB0 hB1 hL
  go_enter Tryd.func5, Tryd.ntmps5
  go_wp2_with fail
  refine HD0.out.mono ?_
  rintro e w1 ⟨m1, ta1, tc1, u, rfl, ⟨ht1, hn1, hs1, hb1⟩, hu1, hu2⟩
  have HBw1 := hid_intro hb1
  have M1 := hid_intro (fun W (hb : Below w1.heap.size w1 W) => (⟨ta1, tc1, rfl, ht1.below hb⟩ : IsMe (.agg #[.string m1.n, .int .i64 m1.g, .bool m1.wh, .int .i64 m1.f, .int .i64 m1.l, .slice ta1 m1.ts.length tc1]) m1 W))
  have c1 := hid_intro (fun W hb hL => impl_Rate _ m1 u W hL (by omega) (by omega) (M1.out W hb))
  have c3 := hid_intro (fun W hb => spec_Rate _ m1 u W (by omega) (by omega) (M1.out W hb))
  have c5 := hid_intro (fun W hb => spec_meter _ m1 W (by omega) (by omega) (M1.out W hb))
  have c6 := hid_intro (fun W hb hL => impl_Rate _ m1 0 W hL (by omega) (by omega) (M1.out W hb))
  have c7 := hid_intro (fun W hb hL => impl_Rate _ m1 (u + 1) W hL (by omega) (by omega) (M1.out W hb))
  have F1 : Hid ((rateO m1 u).2 = 0 → m1.wh = false → (rateO m1 (u + 1)).2 = 0 → ¬ (rateO m1 (u + 1)).1 < (rateO m1 u).1) := hid_intro more_no_less
  have F6 : Hid (mB m1 = true → rateO m1 0 = (0, 0)) := hid_intro rate_nil
  have hwu : wrap64 (u + 1) = u + 1 := by unfold wrap64; omega
  obtain ⟨n1, g1, h1, f1, l1, ts1⟩ := m1
  simp only at c1 c3 c5 c6 c7 F1 ht1 hn1 hs1
  generalize rateO ⟨n1, g1, h1, f1, l1, ts1⟩ u = O1 at *
  generalize rateO ⟨n1, g1, h1, f1, l1, ts1⟩ (u + 1) = O3 at *
  generalize rateO ⟨n1, g1, h1, f1, l1, ts1⟩ 0 = O0 at *
  generalize mB ⟨n1, g1, h1, f1, l1, ts1⟩ = r at *
  generalize ts1.length = tl1 at *
  obtain ⟨A1, C1⟩ := O1
  obtain ⟨A3, C3⟩ := O3
  clear hb1 M1 HD0 ht1
  unfold out at c1 c3 c6 c7
  dsimp only at c1 c3 c7 F1
  have HA1 := hid_intro (HBw1.out.alloc HBw1.out.size (.cells #[.string n1, .int .i64 g1, .bool h1, .int .i64 f1, .int .i64 l1, .slice ta1 tl1 tc1] 31))
  have HBs1 := hid_intro ((Below.refl w1.heap.size w1).alloc (Nat.le_refl _) (.cells #[.string n1, .int .i64 g1, .bool h1, .int .i64 f1, .int .i64 l1, .slice ta1 tl1 tc1] 31))
  have HK1 : Hid (Blk w1.heap.size [.string n1, .int .i64 g1, .bool h1, .int .i64 f1, .int .i64 l1, .slice ta1 tl1 tc1] (w1.alloc (.cells #[.string n1, .int .i64 g1, .bool h1, .int .i64 f1, .int .i64 l1, .slice ta1 tl1 tc1] 31))) := hid_intro (Blk.new w1 _ _)
  go_wp2_with fail
  refine (c1.out _ HBs1.out (HL.out.below HA1.out)).mono ?_
  rintro e w2 ⟨rfl, hb2⟩
  have HK2 := hid_intro ((HK1.out.below hb2).alloc (.cells #[.int .i64 A1, .int .i64 0, .int .i64 C1] 27))
  have HX2 : Hid (Blk w2.heap.size [.int .i64 A1, .int .i64 0, .int .i64 C1] (w2.alloc (.cells #[.int .i64 A1, .int .i64 0, .int .i64 C1] 27))) := hid_intro (Blk.new w2 _ _)
  have HBs2' := hid_intro (HBs1.out.trans (hb2.mono HBs1.out.size))
  have HBs2 := hid_intro (HBs2'.out.alloc HBs2'.out.size (.cells #[.int .i64 A1, .int .i64 0, .int .i64 C1] 27))
  have HA2' := hid_intro (HA1.out.trans (hb2.mono HA1.out.size))
  have HA2 := hid_intro (HA2'.out.alloc HA2'.out.size (.cells #[.int .i64 A1, .int .i64 0, .int .i64 C1] 27))
  clear hb2 HK1 HBs1 HA1 HBs2' HA2' c1
  go_wp2_with fail
  refine (HD1.out _ (HB1.out.below HA2.out)).mono ?_
  rintro e w3 ⟨m2, ta2, tc2, lo, hi, rfl, ⟨ht2, hn2, hs2, hb3⟩, ⟨hlo1, hlo2⟩, hhi1, hhi2⟩
  have M2 := hid_intro (fun W (hb : Below w3.heap.size w3 W) => (⟨ta2, tc2, rfl, ht2.below hb⟩ : IsMe (.agg #[.string m2.n, .int .i64 m2.g, .bool m2.wh, .int .i64 m2.f, .int .i64 m2.l, .slice ta2 m2.ts.length tc2]) m2 W))
  have c2 := hid_intro (fun W hb hL => impl_RateBetween _ m2 lo hi W hL (by omega) (by omega) (M2.out W hb))
  have c4 := hid_intro (fun W hb => spec_RateBetween _ m2 lo hi W (by omega) (by omega) (M2.out W hb))
  have c8 := hid_intro (fun W hb hL => impl_RateBetween _ m2 lo (midU lo hi) W hL (by omega) (by omega) (M2.out W hb))
  have c9 := hid_intro (fun W hb hL => impl_RateBetween _ m2 (midU lo hi) hi W hL (by omega) (by omega) (M2.out W hb))
  have F2 : Hid ((rbO m2 lo hi).2 = 0 → (rbO m2 lo (midU lo hi)).2 = 0 → (rbO m2 (midU lo hi) hi).2 = 0 → wrap64 ((rbO m2 lo (midU lo hi)).1 + (rbO m2 (midU lo hi) hi).1) = (rbO m2 lo hi).1) := hid_intro parts_all
  have F3 : Hid ((rbO m2 lo hi).2 = 0 → wrap64 (hi - lo) = hi - lo ∧ wrap64 ((hi - lo).tdiv 2) = (hi - lo).tdiv 2 ∧ wrap64 (lo + (hi - lo).tdiv 2) = midU lo hi) := hid_intro mid_w
  obtain ⟨n2, g2, h2, f2, l2, ts2⟩ := m2
  simp only at c2 c4 c8 c9 ht2 hn2 hs2
  generalize rbO ⟨n2, g2, h2, f2, l2, ts2⟩ lo hi = O2 at *
  generalize rbO ⟨n2, g2, h2, f2, l2, ts2⟩ lo (midU lo hi) = O4 at *
  generalize rbO ⟨n2, g2, h2, f2, l2, ts2⟩ (midU lo hi) hi = O5 at *
  generalize midU lo hi = md at *
  generalize ts2.length = tl2 at *
  obtain ⟨A2, C2⟩ := O2
  obtain ⟨A4, C4⟩ := O4
  obtain ⟨A5, C5⟩ := O5
  unfold out at c2 c4 c8 c9
  dsimp only at c2 c4 c8 c9 F2 F3
  have HK3 := hid_intro ((HK2.out.below hb3).alloc (.cells #[.string n2, .int .i64 g2, .bool h2, .int .i64 f2, .int .i64 l2, .slice ta2 tl2 tc2] 31))
  have HX3 := hid_intro ((HX2.out.below hb3).alloc (.cells #[.string n2, .int .i64 g2, .bool h2, .int .i64 f2, .int .i64 l2, .slice ta2 tl2 tc2] 31))
  have HBs3' := hid_intro (HBs2.out.trans (hb3.mono HBs2.out.size))
  have HBs3 := hid_intro (HBs3'.out.alloc HBs3'.out.size (.cells #[.string n2, .int .i64 g2, .bool h2, .int .i64 f2, .int .i64 l2, .slice ta2 tl2 tc2] 31))
  have HA3' := hid_intro (HA2.out.trans (hb3.mono HA2.out.size))
  have HA3 := hid_intro (HA3'.out.alloc HA3'.out.size (.cells #[.string n2, .int .i64 g2, .bool h2, .int .i64 f2, .int .i64 l2, .slice ta2 tl2 tc2] 31))
  have HBt3 := hid_intro ((Below.refl w3.heap.size w3).alloc (Nat.le_refl _) (.cells #[.string n2, .int .i64 g2, .bool h2, .int .i64 f2, .int .i64 l2, .slice ta2 tl2 tc2] 31))
  have HN3 : Hid (Blk w3.heap.size [.string n2, .int .i64 g2, .bool h2, .int .i64 f2, .int .i64 l2, .slice ta2 tl2 tc2] (w3.alloc (.cells #[.string n2, .int .i64 g2, .bool h2, .int .i64 f2, .int .i64 l2, .slice ta2 tl2 tc2] 31))) := hid_intro (Blk.new w3 _ _)
  clear hb3 HK2 HX2 HBs2 HA2 HBs3' HA3' M2 ht2 HD1
  go_wp2_with fail
  refine (c2.out _ HBt3.out (HL.out.below HA3.out)).mono ?_
  rintro e w4 ⟨rfl, hb4⟩
  have HK4 := hid_intro ((HK3.out.below hb4).alloc (.cells #[.int .i64 A2, .int .i64 0, .int .i64 C2] 27))
  have HX4 := hid_intro ((HX3.out.below hb4).alloc (.cells #[.int .i64 A2, .int .i64 0, .int .i64 C2] 27))
  have HN4 := hid_intro ((HN3.out.below hb4).alloc (.cells #[.int .i64 A2, .int .i64 0, .int .i64 C2] 27))
  have HY4 : Hid (Blk w4.heap.size [.int .i64 A2, .int .i64 0, .int .i64 C2] (w4.alloc (.cells #[.int .i64 A2, .int .i64 0, .int .i64 C2] 27))) := hid_intro (Blk.new w4 _ _)
  have HBs4' := hid_intro (HBs3.out.trans (hb4.mono HBs3.out.size))
  have HBs4 := hid_intro (HBs4'.out.alloc HBs4'.out.size (.cells #[.int .i64 A2, .int .i64 0, .int .i64 C2] 27))
  have HBt4' := hid_intro (HBt3.out.trans (hb4.mono HBt3.out.size))
  have HBt4 := hid_intro (HBt4'.out.alloc HBt4'.out.size (.cells #[.int .i64 A2, .int .i64 0, .int .i64 C2] 27))
  have HA4' := hid_intro (HA3.out.trans (hb4.mono HA3.out.size))
  have HA4 := hid_intro (HA4'.out.alloc HA4'.out.size (.cells #[.int .i64 A2, .int .i64 0, .int .i64 C2] 27))
  clear hb4 HK3 HX3 HN3 HBs3 HBt3 HA3 HBs4' HBt4' HA4' c2
  go_wp2_with fail
  generalize (w4.alloc (.cells #[.int .i64 A2, .int .i64 0, .int .i64 C2] 27)) = W0 at *
  have p0 : W0.cell? ⟨w1.heap.size, 0, none⟩ = some (.string n1) := HK4.out.2 0 (by simp)
  have p1 : W0.cell? ⟨w1.heap.size, 1, none⟩ = some (.int .i64 g1) := HK4.out.2 1 (by simp)
  have p2 : W0.cell? ⟨w1.heap.size, 2, none⟩ = some (.bool h1) := HK4.out.2 2 (by simp)
  have p3 : W0.cell? ⟨w1.heap.size, 3, none⟩ = some (.int .i64 f1) := HK4.out.2 3 (by simp)
  have p4 : W0.cell? ⟨w1.heap.size, 4, none⟩ = some (.int .i64 l1) := HK4.out.2 4 (by simp)
  have p5 : W0.cell? ⟨w1.heap.size, 5, none⟩ = some (.slice ta1 tl1 tc1) := HK4.out.2 5 (by simp)
  have x0 : W0.cell? ⟨w2.heap.size, 0, none⟩ = some (.int .i64 A1) := HX4.out.2 0 (by simp)
  have x1 : W0.cell? ⟨w2.heap.size, 1, none⟩ = some (.int .i64 0) := HX4.out.2 1 (by simp)
  have x2 : W0.cell? ⟨w2.heap.size, 2, none⟩ = some (.int .i64 C1) := HX4.out.2 2 (by simp)
  have q0 : W0.cell? ⟨w3.heap.size, 0, none⟩ = some (.string n2) := HN4.out.2 0 (by simp)
  have q1 : W0.cell? ⟨w3.heap.size, 1, none⟩ = some (.int .i64 g2) := HN4.out.2 1 (by simp)
  have q2 : W0.cell? ⟨w3.heap.size, 2, none⟩ = some (.bool h2) := HN4.out.2 2 (by simp)
  have q3 : W0.cell? ⟨w3.heap.size, 3, none⟩ = some (.int .i64 f2) := HN4.out.2 3 (by simp)
  have q4 : W0.cell? ⟨w3.heap.size, 4, none⟩ = some (.int .i64 l2) := HN4.out.2 4 (by simp)
  have q5 : W0.cell? ⟨w3.heap.size, 5, none⟩ = some (.slice ta2 tl2 tc2) := HN4.out.2 5 (by simp)
  have y0 : W0.cell? ⟨w4.heap.size, 0, none⟩ = some (.int .i64 A2) := HY4.out.2 0 (by simp)
  have y1 : W0.cell? ⟨w4.heap.size, 1, none⟩ = some (.int .i64 0) := HY4.out.2 1 (by simp)
  have y2 : W0.cell? ⟨w4.heap.size, 2, none⟩ = some (.int .i64 C2) := HY4.out.2 2 (by simp)
  have HX0 : Hid (LX W0 w1.heap.size w2.heap.size w3.heap.size w4.heap.size n1 n2 g1 f1 l1 g2 f2 l2 A1 C1 A2 C2 h1 h2 ta1 ta2 tl1 tc1 tl2 tc2 W0) := hid_intro ⟨Below.refl _ _, HK4.out.1, HX4.out.1, HN4.out.1, HY4.out.1, p0, p1, p2, p3, p4, p5, x0, x1, x2, q0, q1, q2, q3, q4, q5, y0, y1, y2⟩
  clear p0 p1 p2 p3 p4 p5 x0 x1 x2 q0 q1 q2 q3 q4 q5 y0 y1 y2 HK4 HX4 HN4 HY4
  have HX1 := hid_intro HX0.out.drew
  have HLT := hid_intro ((⟨HX0.out.2.1, HX0.out.2.2.1, HX0.out.2.2.2.1, HX0.out.2.2.2.2.1⟩ : w1.heap.size < W0.heap.size ∧ w2.heap.size < W0.heap.size ∧ w3.heap.size < W0.heap.size ∧ w4.heap.size < W0.heap.size))
  go_cut [64] from 42 (fun q wx => q = .bool false ∧ Hid (LX W0 w1.heap.size w2.heap.size w3.heap.size w4.heap.size n1 n2 g1 f1 l1 g2 f2 l2 A1 C1 A2 C2 h1 h2 ta1 ta2 tl1 tc1 tl2 tc2 wx))
  case first =>
    cases r
    · refine wp_region_held_drew (S := (fun W => Below W0.heap.size W0 W ∧ w1.heap.size < W.heap.size ∧ w2.heap.size < W.heap.size ∧ w3.heap.size < W.heap.size ∧ w4.heap.size < W.heap.size ∧ W.cell? ⟨w1.heap.size, 0, none⟩ = some (.string n1) ∧ W.cell? ⟨w1.heap.size, 1, none⟩ = some (.int .i64 g1) ∧ W.cell? ⟨w1.heap.size, 2, none⟩ = some (.bool h1) ∧ W.cell? ⟨w1.heap.size, 3, none⟩ = some (.int .i64 f1) ∧ W.cell? ⟨w1.heap.size, 4, none⟩ = some (.int .i64 l1) ∧ W.cell? ⟨w1.heap.size, 5, none⟩ = some (.slice ta1 tl1 tc1) ∧ W.cell? ⟨w2.heap.size, 0, none⟩ = some (.int .i64 A1) ∧ W.cell? ⟨w2.heap.size, 1, none⟩ = some (.int .i64 0) ∧ W.cell? ⟨w2.heap.size, 2, none⟩ = some (.int .i64 C1) ∧ W.cell? ⟨w3.heap.size, 0, none⟩ = some (.string n2) ∧ W.cell? ⟨w3.heap.size, 1, none⟩ = some (.int .i64 g2) ∧ W.cell? ⟨w3.heap.size, 2, none⟩ = some (.bool h2) ∧ W.cell? ⟨w3.heap.size, 3, none⟩ = some (.int .i64 f2) ∧ W.cell? ⟨w3.heap.size, 4, none⟩ = some (.int .i64 l2) ∧ W.cell? ⟨w3.heap.size, 5, none⟩ = some (.slice ta2 tl2 tc2) ∧ W.cell? ⟨w4.heap.size, 0, none⟩ = some (.int .i64 A2) ∧ W.cell? ⟨w4.heap.size, 1, none⟩ = some (.int .i64 0) ∧ W.cell? ⟨w4.heap.size, 2, none⟩ = some (.int .i64 C2))) (by kernel_rfl) HX1.out (fun hHeld => ?_)
      refine wpAnyH_take (i := 0) (oi := { dst := some 42, op := Op.load 27 (Operand.tmp 7), type := 27, pos := "laws.go:422", after := #[], guard := none }) (v := ?_) rfl (by kernel_rfl) (by kernel_rfl) (by kernel_rfl) (fun _ _ _ h => h) (Or.inl ⟨by rfl, ?_⟩) (by assumption) ?_
      rotate_left
      · (intro w hSw; (try dsimp only at hSw); go_simp) <;> with_reducible rfl
      try simp only [Act.put, List.setIfInBounds_toArray, List.set_cons_zero, List.set_cons_succ]
      refine wpAnyH_take (i := 1) (oi := { dst := some 43, op := Op.load 31 (Operand.tmp 5), type := 31, pos := "laws.go:422", after := #[], guard := none }) (v := ?_) rfl (by kernel_rfl) (by kernel_rfl) (by kernel_rfl) (fun _ _ _ h => h) (Or.inl ⟨by rfl, ?_⟩) (by assumption) ?_
      rotate_left
      · (intro w hSw; (try dsimp only at hSw); go_simp) <;> with_reducible rfl
      try simp only [Act.put, List.setIfInBounds_toArray, List.set_cons_zero, List.set_cons_succ]
      refine wpAnyH_take (i := 2) (oi := { dst := some 44, op := Op.move (Operand.tmp 6), type := 2, pos := "laws.go:422", after := #[], guard := none }) (v := ?_) rfl (by kernel_rfl) (by kernel_rfl) (by kernel_rfl) (fun _ _ _ h => h) (Or.inl ⟨by rfl, ?_⟩) (by assumption) ?_
      rotate_left
      · (intro w hSw; (try dsimp only at hSw); go_simp) <;> with_reducible rfl
      try simp only [Act.put, List.setIfInBounds_toArray, List.set_cons_zero, List.set_cons_succ]
      refine wpAnyH_ready (rs := [3]) (by kernel_rfl) (by simp) ?_
      refine AllReadyH.cons (o := { dst := some 45, op := Op.call { callee := Callee.value (Operand.func 7), args := #[Operand.tmp 43, Operand.tmp 44], argTypes := #[31, 2] }, type := 27, pos := "laws.go:422", after := #[{ on := 1, ground := Ground.data }, { on := 2, ground := Ground.data }], guard := none }) rfl (fun K hK => ?_) AllReadyH.nil
      go_simp
      go_at_call 7
      refine (c3.out _ (HBs4.out.trans ((HX1.out).1.mono HBs4.out.size))).mono ?_
      rintro e v1 ⟨rfl, hv1⟩
      try go_wp2_with fail
      have hk1 := LX.below (W0 := W0) (bM := w1.heap.size) (bX := w2.heap.size) (bN := w3.heap.size) (bY := w4.heap.size) (n1 := n1) (n2 := n2) (g1 := g1) (f1 := f1) (l1 := l1) (g2 := g2) (f2 := f2) (l2 := l2) (A1 := A1) (C1 := C1) (A2 := A2) (C2 := C2) (h1 := h1) (h2 := h2) (ta1 := ta1) (ta2 := ta2) (tl1 := tl1) (tc1 := tc1) (tl2 := tl2) (tc2 := tc2) HX1.out hv1
      refine hK.out _ _ hk1 (fun _ => ?_)
      clear hK K
      try simp only [Act.put, List.setIfInBounds_toArray, List.set_cons_zero, List.set_cons_succ]
      refine wpAnyH_take (i := 4) (oi := { dst := some 46, op := Op.binOp BinOp.neq 27 (Operand.tmp 42) (Operand.tmp 45) 27, type := 4, pos := "laws.go:422", after := #[{ on := 0, ground := Ground.data }, { on := 3, ground := Ground.data }], guard := none }) (v := ?_) rfl (by kernel_rfl) (by kernel_rfl) (by kernel_rfl) (fun _ _ _ h => h) (Or.inl ⟨by rfl, ?_⟩) (by assumption) ?_
      rotate_left
      · (intro w hSw; (try dsimp only at hSw); go_simp) <;> with_reducible rfl
      try simp only [Act.put, List.setIfInBounds_toArray, List.set_cons_zero, List.set_cons_succ]
      refine wpAnyH_take (i := 5) (oi := { dst := some 47, op := Op.move (Operand.tmp 46), type := 4, pos := "laws.go:422", after := #[{ on := 4, ground := Ground.data }, { on := 3, ground := Ground.chain }], guard := none }) (v := ?_) rfl (by kernel_rfl) (by kernel_rfl) (by kernel_rfl) (fun _ _ _ h => h) (Or.inl ⟨by rfl, ?_⟩) (by assumption) ?_
      rotate_left
      · (intro w hSw; (try dsimp only at hSw); go_simp) <;> with_reducible rfl
      try simp only [Act.put, List.setIfInBounds_toArray, List.set_cons_zero, List.set_cons_succ]
      refine wpAnyH_take (i := 6) (oi := { dst := some 48, op := Op.load 27 (Operand.tmp 11), type := 27, pos := "laws.go:422", after := #[{ on := 5, ground := Ground.guard }], guard := some (5, false) }) (v := ?_) rfl (by kernel_rfl) (by kernel_rfl) (by kernel_rfl) (fun _ _ _ h => h) (Or.inl ⟨by rfl, ?_⟩) (by assumption) ?_
      rotate_left
      · (intro w hSw; (try dsimp only at hSw); go_simp) <;> with_reducible rfl
      try simp only [Act.put, List.setIfInBounds_toArray, List.set_cons_zero, List.set_cons_succ]
      refine wpAnyH_take (i := 7) (oi := { dst := some 49, op := Op.load 31 (Operand.tmp 8), type := 31, pos := "laws.go:422", after := #[{ on := 5, ground := Ground.guard }], guard := some (5, false) }) (v := ?_) rfl (by kernel_rfl) (by kernel_rfl) (by kernel_rfl) (fun _ _ _ h => h) (Or.inl ⟨by rfl, ?_⟩) (by assumption) ?_
      rotate_left
      · (intro w hSw; (try dsimp only at hSw); go_simp) <;> with_reducible rfl
      try simp only [Act.put, List.setIfInBounds_toArray, List.set_cons_zero, List.set_cons_succ]
      refine wpAnyH_take (i := 8) (oi := { dst := some 50, op := Op.move (Operand.tmp 9), type := 2, pos := "laws.go:422", after := #[{ on := 5, ground := Ground.guard }], guard := some (5, false) }) (v := ?_) rfl (by kernel_rfl) (by kernel_rfl) (by kernel_rfl) (fun _ _ _ h => h) (Or.inl ⟨by rfl, ?_⟩) (by assumption) ?_
      rotate_left
      · (intro w hSw; (try dsimp only at hSw); go_simp) <;> with_reducible rfl
      try simp only [Act.put, List.setIfInBounds_toArray, List.set_cons_zero, List.set_cons_succ]
      refine wpAnyH_take (i := 9) (oi := { dst := some 51, op := Op.move (Operand.tmp 10), type := 2, pos := "laws.go:422", after := #[{ on := 5, ground := Ground.guard }], guard := some (5, false) }) (v := ?_) rfl (by kernel_rfl) (by kernel_rfl) (by kernel_rfl) (fun _ _ _ h => h) (Or.inl ⟨by rfl, ?_⟩) (by assumption) ?_
      rotate_left
      · (intro w hSw; (try dsimp only at hSw); go_simp) <;> with_reducible rfl
      try simp only [Act.put, List.setIfInBounds_toArray, List.set_cons_zero, List.set_cons_succ]
      refine wpAnyH_ready (rs := [10]) (by kernel_rfl) (by simp) ?_
      refine AllReadyH.cons (o := { dst := some 52, op := Op.call { callee := Callee.value (Operand.func 12), args := #[Operand.tmp 49, Operand.tmp 50, Operand.tmp 51], argTypes := #[31, 2, 2] }, type := 27, pos := "laws.go:422", after := #[{ on := 7, ground := Ground.data }, { on := 8, ground := Ground.data }, { on := 9, ground := Ground.data }, { on := 5, ground := Ground.chain }, { on := 5, ground := Ground.guard }], guard := some (5, false) }) rfl (fun K hK => ?_) AllReadyH.nil
      go_simp
      go_at_call 12
      refine (c4.out _ (HBt4.out.trans ((hk1).1.mono HBt4.out.size))).mono ?_
      rintro e v2 ⟨rfl, hv2⟩
      try go_wp2_with fail
      have hk2 := LX.below (W0 := W0) (bM := w1.heap.size) (bX := w2.heap.size) (bN := w3.heap.size) (bY := w4.heap.size) (n1 := n1) (n2 := n2) (g1 := g1) (f1 := f1) (l1 := l1) (g2 := g2) (f2 := f2) (l2 := l2) (A1 := A1) (C1 := C1) (A2 := A2) (C2 := C2) (h1 := h1) (h2 := h2) (ta1 := ta1) (ta2 := ta2) (tl1 := tl1) (tc1 := tc1) (tl2 := tl2) (tc2 := tc2) hk1 hv2
      refine hK.out _ _ hk2 (fun _ => ?_)
      clear hK K
      try simp only [Act.put, List.setIfInBounds_toArray, List.set_cons_zero, List.set_cons_succ]
      refine wpAnyH_take (i := 11) (oi := { dst := some 53, op := Op.binOp BinOp.neq 27 (Operand.tmp 48) (Operand.tmp 52) 27, type := 4, pos := "laws.go:422", after := #[{ on := 6, ground := Ground.data }, { on := 10, ground := Ground.data }, { on := 5, ground := Ground.guard }], guard := some (5, false) }) (v := ?_) rfl (by kernel_rfl) (by kernel_rfl) (by kernel_rfl) (fun _ _ _ h => h) (Or.inl ⟨by rfl, ?_⟩) (by assumption) ?_
      rotate_left
      · (intro w hSw; (try dsimp only at hSw); go_simp) <;> with_reducible rfl
      try simp only [Act.put, List.setIfInBounds_toArray, List.set_cons_zero, List.set_cons_succ]
      refine wpAnyH_take (i := 12) (oi := { dst := some 54, op := Op.pick (Operand.tmp 47) (Operand.const (Value.bool true)) (Operand.tmp 53), type := 4, pos := "laws.go:422", after := #[{ on := 5, ground := Ground.data }, { on := 11, ground := Ground.data }], guard := none }) (v := ?_) rfl (by kernel_rfl) (by kernel_rfl) (by kernel_rfl) (fun _ _ _ h => h) (Or.inl ⟨by rfl, ?_⟩) (by assumption) ?_
      rotate_left
      · (intro w hSw; (try dsimp only at hSw); go_simp) <;> with_reducible rfl
      try simp only [Act.put, List.setIfInBounds_toArray, List.set_cons_zero, List.set_cons_succ]
      refine wpAnyH_take (i := 13) (oi := { dst := some 55, op := Op.move (Operand.tmp 54), type := 4, pos := "laws.go:422", after := #[{ on := 12, ground := Ground.data }, { on := 10, ground := Ground.chain }], guard := none }) (v := ?_) rfl (by kernel_rfl) (by kernel_rfl) (by kernel_rfl) (fun _ _ _ h => h) (Or.inl ⟨by rfl, ?_⟩) (by assumption) ?_
      rotate_left
      · (intro w hSw; (try dsimp only at hSw); go_simp) <;> with_reducible rfl
      try simp only [Act.put, List.setIfInBounds_toArray, List.set_cons_zero, List.set_cons_succ]
      refine wpAnyH_take (i := 14) (oi := { dst := some 56, op := Op.load 31 (Operand.tmp 5), type := 31, pos := "laws.go:422", after := #[{ on := 13, ground := Ground.guard }], guard := some (13, false) }) (v := ?_) rfl (by kernel_rfl) (by kernel_rfl) (by kernel_rfl) (fun _ _ _ h => h) (Or.inl ⟨by rfl, ?_⟩) (by assumption) ?_
      rotate_left
      · (intro w hSw; (try dsimp only at hSw); go_simp) <;> with_reducible rfl
      try simp only [Act.put, List.setIfInBounds_toArray, List.set_cons_zero, List.set_cons_succ]
      refine wpAnyH_ready (rs := [15]) (by kernel_rfl) (by simp) ?_
      refine AllReadyH.cons (o := { dst := some 57, op := Op.call { callee := Callee.value (Operand.func 16), args := #[Operand.tmp 56], argTypes := #[31] }, type := 4, pos := "laws.go:422", after := #[{ on := 14, ground := Ground.data }, { on := 13, ground := Ground.chain }, { on := 13, ground := Ground.guard }], guard := some (13, false) }) rfl (fun K hK => ?_) AllReadyH.nil
      go_simp
      go_at_call 16
      refine (c5.out _ (HBs4.out.trans ((hk2).1.mono HBs4.out.size))).mono ?_
      rintro e v3 ⟨rfl, hv3⟩
      try go_wp2_with fail
      have hk3 := LX.below (W0 := W0) (bM := w1.heap.size) (bX := w2.heap.size) (bN := w3.heap.size) (bY := w4.heap.size) (n1 := n1) (n2 := n2) (g1 := g1) (f1 := f1) (l1 := l1) (g2 := g2) (f2 := f2) (l2 := l2) (A1 := A1) (C1 := C1) (A2 := A2) (C2 := C2) (h1 := h1) (h2 := h2) (ta1 := ta1) (ta2 := ta2) (tl1 := tl1) (tc1 := tc1) (tl2 := tl2) (tc2 := tc2) hk2 hv3
      refine hK.out _ _ hk3 (fun _ => ?_)
      clear hK K
      try simp only [Act.put, List.setIfInBounds_toArray, List.set_cons_zero, List.set_cons_succ]
      refine wpAnyH_take (i := 16) (oi := { dst := some 58, op := Op.move (Operand.tmp 57), type := 4, pos := "laws.go:422", after := #[{ on := 15, ground := Ground.data }, { on := 15, ground := Ground.chain }, { on := 13, ground := Ground.guard }], guard := some (13, false) }) (v := ?_) rfl (by kernel_rfl) (by kernel_rfl) (by kernel_rfl) (fun _ _ _ h => h) (Or.inl ⟨by rfl, ?_⟩) (by assumption) ?_
      rotate_left
      · (intro w hSw; (try dsimp only at hSw); go_simp) <;> with_reducible rfl
      try simp only [Act.put, List.setIfInBounds_toArray, List.set_cons_zero, List.set_cons_succ]
      refine wpAnyH_take (i := 17) (oi := { dst := some 59, op := Op.load 31 (Operand.tmp 5), type := 31, pos := "laws.go:422", after := #[{ on := 16, ground := Ground.guard }], guard := some (16, true) }) (v := undef) rfl (by kernel_rfl) (by kernel_rfl) (by kernel_rfl) (fun _ _ _ h => h) (Or.inr ⟨by rfl, rfl⟩) (by assumption) ?_
      try simp only [Act.put, List.setIfInBounds_toArray, List.set_cons_zero, List.set_cons_succ]
      refine wpAnyH_take (i := 18) (oi := { dst := some 60, op := Op.call { callee := Callee.value (Operand.func 9), args := #[Operand.tmp 59, Operand.const (Value.int IntKind.i64 0)], argTypes := #[31, 2] }, type := 27, pos := "laws.go:422", after := #[{ on := 17, ground := Ground.data }, { on := 16, ground := Ground.chain }, { on := 16, ground := Ground.guard }], guard := some (16, true) }) (v := undef) rfl (by kernel_rfl) (by kernel_rfl) (by kernel_rfl) (fun _ _ _ h => h) (Or.inr ⟨by rfl, rfl⟩) (by assumption) ?_
      try simp only [Act.put, List.setIfInBounds_toArray, List.set_cons_zero, List.set_cons_succ]
      refine wpAnyH_take (i := 19) (oi := { dst := some 61, op := Op.build 27 #[], type := 27, pos := "laws.go:422", after := #[{ on := 16, ground := Ground.guard }], guard := some (16, true) }) (v := undef) rfl (by kernel_rfl) (by kernel_rfl) (by kernel_rfl) (fun _ _ _ h => h) (Or.inr ⟨by rfl, rfl⟩) (by assumption) ?_
      try simp only [Act.put, List.setIfInBounds_toArray, List.set_cons_zero, List.set_cons_succ]
      refine wpAnyH_take (i := 20) (oi := { dst := some 62, op := Op.binOp BinOp.neq 27 (Operand.tmp 60) (Operand.tmp 61) 27, type := 4, pos := "laws.go:422", after := #[{ on := 18, ground := Ground.data }, { on := 19, ground := Ground.data }, { on := 16, ground := Ground.guard }], guard := some (16, true) }) (v := undef) rfl (by kernel_rfl) (by kernel_rfl) (by kernel_rfl) (fun _ _ _ h => h) (Or.inr ⟨by rfl, rfl⟩) (by assumption) ?_
      try simp only [Act.put, List.setIfInBounds_toArray, List.set_cons_zero, List.set_cons_succ]
      refine wpAnyH_take (i := 21) (oi := { dst := some 63, op := Op.pick (Operand.tmp 58) (Operand.tmp 62) (Operand.const (Value.bool false)), type := 4, pos := "laws.go:422", after := #[{ on := 16, ground := Ground.data }, { on := 20, ground := Ground.data }, { on := 13, ground := Ground.guard }], guard := some (13, false) }) (v := ?_) rfl (by kernel_rfl) (by kernel_rfl) (by kernel_rfl) (fun _ _ _ h => h) (Or.inl ⟨by rfl, ?_⟩) (by assumption) ?_
      rotate_left
      · (intro w hSw; (try dsimp only at hSw); go_simp) <;> with_reducible rfl
      try simp only [Act.put, List.setIfInBounds_toArray, List.set_cons_zero, List.set_cons_succ]
      refine wpAnyH_take (i := 22) (oi := { dst := some 64, op := Op.pick (Operand.tmp 55) (Operand.const (Value.bool true)) (Operand.tmp 63), type := 4, pos := "laws.go:422", after := #[{ on := 13, ground := Ground.data }, { on := 21, ground := Ground.data }], guard := none }) (v := ?_) rfl (by kernel_rfl) (by kernel_rfl) (by kernel_rfl) (fun _ _ _ h => h) (Or.inl ⟨by rfl, ?_⟩) (by assumption) ?_
      rotate_left
      · (intro w hSw; (try dsimp only at hSw); go_simp) <;> with_reducible rfl
      try simp only [Act.put, List.setIfInBounds_toArray, List.set_cons_zero, List.set_cons_succ]
      refine wpAnyH_done (by kernel_rfl) ?_ _
      have HE := hid_intro hk3
      clear hk1 hk2 hk3 hv1 hv2 hv3 HX0 HX1 hHeld
      go_wp2_with fail
      go_meet
      case rel => exact ⟨rfl, HE⟩
    · obtain rfl : O0 = (0, 0) := F6.out rfl
      refine wp_region_held_drew (S := (fun W => Below W0.heap.size W0 W ∧ w1.heap.size < W.heap.size ∧ w2.heap.size < W.heap.size ∧ w3.heap.size < W.heap.size ∧ w4.heap.size < W.heap.size ∧ W.cell? ⟨w1.heap.size, 0, none⟩ = some (.string n1) ∧ W.cell? ⟨w1.heap.size, 1, none⟩ = some (.int .i64 g1) ∧ W.cell? ⟨w1.heap.size, 2, none⟩ = some (.bool h1) ∧ W.cell? ⟨w1.heap.size, 3, none⟩ = some (.int .i64 f1) ∧ W.cell? ⟨w1.heap.size, 4, none⟩ = some (.int .i64 l1) ∧ W.cell? ⟨w1.heap.size, 5, none⟩ = some (.slice ta1 tl1 tc1) ∧ W.cell? ⟨w2.heap.size, 0, none⟩ = some (.int .i64 A1) ∧ W.cell? ⟨w2.heap.size, 1, none⟩ = some (.int .i64 0) ∧ W.cell? ⟨w2.heap.size, 2, none⟩ = some (.int .i64 C1) ∧ W.cell? ⟨w3.heap.size, 0, none⟩ = some (.string n2) ∧ W.cell? ⟨w3.heap.size, 1, none⟩ = some (.int .i64 g2) ∧ W.cell? ⟨w3.heap.size, 2, none⟩ = some (.bool h2) ∧ W.cell? ⟨w3.heap.size, 3, none⟩ = some (.int .i64 f2) ∧ W.cell? ⟨w3.heap.size, 4, none⟩ = some (.int .i64 l2) ∧ W.cell? ⟨w3.heap.size, 5, none⟩ = some (.slice ta2 tl2 tc2) ∧ W.cell? ⟨w4.heap.size, 0, none⟩ = some (.int .i64 A2) ∧ W.cell? ⟨w4.heap.size, 1, none⟩ = some (.int .i64 0) ∧ W.cell? ⟨w4.heap.size, 2, none⟩ = some (.int .i64 C2))) (by kernel_rfl) HX1.out (fun hHeld => ?_)
      refine wpAnyH_take (i := 0) (oi := { dst := some 42, op := Op.load 27 (Operand.tmp 7), type := 27, pos := "laws.go:422", after := #[], guard := none }) (v := ?_) rfl (by kernel_rfl) (by kernel_rfl) (by kernel_rfl) (fun _ _ _ h => h) (Or.inl ⟨by rfl, ?_⟩) (by assumption) ?_
      rotate_left
      · (intro w hSw; (try dsimp only at hSw); go_simp) <;> with_reducible rfl
      try simp only [Act.put, List.setIfInBounds_toArray, List.set_cons_zero, List.set_cons_succ]
      refine wpAnyH_take (i := 1) (oi := { dst := some 43, op := Op.load 31 (Operand.tmp 5), type := 31, pos := "laws.go:422", after := #[], guard := none }) (v := ?_) rfl (by kernel_rfl) (by kernel_rfl) (by kernel_rfl) (fun _ _ _ h => h) (Or.inl ⟨by rfl, ?_⟩) (by assumption) ?_
      rotate_left
      · (intro w hSw; (try dsimp only at hSw); go_simp) <;> with_reducible rfl
      try simp only [Act.put, List.setIfInBounds_toArray, List.set_cons_zero, List.set_cons_succ]
      refine wpAnyH_take (i := 2) (oi := { dst := some 44, op := Op.move (Operand.tmp 6), type := 2, pos := "laws.go:422", after := #[], guard := none }) (v := ?_) rfl (by kernel_rfl) (by kernel_rfl) (by kernel_rfl) (fun _ _ _ h => h) (Or.inl ⟨by rfl, ?_⟩) (by assumption) ?_
      rotate_left
      · (intro w hSw; (try dsimp only at hSw); go_simp) <;> with_reducible rfl
      try simp only [Act.put, List.setIfInBounds_toArray, List.set_cons_zero, List.set_cons_succ]
      refine wpAnyH_ready (rs := [3]) (by kernel_rfl) (by simp) ?_
      refine AllReadyH.cons (o := { dst := some 45, op := Op.call { callee := Callee.value (Operand.func 7), args := #[Operand.tmp 43, Operand.tmp 44], argTypes := #[31, 2] }, type := 27, pos := "laws.go:422", after := #[{ on := 1, ground := Ground.data }, { on := 2, ground := Ground.data }], guard := none }) rfl (fun K hK => ?_) AllReadyH.nil
      go_simp
      go_at_call 7
      refine (c3.out _ (HBs4.out.trans ((HX1.out).1.mono HBs4.out.size))).mono ?_
      rintro e v1 ⟨rfl, hv1⟩
      try go_wp2_with fail
      have hk1 := LX.below (W0 := W0) (bM := w1.heap.size) (bX := w2.heap.size) (bN := w3.heap.size) (bY := w4.heap.size) (n1 := n1) (n2 := n2) (g1 := g1) (f1 := f1) (l1 := l1) (g2 := g2) (f2 := f2) (l2 := l2) (A1 := A1) (C1 := C1) (A2 := A2) (C2 := C2) (h1 := h1) (h2 := h2) (ta1 := ta1) (ta2 := ta2) (tl1 := tl1) (tc1 := tc1) (tl2 := tl2) (tc2 := tc2) HX1.out hv1
      refine hK.out _ _ hk1 (fun _ => ?_)
      clear hK K
      try simp only [Act.put, List.setIfInBounds_toArray, List.set_cons_zero, List.set_cons_succ]
      refine wpAnyH_take (i := 4) (oi := { dst := some 46, op := Op.binOp BinOp.neq 27 (Operand.tmp 42) (Operand.tmp 45) 27, type := 4, pos := "laws.go:422", after := #[{ on := 0, ground := Ground.data }, { on := 3, ground := Ground.data }], guard := none }) (v := ?_) rfl (by kernel_rfl) (by kernel_rfl) (by kernel_rfl) (fun _ _ _ h => h) (Or.inl ⟨by rfl, ?_⟩) (by assumption) ?_
      rotate_left
      · (intro w hSw; (try dsimp only at hSw); go_simp) <;> with_reducible rfl
      try simp only [Act.put, List.setIfInBounds_toArray, List.set_cons_zero, List.set_cons_succ]
      refine wpAnyH_take (i := 5) (oi := { dst := some 47, op := Op.move (Operand.tmp 46), type := 4, pos := "laws.go:422", after := #[{ on := 4, ground := Ground.data }, { on := 3, ground := Ground.chain }], guard := none }) (v := ?_) rfl (by kernel_rfl) (by kernel_rfl) (by kernel_rfl) (fun _ _ _ h => h) (Or.inl ⟨by rfl, ?_⟩) (by assumption) ?_
      rotate_left
      · (intro w hSw; (try dsimp only at hSw); go_simp) <;> with_reducible rfl
      try simp only [Act.put, List.setIfInBounds_toArray, List.set_cons_zero, List.set_cons_succ]
      refine wpAnyH_take (i := 6) (oi := { dst := some 48, op := Op.load 27 (Operand.tmp 11), type := 27, pos := "laws.go:422", after := #[{ on := 5, ground := Ground.guard }], guard := some (5, false) }) (v := ?_) rfl (by kernel_rfl) (by kernel_rfl) (by kernel_rfl) (fun _ _ _ h => h) (Or.inl ⟨by rfl, ?_⟩) (by assumption) ?_
      rotate_left
      · (intro w hSw; (try dsimp only at hSw); go_simp) <;> with_reducible rfl
      try simp only [Act.put, List.setIfInBounds_toArray, List.set_cons_zero, List.set_cons_succ]
      refine wpAnyH_take (i := 7) (oi := { dst := some 49, op := Op.load 31 (Operand.tmp 8), type := 31, pos := "laws.go:422", after := #[{ on := 5, ground := Ground.guard }], guard := some (5, false) }) (v := ?_) rfl (by kernel_rfl) (by kernel_rfl) (by kernel_rfl) (fun _ _ _ h => h) (Or.inl ⟨by rfl, ?_⟩) (by assumption) ?_
      rotate_left
      · (intro w hSw; (try dsimp only at hSw); go_simp) <;> with_reducible rfl
      try simp only [Act.put, List.setIfInBounds_toArray, List.set_cons_zero, List.set_cons_succ]
      refine wpAnyH_take (i := 8) (oi := { dst := some 50, op := Op.move (Operand.tmp 9), type := 2, pos := "laws.go:422", after := #[{ on := 5, ground := Ground.guard }], guard := some (5, false) }) (v := ?_) rfl (by kernel_rfl) (by kernel_rfl) (by kernel_rfl) (fun _ _ _ h => h) (Or.inl ⟨by rfl, ?_⟩) (by assumption) ?_
      rotate_left
      · (intro w hSw; (try dsimp only at hSw); go_simp) <;> with_reducible rfl
      try simp only [Act.put, List.setIfInBounds_toArray, List.set_cons_zero, List.set_cons_succ]
      refine wpAnyH_take (i := 9) (oi := { dst := some 51, op := Op.move (Operand.tmp 10), type := 2, pos := "laws.go:422", after := #[{ on := 5, ground := Ground.guard }], guard := some (5, false) }) (v := ?_) rfl (by kernel_rfl) (by kernel_rfl) (by kernel_rfl) (fun _ _ _ h => h) (Or.inl ⟨by rfl, ?_⟩) (by assumption) ?_
      rotate_left
      · (intro w hSw; (try dsimp only at hSw); go_simp) <;> with_reducible rfl
      try simp only [Act.put, List.setIfInBounds_toArray, List.set_cons_zero, List.set_cons_succ]
      refine wpAnyH_ready (rs := [10]) (by kernel_rfl) (by simp) ?_
      refine AllReadyH.cons (o := { dst := some 52, op := Op.call { callee := Callee.value (Operand.func 12), args := #[Operand.tmp 49, Operand.tmp 50, Operand.tmp 51], argTypes := #[31, 2, 2] }, type := 27, pos := "laws.go:422", after := #[{ on := 7, ground := Ground.data }, { on := 8, ground := Ground.data }, { on := 9, ground := Ground.data }, { on := 5, ground := Ground.chain }, { on := 5, ground := Ground.guard }], guard := some (5, false) }) rfl (fun K hK => ?_) AllReadyH.nil
      go_simp
      go_at_call 12
      refine (c4.out _ (HBt4.out.trans ((hk1).1.mono HBt4.out.size))).mono ?_
      rintro e v2 ⟨rfl, hv2⟩
      try go_wp2_with fail
      have hk2 := LX.below (W0 := W0) (bM := w1.heap.size) (bX := w2.heap.size) (bN := w3.heap.size) (bY := w4.heap.size) (n1 := n1) (n2 := n2) (g1 := g1) (f1 := f1) (l1 := l1) (g2 := g2) (f2 := f2) (l2 := l2) (A1 := A1) (C1 := C1) (A2 := A2) (C2 := C2) (h1 := h1) (h2 := h2) (ta1 := ta1) (ta2 := ta2) (tl1 := tl1) (tc1 := tc1) (tl2 := tl2) (tc2 := tc2) hk1 hv2
      refine hK.out _ _ hk2 (fun _ => ?_)
      clear hK K
      try simp only [Act.put, List.setIfInBounds_toArray, List.set_cons_zero, List.set_cons_succ]
      refine wpAnyH_take (i := 11) (oi := { dst := some 53, op := Op.binOp BinOp.neq 27 (Operand.tmp 48) (Operand.tmp 52) 27, type := 4, pos := "laws.go:422", after := #[{ on := 6, ground := Ground.data }, { on := 10, ground := Ground.data }, { on := 5, ground := Ground.guard }], guard := some (5, false) }) (v := ?_) rfl (by kernel_rfl) (by kernel_rfl) (by kernel_rfl) (fun _ _ _ h => h) (Or.inl ⟨by rfl, ?_⟩) (by assumption) ?_
      rotate_left
      · (intro w hSw; (try dsimp only at hSw); go_simp) <;> with_reducible rfl
      try simp only [Act.put, List.setIfInBounds_toArray, List.set_cons_zero, List.set_cons_succ]
      refine wpAnyH_take (i := 12) (oi := { dst := some 54, op := Op.pick (Operand.tmp 47) (Operand.const (Value.bool true)) (Operand.tmp 53), type := 4, pos := "laws.go:422", after := #[{ on := 5, ground := Ground.data }, { on := 11, ground := Ground.data }], guard := none }) (v := ?_) rfl (by kernel_rfl) (by kernel_rfl) (by kernel_rfl) (fun _ _ _ h => h) (Or.inl ⟨by rfl, ?_⟩) (by assumption) ?_
      rotate_left
      · (intro w hSw; (try dsimp only at hSw); go_simp) <;> with_reducible rfl
      try simp only [Act.put, List.setIfInBounds_toArray, List.set_cons_zero, List.set_cons_succ]
      refine wpAnyH_take (i := 13) (oi := { dst := some 55, op := Op.move (Operand.tmp 54), type := 4, pos := "laws.go:422", after := #[{ on := 12, ground := Ground.data }, { on := 10, ground := Ground.chain }], guard := none }) (v := ?_) rfl (by kernel_rfl) (by kernel_rfl) (by kernel_rfl) (fun _ _ _ h => h) (Or.inl ⟨by rfl, ?_⟩) (by assumption) ?_
      rotate_left
      · (intro w hSw; (try dsimp only at hSw); go_simp) <;> with_reducible rfl
      try simp only [Act.put, List.setIfInBounds_toArray, List.set_cons_zero, List.set_cons_succ]
      refine wpAnyH_take (i := 14) (oi := { dst := some 56, op := Op.load 31 (Operand.tmp 5), type := 31, pos := "laws.go:422", after := #[{ on := 13, ground := Ground.guard }], guard := some (13, false) }) (v := ?_) rfl (by kernel_rfl) (by kernel_rfl) (by kernel_rfl) (fun _ _ _ h => h) (Or.inl ⟨by rfl, ?_⟩) (by assumption) ?_
      rotate_left
      · (intro w hSw; (try dsimp only at hSw); go_simp) <;> with_reducible rfl
      try simp only [Act.put, List.setIfInBounds_toArray, List.set_cons_zero, List.set_cons_succ]
      refine wpAnyH_ready (rs := [15]) (by kernel_rfl) (by simp) ?_
      refine AllReadyH.cons (o := { dst := some 57, op := Op.call { callee := Callee.value (Operand.func 16), args := #[Operand.tmp 56], argTypes := #[31] }, type := 4, pos := "laws.go:422", after := #[{ on := 14, ground := Ground.data }, { on := 13, ground := Ground.chain }, { on := 13, ground := Ground.guard }], guard := some (13, false) }) rfl (fun K hK => ?_) AllReadyH.nil
      go_simp
      go_at_call 16
      refine (c5.out _ (HBs4.out.trans ((hk2).1.mono HBs4.out.size))).mono ?_
      rintro e v3 ⟨rfl, hv3⟩
      try go_wp2_with fail
      have hk3 := LX.below (W0 := W0) (bM := w1.heap.size) (bX := w2.heap.size) (bN := w3.heap.size) (bY := w4.heap.size) (n1 := n1) (n2 := n2) (g1 := g1) (f1 := f1) (l1 := l1) (g2 := g2) (f2 := f2) (l2 := l2) (A1 := A1) (C1 := C1) (A2 := A2) (C2 := C2) (h1 := h1) (h2 := h2) (ta1 := ta1) (ta2 := ta2) (tl1 := tl1) (tc1 := tc1) (tl2 := tl2) (tc2 := tc2) hk2 hv3
      refine hK.out _ _ hk3 (fun _ => ?_)
      clear hK K
      try simp only [Act.put, List.setIfInBounds_toArray, List.set_cons_zero, List.set_cons_succ]
      refine wpAnyH_take (i := 16) (oi := { dst := some 58, op := Op.move (Operand.tmp 57), type := 4, pos := "laws.go:422", after := #[{ on := 15, ground := Ground.data }, { on := 15, ground := Ground.chain }, { on := 13, ground := Ground.guard }], guard := some (13, false) }) (v := ?_) rfl (by kernel_rfl) (by kernel_rfl) (by kernel_rfl) (fun _ _ _ h => h) (Or.inl ⟨by rfl, ?_⟩) (by assumption) ?_
      rotate_left
      · (intro w hSw; (try dsimp only at hSw); go_simp) <;> with_reducible rfl
      try simp only [Act.put, List.setIfInBounds_toArray, List.set_cons_zero, List.set_cons_succ]
      refine wpAnyH_take (i := 17) (oi := { dst := some 59, op := Op.load 31 (Operand.tmp 5), type := 31, pos := "laws.go:422", after := #[{ on := 16, ground := Ground.guard }], guard := some (16, true) }) (v := ?_) rfl (by kernel_rfl) (by kernel_rfl) (by kernel_rfl) (fun _ _ _ h => h) (Or.inl ⟨by rfl, ?_⟩) (by assumption) ?_
      rotate_left
      · (intro w hSw; (try dsimp only at hSw); go_simp) <;> with_reducible rfl
      try simp only [Act.put, List.setIfInBounds_toArray, List.set_cons_zero, List.set_cons_succ]
      refine wpAnyH_take (i := 19) (oi := { dst := some 61, op := Op.build 27 #[], type := 27, pos := "laws.go:422", after := #[{ on := 16, ground := Ground.guard }], guard := some (16, true) }) (v := ?_) rfl (by kernel_rfl) (by kernel_rfl) (by kernel_rfl) (fun _ _ _ h => h) (Or.inl ⟨by rfl, ?_⟩) (by assumption) ?_
      rotate_left
      · (intro w hSw; (try dsimp only at hSw); go_simp) <;> with_reducible rfl
      try simp only [Act.put, List.setIfInBounds_toArray, List.set_cons_zero, List.set_cons_succ]
      refine wpAnyH_ready (rs := [18]) (by kernel_rfl) (by simp) ?_
      refine AllReadyH.cons (o := { dst := some 60, op := Op.call { callee := Callee.value (Operand.func 9), args := #[Operand.tmp 59, Operand.const (Value.int IntKind.i64 0)], argTypes := #[31, 2] }, type := 27, pos := "laws.go:422", after := #[{ on := 17, ground := Ground.data }, { on := 16, ground := Ground.chain }, { on := 16, ground := Ground.guard }], guard := some (16, true) }) rfl (fun K hK => ?_) AllReadyH.nil
      go_simp
      go_at_call 9
      refine (c6.out _ (HBs4.out.trans ((hk3).1.mono HBs4.out.size)) (HL.out.below (HA4.out.trans ((hk3).1.mono HA4.out.size)))).mono ?_
      rintro e v4 ⟨rfl, hv4⟩
      try go_wp2_with fail
      have hk4 := LX.below (W0 := W0) (bM := w1.heap.size) (bX := w2.heap.size) (bN := w3.heap.size) (bY := w4.heap.size) (n1 := n1) (n2 := n2) (g1 := g1) (f1 := f1) (l1 := l1) (g2 := g2) (f2 := f2) (l2 := l2) (A1 := A1) (C1 := C1) (A2 := A2) (C2 := C2) (h1 := h1) (h2 := h2) (ta1 := ta1) (ta2 := ta2) (tl1 := tl1) (tc1 := tc1) (tl2 := tl2) (tc2 := tc2) hk3 hv4
      refine hK.out _ _ hk4 (fun _ => ?_)
      clear hK K
      try simp only [Act.put, List.setIfInBounds_toArray, List.set_cons_zero, List.set_cons_succ]
      refine wpAnyH_take (i := 20) (oi := { dst := some 62, op := Op.binOp BinOp.neq 27 (Operand.tmp 60) (Operand.tmp 61) 27, type := 4, pos := "laws.go:422", after := #[{ on := 18, ground := Ground.data }, { on := 19, ground := Ground.data }, { on := 16, ground := Ground.guard }], guard := some (16, true) }) (v := ?_) rfl (by kernel_rfl) (by kernel_rfl) (by kernel_rfl) (fun _ _ _ h => h) (Or.inl ⟨by rfl, ?_⟩) (by assumption) ?_
      rotate_left
      · (intro w hSw; (try dsimp only at hSw); go_simp) <;> with_reducible rfl
      try simp only [Act.put, List.setIfInBounds_toArray, List.set_cons_zero, List.set_cons_succ]
      refine wpAnyH_take (i := 21) (oi := { dst := some 63, op := Op.pick (Operand.tmp 58) (Operand.tmp 62) (Operand.const (Value.bool false)), type := 4, pos := "laws.go:422", after := #[{ on := 16, ground := Ground.data }, { on := 20, ground := Ground.data }, { on := 13, ground := Ground.guard }], guard := some (13, false) }) (v := ?_) rfl (by kernel_rfl) (by kernel_rfl) (by kernel_rfl) (fun _ _ _ h => h) (Or.inl ⟨by rfl, ?_⟩) (by assumption) ?_
      rotate_left
      · (intro w hSw; (try dsimp only at hSw); go_simp) <;> with_reducible rfl
      try simp only [Act.put, List.setIfInBounds_toArray, List.set_cons_zero, List.set_cons_succ]
      refine wpAnyH_take (i := 22) (oi := { dst := some 64, op := Op.pick (Operand.tmp 55) (Operand.const (Value.bool true)) (Operand.tmp 63), type := 4, pos := "laws.go:422", after := #[{ on := 13, ground := Ground.data }, { on := 21, ground := Ground.data }], guard := none }) (v := ?_) rfl (by kernel_rfl) (by kernel_rfl) (by kernel_rfl) (fun _ _ _ h => h) (Or.inl ⟨by rfl, ?_⟩) (by assumption) ?_
      rotate_left
      · (intro w hSw; (try dsimp only at hSw); go_simp) <;> with_reducible rfl
      try simp only [Act.put, List.setIfInBounds_toArray, List.set_cons_zero, List.set_cons_succ]
      refine wpAnyH_done (by kernel_rfl) ?_ _
      have HE := hid_intro hk4
      clear hk1 hk2 hk3 hk4 hv4 hv1 hv2 hv3 HX0 HX1 hHeld
      go_wp2_with fail
      go_meet
      case rel => exact ⟨rfl, HE⟩
  case rest =>
    obtain ⟨rfl, HE⟩ := hcut
    clear HX0 HX1 c3 c4 c5 c6 F6
    have HBD := hid_intro HE.out.1.size
    have bM0 : w1.heap.size < W0.heap.size := HLT.out.1
    have bX0 : w2.heap.size < W0.heap.size := HLT.out.2.1
    have bN0 : w3.heap.size < W0.heap.size := HLT.out.2.2.1
    have bY0 : w4.heap.size < W0.heap.size := HLT.out.2.2.2
    have p0 : wc.cell? ⟨w1.heap.size, 0, none⟩ = some (.string n1) := HE.out.2.2.2.2.2.1
    have p1 : wc.cell? ⟨w1.heap.size, 1, none⟩ = some (.int .i64 g1) := HE.out.2.2.2.2.2.2.1
    have p2 : wc.cell? ⟨w1.heap.size, 2, none⟩ = some (.bool h1) := HE.out.2.2.2.2.2.2.2.1
    have p3 : wc.cell? ⟨w1.heap.size, 3, none⟩ = some (.int .i64 f1) := HE.out.2.2.2.2.2.2.2.2.1
    have p4 : wc.cell? ⟨w1.heap.size, 4, none⟩ = some (.int .i64 l1) := HE.out.2.2.2.2.2.2.2.2.2.1
    have p5 : wc.cell? ⟨w1.heap.size, 5, none⟩ = some (.slice ta1 tl1 tc1) := HE.out.2.2.2.2.2.2.2.2.2.2.1
    have lbM : w1.heap.size < wc.heap.size := HE.out.2.1
    have x0 : wc.cell? ⟨w2.heap.size, 0, none⟩ = some (.int .i64 A1) := HE.out.2.2.2.2.2.2.2.2.2.2.2.1
    have x1 : wc.cell? ⟨w2.heap.size, 1, none⟩ = some (.int .i64 0) := HE.out.2.2.2.2.2.2.2.2.2.2.2.2.1
    have x2 : wc.cell? ⟨w2.heap.size, 2, none⟩ = some (.int .i64 C1) := HE.out.2.2.2.2.2.2.2.2.2.2.2.2.2.1
    have lbX : w2.heap.size < wc.heap.size := HE.out.2.2.1
    go_upto_region 9 with fail
    go_cut [76] from 65 (fun q wx => ∃ t : Bool, q = .bool t ∧ Hid (t = true → C1 = 0 ∧ h1 = false) ∧ Hid (LX W0 w1.heap.size w2.heap.size w3.heap.size w4.heap.size n1 n2 g1 f1 l1 g2 f2 l2 A1 C1 A2 C2 h1 h2 ta1 ta2 tl1 tc1 tl2 tc2 wx))
    case first =>
      by_cases hC : C1 = 0
      · subst hC
        by_cases hU : u < 1000000000000
        · cases h1
          all_goals
            go_wp2_with fail
            go_meet
            case rel => exact ⟨_, rfl, hid_intro (by simp), HE⟩
        · go_wp2_with fail
          go_meet
          case rel => exact ⟨_, rfl, hid_intro (by simp), HE⟩
      · have hC2 : (C1 == 0) = false := by simpa using hC
        go_wp2_with fail
        go_meet
        case rel => exact ⟨_, rfl, hid_intro (by simp), HE⟩
    case rest =>
      clear p0 p1 p2 p3 p4 p5 x0 x1 x2 lbM lbX HE HBD
      obtain ⟨t, rfl, HT, HE⟩ := hcut
      have p0 : wc.cell? ⟨w1.heap.size, 0, none⟩ = some (.string n1) := HE.out.2.2.2.2.2.1
      have p1 : wc.cell? ⟨w1.heap.size, 1, none⟩ = some (.int .i64 g1) := HE.out.2.2.2.2.2.2.1
      have p2 : wc.cell? ⟨w1.heap.size, 2, none⟩ = some (.bool h1) := HE.out.2.2.2.2.2.2.2.1
      have p3 : wc.cell? ⟨w1.heap.size, 3, none⟩ = some (.int .i64 f1) := HE.out.2.2.2.2.2.2.2.2.1
      have p4 : wc.cell? ⟨w1.heap.size, 4, none⟩ = some (.int .i64 l1) := HE.out.2.2.2.2.2.2.2.2.2.1
      have p5 : wc.cell? ⟨w1.heap.size, 5, none⟩ = some (.slice ta1 tl1 tc1) := HE.out.2.2.2.2.2.2.2.2.2.2.1
      have lbM : w1.heap.size < wc.heap.size := HE.out.2.1
      have x0 : wc.cell? ⟨w2.heap.size, 0, none⟩ = some (.int .i64 A1) := HE.out.2.2.2.2.2.2.2.2.2.2.2.1
      have x1 : wc.cell? ⟨w2.heap.size, 1, none⟩ = some (.int .i64 0) := HE.out.2.2.2.2.2.2.2.2.2.2.2.2.1
      have x2 : wc.cell? ⟨w2.heap.size, 2, none⟩ = some (.int .i64 C1) := HE.out.2.2.2.2.2.2.2.2.2.2.2.2.2.1
      have lbX : w2.heap.size < wc.heap.size := HE.out.2.2.1
      have y0 : wc.cell? ⟨w4.heap.size, 0, none⟩ = some (.int .i64 A2) := HE.out.2.2.2.2.2.2.2.2.2.2.2.2.2.2.2.2.2.2.2.2.1
      have y1 : wc.cell? ⟨w4.heap.size, 1, none⟩ = some (.int .i64 0) := HE.out.2.2.2.2.2.2.2.2.2.2.2.2.2.2.2.2.2.2.2.2.2.1
      have y2 : wc.cell? ⟨w4.heap.size, 2, none⟩ = some (.int .i64 C2) := HE.out.2.2.2.2.2.2.2.2.2.2.2.2.2.2.2.2.2.2.2.2.2.2
      have lbY : w4.heap.size < wc.heap.size := HE.out.2.2.2.2.1
      go_upto_if 76 with fail
      go_cut [12] from 77 (fun v wx => Hid (LX W0 w1.heap.size w2.heap.size w3.heap.size w4.heap.size n1 n2 g1 f1 l1 g2 f2 l2 A1 C1 A2 C2 h1 h2 ta1 ta2 tl1 tc1 tl2 tc2 wx))
      case first =>
        cases t
        · go_wp2_with fail
          go_meet
          case rel => exact HE
        · obtain ⟨hC0, hW0⟩ := HT.out rfl
          have F1' : Hid (C3 = 0 → ¬ A3 < A1) := hid_intro (fun h => by have := F1.out hC0 hW0 h; omega)
          clear F1
          subst hC0 hW0
          go_wp2_with fail
          refine (c7.out _ (HBs4.out.trans ((HE.out).1.mono HBs4.out.size)) (HL.out.below (HA4.out.trans ((HE.out).1.mono HA4.out.size)))).mono ?_
          rintro e v5 ⟨rfl, hv5⟩
          have hk5 := LX.below (W0 := W0) (bM := w1.heap.size) (bX := w2.heap.size) (bN := w3.heap.size) (bY := w4.heap.size) (n1 := n1) (n2 := n2) (g1 := g1) (f1 := f1) (l1 := l1) (g2 := g2) (f2 := f2) (l2 := l2) (A1 := A1) (C1 := 0) (A2 := A2) (C2 := C2) (h1 := false) (h2 := h2) (ta1 := ta1) (ta2 := ta2) (tl1 := tl1) (tc1 := tc1) (tl2 := tl2) (tc2 := tc2) HE.out hv5
          have HE5 := hid_intro (LX.below (W0 := W0) (bM := w1.heap.size) (bX := w2.heap.size) (bN := w3.heap.size) (bY := w4.heap.size) (n1 := n1) (n2 := n2) (g1 := g1) (f1 := f1) (l1 := l1) (g2 := g2) (f2 := f2) (l2 := l2) (A1 := A1) (C1 := 0) (A2 := A2) (C2 := C2) (h1 := false) (h2 := h2) (ta1 := ta1) (ta2 := ta2) (tl1 := tl1) (tc1 := tc1) (tl2 := tl2) (tc2 := tc2) hk5 ((Below.refl v5.heap.size v5).alloc (Nat.le_refl _) (.cells #[.int .i64 A3, .int .i64 0, .int .i64 C3] 27)))
          clear p0 p1 p2 p3 p4 p5 x0 x1 x2 lbM lbX y0 y1 y2 lbY hv5
          have x0 : v5.cell? ⟨w2.heap.size, 0, none⟩ = some (.int .i64 A1) := hk5.2.2.2.2.2.2.2.2.2.2.2.1
          have x1 : v5.cell? ⟨w2.heap.size, 1, none⟩ = some (.int .i64 0) := hk5.2.2.2.2.2.2.2.2.2.2.2.2.1
          have x2 : v5.cell? ⟨w2.heap.size, 2, none⟩ = some (.int .i64 0) := hk5.2.2.2.2.2.2.2.2.2.2.2.2.2.1
          have lbX : w2.heap.size < v5.heap.size := hk5.2.2.1
          clear hk5
          by_cases hC3 : C3 = 0
          · subst hC3
            have hlt : ¬ A3 < A1 := by have := F1'.out (by simp); omega
            go_wp2_with fail
            go_meet
            case rel => exact HE5
          · have hC4 : (C3 == 0) = false := by simpa using hC3
            go_wp2_with fail
            go_meet
            case rel => exact HE5
      case rest =>
        clear p0 p1 p2 p3 p4 p5 x0 x1 x2 lbM lbX y0 y1 y2 lbY HE
        have HE := hcut
        clear hcut
        have q0 : wc.cell? ⟨w3.heap.size, 0, none⟩ = some (.string n2) := HE.out.2.2.2.2.2.2.2.2.2.2.2.2.2.2.1
        have q1 : wc.cell? ⟨w3.heap.size, 1, none⟩ = some (.int .i64 g2) := HE.out.2.2.2.2.2.2.2.2.2.2.2.2.2.2.2.1
        have q2 : wc.cell? ⟨w3.heap.size, 2, none⟩ = some (.bool h2) := HE.out.2.2.2.2.2.2.2.2.2.2.2.2.2.2.2.2.1
        have q3 : wc.cell? ⟨w3.heap.size, 3, none⟩ = some (.int .i64 f2) := HE.out.2.2.2.2.2.2.2.2.2.2.2.2.2.2.2.2.2.1
        have q4 : wc.cell? ⟨w3.heap.size, 4, none⟩ = some (.int .i64 l2) := HE.out.2.2.2.2.2.2.2.2.2.2.2.2.2.2.2.2.2.2.1
        have q5 : wc.cell? ⟨w3.heap.size, 5, none⟩ = some (.slice ta2 tl2 tc2) := HE.out.2.2.2.2.2.2.2.2.2.2.2.2.2.2.2.2.2.2.2.1
        have lbN : w3.heap.size < wc.heap.size := HE.out.2.2.2.1
        have y0 : wc.cell? ⟨w4.heap.size, 0, none⟩ = some (.int .i64 A2) := HE.out.2.2.2.2.2.2.2.2.2.2.2.2.2.2.2.2.2.2.2.2.1
        have y1 : wc.cell? ⟨w4.heap.size, 1, none⟩ = some (.int .i64 0) := HE.out.2.2.2.2.2.2.2.2.2.2.2.2.2.2.2.2.2.2.2.2.2.1
        have y2 : wc.cell? ⟨w4.heap.size, 2, none⟩ = some (.int .i64 C2) := HE.out.2.2.2.2.2.2.2.2.2.2.2.2.2.2.2.2.2.2.2.2.2.2
        have lbY : w4.heap.size < wc.heap.size := HE.out.2.2.2.2.1
        by_cases hC2 : C2 = 0
        rotate_left
        · have hC3 : (C2 == 0) = false := by simpa using hC2
          have hC4 : (C2 != 0) = true := by simpa using hC2
          have HBF := hid_intro (HA4.out.trans ((HE.out).1.mono HA4.out.size))
          go_wp2_with fail
          go_ret
          exact ⟨rfl, HBF.out⟩
        subst hC2
        obtain ⟨e1, e2, e3⟩ := F3.out (by simp)
        have F2a : Hid (C4 = 0 → C5 = 0 → wrap64 (A4 + A5) = A2) := hid_intro (fun a b => F2.out (by simp) a b)
        clear F2 F3
        have HE1 := hid_intro HE.out.drew
        go_wp2_with fail
        clear q0 q1 q2 q3 q4 q5 y0 y1 y2 lbN lbY
        refine wp_region_held_drew (S := (fun W => Below W0.heap.size W0 W ∧ w1.heap.size < W.heap.size ∧ w2.heap.size < W.heap.size ∧ w3.heap.size < W.heap.size ∧ w4.heap.size < W.heap.size ∧ W.cell? ⟨w1.heap.size, 0, none⟩ = some (.string n1) ∧ W.cell? ⟨w1.heap.size, 1, none⟩ = some (.int .i64 g1) ∧ W.cell? ⟨w1.heap.size, 2, none⟩ = some (.bool h1) ∧ W.cell? ⟨w1.heap.size, 3, none⟩ = some (.int .i64 f1) ∧ W.cell? ⟨w1.heap.size, 4, none⟩ = some (.int .i64 l1) ∧ W.cell? ⟨w1.heap.size, 5, none⟩ = some (.slice ta1 tl1 tc1) ∧ W.cell? ⟨w2.heap.size, 0, none⟩ = some (.int .i64 A1) ∧ W.cell? ⟨w2.heap.size, 1, none⟩ = some (.int .i64 0) ∧ W.cell? ⟨w2.heap.size, 2, none⟩ = some (.int .i64 C1) ∧ W.cell? ⟨w3.heap.size, 0, none⟩ = some (.string n2) ∧ W.cell? ⟨w3.heap.size, 1, none⟩ = some (.int .i64 g2) ∧ W.cell? ⟨w3.heap.size, 2, none⟩ = some (.bool h2) ∧ W.cell? ⟨w3.heap.size, 3, none⟩ = some (.int .i64 f2) ∧ W.cell? ⟨w3.heap.size, 4, none⟩ = some (.int .i64 l2) ∧ W.cell? ⟨w3.heap.size, 5, none⟩ = some (.slice ta2 tl2 tc2) ∧ W.cell? ⟨w4.heap.size, 0, none⟩ = some (.int .i64 A2) ∧ W.cell? ⟨w4.heap.size, 1, none⟩ = some (.int .i64 0) ∧ W.cell? ⟨w4.heap.size, 2, none⟩ = some (.int .i64 0))) (by kernel_rfl) HE1.out (fun hHeld => ?_)
        generalize wc.drew = kd at *
        refine wpAnyH_take (i := 0) (oi := { dst := some 100, op := Op.load 31 (Operand.tmp 8), type := 31, pos := "laws.go:435", after := #[], guard := none }) (v := ?_) rfl (by kernel_rfl) (by kernel_rfl) (by kernel_rfl) (fun _ _ _ h => h) (Or.inl ⟨by rfl, ?_⟩) (by assumption) ?_
        rotate_left
        · (intro w hSw; (try dsimp only at hSw); go_simp) <;> with_reducible rfl
        try simp only [Act.put, List.setIfInBounds_toArray, List.set_cons_zero, List.set_cons_succ]
        refine wpAnyH_take (i := 1) (oi := { dst := some 101, op := Op.move (Operand.tmp 9), type := 2, pos := "laws.go:435", after := #[], guard := none }) (v := ?_) rfl (by kernel_rfl) (by kernel_rfl) (by kernel_rfl) (fun _ _ _ h => h) (Or.inl ⟨by rfl, ?_⟩) (by assumption) ?_
        rotate_left
        · (intro w hSw; (try dsimp only at hSw); go_simp) <;> with_reducible rfl
        try simp only [Act.put, List.setIfInBounds_toArray, List.set_cons_zero, List.set_cons_succ]
        refine wpAnyH_take (i := 2) (oi := { dst := some 102, op := Op.move (Operand.tmp 13), type := 2, pos := "laws.go:435", after := #[], guard := none }) (v := ?_) rfl (by kernel_rfl) (by kernel_rfl) (by kernel_rfl) (fun _ _ _ h => h) (Or.inl ⟨by rfl, ?_⟩) (by assumption) ?_
        rotate_left
        · (intro w hSw; (try dsimp only at hSw); go_simp) <;> with_reducible rfl
        try simp only [Act.put, List.setIfInBounds_toArray, List.set_cons_zero, List.set_cons_succ]
        refine wpAnyH_take (i := 4) (oi := { dst := some 104, op := Op.load 31 (Operand.tmp 8), type := 31, pos := "laws.go:435", after := #[], guard := none }) (v := ?_) rfl (by kernel_rfl) (by kernel_rfl) (by kernel_rfl) (fun _ _ _ h => h) (Or.inl ⟨by rfl, ?_⟩) (by assumption) ?_
        rotate_left
        · (intro w hSw; (try dsimp only at hSw); go_simp) <;> with_reducible rfl
        try simp only [Act.put, List.setIfInBounds_toArray, List.set_cons_zero, List.set_cons_succ]
        refine wpAnyH_take (i := 5) (oi := { dst := some 105, op := Op.move (Operand.tmp 13), type := 2, pos := "laws.go:435", after := #[], guard := none }) (v := ?_) rfl (by kernel_rfl) (by kernel_rfl) (by kernel_rfl) (fun _ _ _ h => h) (Or.inl ⟨by rfl, ?_⟩) (by assumption) ?_
        rotate_left
        · (intro w hSw; (try dsimp only at hSw); go_simp) <;> with_reducible rfl
        try simp only [Act.put, List.setIfInBounds_toArray, List.set_cons_zero, List.set_cons_succ]
        refine wpAnyH_take (i := 6) (oi := { dst := some 106, op := Op.move (Operand.tmp 10), type := 2, pos := "laws.go:435", after := #[], guard := none }) (v := ?_) rfl (by kernel_rfl) (by kernel_rfl) (by kernel_rfl) (fun _ _ _ h => h) (Or.inl ⟨by rfl, ?_⟩) (by assumption) ?_
        rotate_left
        · (intro w hSw; (try dsimp only at hSw); go_simp) <;> with_reducible rfl
        try simp only [Act.put, List.setIfInBounds_toArray, List.set_cons_zero, List.set_cons_succ]
        refine wpAnyH_ready (rs := [3, 8, 9]) (by kernel_rfl) (by simp) ?_
        refine AllReadyH.cons (o := { dst := some 103, op := Op.call { callee := Callee.value (Operand.func 13), args := #[Operand.tmp 100, Operand.tmp 101, Operand.tmp 102], argTypes := #[31, 2, 2] }, type := 27, pos := "laws.go:435", after := #[{ on := 0, ground := Ground.data }, { on := 1, ground := Ground.data }, { on := 2, ground := Ground.data }], guard := none }) rfl (fun K hK => ?_) (AllReadyH.cons (o := { dst := some 14, op := Op.alloc 27, type := 0, pos := "laws.go:435", after := #[], guard := none }) rfl (fun K hK => ?_) (AllReadyH.cons (o := { dst := some 15, op := Op.alloc 27, type := 0, pos := "laws.go:435", after := #[], guard := none }) rfl (fun K hK => ?_) AllReadyH.nil))
        · go_simp
          go_at_call 13
          refine (c8.out _ (HBt4.out.trans ((HE1.out).1.mono HBt4.out.size)) (HL.out.below (HA4.out.trans ((HE1.out).1.mono HA4.out.size)))).mono ?_
          rintro e t1 ⟨rfl, ht1⟩
          try go_wp2_with fail
          have hh1 := LX.below (W0 := W0) (bM := w1.heap.size) (bX := w2.heap.size) (bN := w3.heap.size) (bY := w4.heap.size) (n1 := n1) (n2 := n2) (g1 := g1) (f1 := f1) (l1 := l1) (g2 := g2) (f2 := f2) (l2 := l2) (A1 := A1) (C1 := C1) (A2 := A2) (C2 := 0) (h1 := h1) (h2 := h2) (ta1 := ta1) (ta2 := ta2) (tl1 := tl1) (tc1 := tc1) (tl2 := tl2) (tc2 := tc2) HE1.out ht1
          refine hK.out _ _ hh1 (fun _ => ?_)
          clear hK K
          try simp only [Act.put, List.setIfInBounds_toArray, List.set_cons_zero, List.set_cons_succ]
          refine wpAnyH_ready (rs := [7, 8, 9]) (by kernel_rfl) (by simp) ?_
          refine AllReadyH.cons (o := { dst := some 107, op := Op.call { callee := Callee.value (Operand.func 13), args := #[Operand.tmp 104, Operand.tmp 105, Operand.tmp 106], argTypes := #[31, 2, 2] }, type := 27, pos := "laws.go:435", after := #[{ on := 4, ground := Ground.data }, { on := 5, ground := Ground.data }, { on := 6, ground := Ground.data }, { on := 3, ground := Ground.chain }], guard := none }) rfl (fun K hK => ?_) (AllReadyH.cons (o := { dst := some 14, op := Op.alloc 27, type := 0, pos := "laws.go:435", after := #[], guard := none }) rfl (fun K hK => ?_) (AllReadyH.cons (o := { dst := some 15, op := Op.alloc 27, type := 0, pos := "laws.go:435", after := #[], guard := none }) rfl (fun K hK => ?_) AllReadyH.nil))
          · go_simp
            go_at_call 13
            refine (c9.out _ (HBt4.out.trans ((hh1).1.mono HBt4.out.size)) (HL.out.below (HA4.out.trans ((hh1).1.mono HA4.out.size)))).mono ?_
            rintro e t2 ⟨rfl, ht2⟩
            try go_wp2_with fail
            have hh2 := LX.below (W0 := W0) (bM := w1.heap.size) (bX := w2.heap.size) (bN := w3.heap.size) (bY := w4.heap.size) (n1 := n1) (n2 := n2) (g1 := g1) (f1 := f1) (l1 := l1) (g2 := g2) (f2 := f2) (l2 := l2) (A1 := A1) (C1 := C1) (A2 := A2) (C2 := 0) (h1 := h1) (h2 := h2) (ta1 := ta1) (ta2 := ta2) (tl1 := tl1) (tc1 := tc1) (tl2 := tl2) (tc2 := tc2) hh1 ht2
            refine hK.out _ _ hh2 (fun _ => ?_)
            clear hK K
            try simp only [Act.put, List.setIfInBounds_toArray, List.set_cons_zero, List.set_cons_succ]
            refine wpAnyH_ready (rs := [8, 9]) (by kernel_rfl) (by simp) ?_
            refine AllReadyH.cons (o := { dst := some 14, op := Op.alloc 27, type := 0, pos := "laws.go:435", after := #[], guard := none }) rfl (fun K hK => ?_) (AllReadyH.cons (o := { dst := some 15, op := Op.alloc 27, type := 0, pos := "laws.go:435", after := #[], guard := none }) rfl (fun K hK => ?_) AllReadyH.nil)
            · go_simp
              try go_wp2_with fail
              have hh3 := LX.below (W0 := W0) (bM := w1.heap.size) (bX := w2.heap.size) (bN := w3.heap.size) (bY := w4.heap.size) (n1 := n1) (n2 := n2) (g1 := g1) (f1 := f1) (l1 := l1) (g2 := g2) (f2 := f2) (l2 := l2) (A1 := A1) (C1 := C1) (A2 := A2) (C2 := 0) (h1 := h1) (h2 := h2) (ta1 := ta1) (ta2 := ta2) (tl1 := tl1) (tc1 := tc1) (tl2 := tl2) (tc2 := tc2) hh2 ((Below.refl t2.heap.size t2).alloc (Nat.le_refl _) (Obj.cells #[.int .i64 0, .int .i64 0, .int .i64 0] 27))
              have z14_3 := Z3.new t2 27
              have hlo3 : W0.heap.size ≤ t2.heap.size := (hh2).1.size
              refine hK.out _ _ hh3 (fun _ => ?_)
              clear hK K
              try simp only [Act.put, List.setIfInBounds_toArray, List.set_cons_zero, List.set_cons_succ]
              generalize (t2.alloc (Obj.cells #[.int .i64 0, .int .i64 0, .int .i64 0] 27)) = k3 at *
              refine wpAnyH_ready (rs := [9]) (by kernel_rfl) (by simp) ?_
              refine AllReadyH.cons (o := { dst := some 15, op := Op.alloc 27, type := 0, pos := "laws.go:435", after := #[], guard := none }) rfl (fun K hK => ?_) AllReadyH.nil
              go_simp
              try go_wp2_with fail
              have hh4 := LX.below (W0 := W0) (bM := w1.heap.size) (bX := w2.heap.size) (bN := w3.heap.size) (bY := w4.heap.size) (n1 := n1) (n2 := n2) (g1 := g1) (f1 := f1) (l1 := l1) (g2 := g2) (f2 := f2) (l2 := l2) (A1 := A1) (C1 := C1) (A2 := A2) (C2 := 0) (h1 := h1) (h2 := h2) (ta1 := ta1) (ta2 := ta2) (tl1 := tl1) (tc1 := tc1) (tl2 := tl2) (tc2 := tc2) hh3 ((Below.refl k3.heap.size k3).alloc (Nat.le_refl _) (Obj.cells #[.int .i64 0, .int .i64 0, .int .i64 0] 27))
              have z14_4 := z14_3.below ((Below.refl k3.heap.size k3).alloc (Nat.le_refl _) (Obj.cells #[.int .i64 0, .int .i64 0, .int .i64 0] 27))
              have hne4 : t2.heap.size ≠ k3.heap.size := by have := z14_3.1; omega
              have z15_4 := Z3.new k3 27
              have hlo4 : W0.heap.size ≤ k3.heap.size := (hh3).1.size
              refine hK.out _ _ hh4 (fun _ => ?_)
              clear hK K
              try simp only [Act.put, List.setIfInBounds_toArray, List.set_cons_zero, List.set_cons_succ]
              generalize (k3.alloc (Obj.cells #[.int .i64 0, .int .i64 0, .int .i64 0] 27)) = k4 at *
              refine wpAnyH_ready (rs := [10]) (by kernel_rfl) (by simp) ?_
              refine AllReadyH.cons (o := { dst := none, op := Op.store 27 (Operand.tmp 14) (Operand.tmp 103), type := 0, pos := "laws.go:435", after := #[{ on := 8, ground := Ground.data }, { on := 3, ground := Ground.data }, { on := 7, ground := Ground.chain }, { on := 0, ground := Ground.phase }, { on := 1, ground := Ground.phase }, { on := 2, ground := Ground.phase }, { on := 3, ground := Ground.phase }, { on := 4, ground := Ground.textOnly Departure.lateStores }, { on := 5, ground := Ground.textOnly Departure.lateStores }, { on := 6, ground := Ground.textOnly Departure.lateStores }, { on := 7, ground := Ground.textOnly Departure.lateStoresUnsure }, { on := 8, ground := Ground.phase }, { on := 9, ground := Ground.phase }], guard := none }) rfl (fun K hK => ?_) AllReadyH.nil
              have zz5 := z14_4
              obtain ⟨zl5, ⟨e05, u05⟩, ⟨e15, u15⟩, ⟨e25, u25⟩, w05, w15, w25⟩ := zz5
              go_simp
              try go_wp2_with fail
              have hb5 : Blk t2.heap.size [.int .i64 A4, .int .i64 0, .int .i64 C4] (st3 k4 t2.heap.size A4 C4) := st3_cells z14_4 A4 C4
              have hh5 : LX W0 w1.heap.size w2.heap.size w3.heap.size w4.heap.size n1 n2 g1 f1 l1 g2 f2 l2 A1 C1 A2 0 h1 h2 ta1 ta2 tl1 tc1 tl2 tc2 (st3 k4 t2.heap.size A4 C4) := lx_st3 hh4 hlo3 bM0 bX0 bN0 bY0 A4 C4
              have z15_5 := z3_st3 z15_4 (fun e => hne4 e.symm) A4 C4
              unfold st3 at hh5 hb5 z15_5
              refine hK.out _ _ hh5 (fun _ => ?_)
              clear hK K
              try simp only [Act.put, List.setIfInBounds_toArray, List.set_cons_zero, List.set_cons_succ]
              refine wpAnyH_ready (rs := [11]) (by kernel_rfl) (by simp) ?_
              refine AllReadyH.cons (o := { dst := none, op := Op.store 27 (Operand.tmp 15) (Operand.tmp 107), type := 0, pos := "laws.go:435", after := #[{ on := 9, ground := Ground.data }, { on := 7, ground := Ground.data }, { on := 10, ground := Ground.chain }, { on := 0, ground := Ground.phase }, { on := 1, ground := Ground.phase }, { on := 2, ground := Ground.phase }, { on := 3, ground := Ground.phase }, { on := 4, ground := Ground.phase }, { on := 5, ground := Ground.phase }, { on := 6, ground := Ground.phase }, { on := 7, ground := Ground.phase }, { on := 8, ground := Ground.phase }, { on := 9, ground := Ground.phase }, { on := 10, ground := Ground.phase }], guard := none }) rfl (fun K hK => ?_) AllReadyH.nil
              have zz6 := z15_5
              obtain ⟨zl6, ⟨e06, u06⟩, ⟨e16, u16⟩, ⟨e26, u26⟩, w06, w16, w26⟩ := zz6
              go_simp
              try go_wp2_with fail
              have hb6 : Blk k3.heap.size [.int .i64 A5, .int .i64 0, .int .i64 C5] (st3 (((k4.setCell ⟨t2.heap.size, 0, none⟩ (.int .i64 A4)).setCell ⟨t2.heap.size, 1, none⟩ (.int .i64 0)).setCell ⟨t2.heap.size, 2, none⟩ (.int .i64 C4)) k3.heap.size A5 C5) := st3_cells z15_5 A5 C5
              have hh6 : LX W0 w1.heap.size w2.heap.size w3.heap.size w4.heap.size n1 n2 g1 f1 l1 g2 f2 l2 A1 C1 A2 0 h1 h2 ta1 ta2 tl1 tc1 tl2 tc2 (st3 (((k4.setCell ⟨t2.heap.size, 0, none⟩ (.int .i64 A4)).setCell ⟨t2.heap.size, 1, none⟩ (.int .i64 0)).setCell ⟨t2.heap.size, 2, none⟩ (.int .i64 C4)) k3.heap.size A5 C5) := lx_st3 hh5 hlo4 bM0 bX0 bN0 bY0 A5 C5
              have hc6 := blk_st3 hb5 hne4 A5 C5
              unfold st3 at hh6 hb6 hc6
              refine hK.out _ _ hh6 (fun _ => ?_)
              clear hK K
              try simp only [Act.put, List.setIfInBounds_toArray, List.set_cons_zero, List.set_cons_succ]
              refine wpAnyH_done (by kernel_rfl) ?_ _
              have HE := hid_intro hh6
              have HP := hid_intro hc6
              have HQ := hid_intro hb6
              have s0 := HP.out.2 0 (by simp)
              have s2 := HP.out.2 2 (by simp)
              have r0 := HQ.out.2 0 (by simp)
              have r2 := HQ.out.2 2 (by simp)
              have ls := HP.out.1
              have lr := HQ.out.1
              simp only [List.getElem?_cons_zero, List.getElem?_cons_succ] at s0 s2 r0 r2
              have y0 : ((((((k4.setCell ⟨t2.heap.size, 0, none⟩ (.int .i64 A4)).setCell ⟨t2.heap.size, 1, none⟩ (.int .i64 0)).setCell ⟨t2.heap.size, 2, none⟩ (.int .i64 C4)).setCell ⟨k3.heap.size, 0, none⟩ (.int .i64 A5)).setCell ⟨k3.heap.size, 1, none⟩ (.int .i64 0)).setCell ⟨k3.heap.size, 2, none⟩ (.int .i64 C5)).cell? ⟨w4.heap.size, 0, none⟩ = some (.int .i64 A2) := HE.out.2.2.2.2.2.2.2.2.2.2.2.2.2.2.2.2.2.2.2.2.1
              have y1 : ((((((k4.setCell ⟨t2.heap.size, 0, none⟩ (.int .i64 A4)).setCell ⟨t2.heap.size, 1, none⟩ (.int .i64 0)).setCell ⟨t2.heap.size, 2, none⟩ (.int .i64 C4)).setCell ⟨k3.heap.size, 0, none⟩ (.int .i64 A5)).setCell ⟨k3.heap.size, 1, none⟩ (.int .i64 0)).setCell ⟨k3.heap.size, 2, none⟩ (.int .i64 C5)).cell? ⟨w4.heap.size, 1, none⟩ = some (.int .i64 0) := HE.out.2.2.2.2.2.2.2.2.2.2.2.2.2.2.2.2.2.2.2.2.2.1
              have y2 : ((((((k4.setCell ⟨t2.heap.size, 0, none⟩ (.int .i64 A4)).setCell ⟨t2.heap.size, 1, none⟩ (.int .i64 0)).setCell ⟨t2.heap.size, 2, none⟩ (.int .i64 C4)).setCell ⟨k3.heap.size, 0, none⟩ (.int .i64 A5)).setCell ⟨k3.heap.size, 1, none⟩ (.int .i64 0)).setCell ⟨k3.heap.size, 2, none⟩ (.int .i64 C5)).cell? ⟨w4.heap.size, 2, none⟩ = some (.int .i64 0) := HE.out.2.2.2.2.2.2.2.2.2.2.2.2.2.2.2.2.2.2.2.2.2.2
              have lbY : w4.heap.size < ((((((k4.setCell ⟨t2.heap.size, 0, none⟩ (.int .i64 A4)).setCell ⟨t2.heap.size, 1, none⟩ (.int .i64 0)).setCell ⟨t2.heap.size, 2, none⟩ (.int .i64 C4)).setCell ⟨k3.heap.size, 0, none⟩ (.int .i64 A5)).setCell ⟨k3.heap.size, 1, none⟩ (.int .i64 0)).setCell ⟨k3.heap.size, 2, none⟩ (.int .i64 C5)).heap.size := HE.out.2.2.2.2.1
              have HBF := hid_intro (HA4.out.trans ((HE.out).1.mono HA4.out.size))
              clear HE HP HQ
              try clear w26
              try clear w16
              try clear w06
              try clear u26
              try clear u16
              try clear u06
              try clear zl6
              try clear hc6
              try clear hh6
              try clear hb6
              try clear zz6
              try clear w25
              try clear w15
              try clear w05
              try clear u25
              try clear u15
              try clear u05
              try clear zl5
              try clear z15_5
              try clear hh5
              try clear hb5
              try clear zz5
              try clear hlo4
              try clear z15_4
              try clear hne4
              try clear z14_4
              try clear hh4
              try clear hlo3
              try clear z14_3
              try clear hh3
              try clear ht2
              try clear hh2
              try clear ht1
              try clear hh1
              generalize ((((((k4.setCell ⟨t2.heap.size, 0, none⟩ (.int .i64 A4)).setCell ⟨t2.heap.size, 1, none⟩ (.int .i64 0)).setCell ⟨t2.heap.size, 2, none⟩ (.int .i64 C4)).setCell ⟨k3.heap.size, 0, none⟩ (.int .i64 A5)).setCell ⟨k3.heap.size, 1, none⟩ (.int .i64 0)).setCell ⟨k3.heap.size, 2, none⟩ (.int .i64 C5)) = WZ at *
              by_cases h4 : C4 = 0
              · have n4 : (C4 != 0) = false := by simpa using h4
                by_cases h5 : C5 = 0
                · have n5 : (C5 != 0) = false := by simpa using h5
                  have e5 := F2a.out h4 h5
                  go_wp2_with fail
                  go_ret
                  exact ⟨ret_bool (by first | (simp; done) | (simp [e5]; done)), HBF.out⟩
                · have n5 : (C5 != 0) = true := by simpa using h5
                  go_wp2_with fail
                  go_ret
                  exact ⟨rfl, HBF.out⟩
              · have n4 : (C4 != 0) = true := by simpa using h4
                go_wp2_with fail
                go_ret
                exact ⟨rfl, HBF.out⟩
            · go_simp
              try go_wp2_with fail
              have hh3 := LX.below (W0 := W0) (bM := w1.heap.size) (bX := w2.heap.size) (bN := w3.heap.size) (bY := w4.heap.size) (n1 := n1) (n2 := n2) (g1 := g1) (f1 := f1) (l1 := l1) (g2 := g2) (f2 := f2) (l2 := l2) (A1 := A1) (C1 := C1) (A2 := A2) (C2 := 0) (h1 := h1) (h2 := h2) (ta1 := ta1) (ta2 := ta2) (tl1 := tl1) (tc1 := tc1) (tl2 := tl2) (tc2 := tc2) hh2 ((Below.refl t2.heap.size t2).alloc (Nat.le_refl _) (Obj.cells #[.int .i64 0, .int .i64 0, .int .i64 0] 27))
              have z15_3 := Z3.new t2 27
              have hlo3 : W0.heap.size ≤ t2.heap.size := (hh2).1.size
              refine hK.out _ _ hh3 (fun _ => ?_)
              clear hK K
              try simp only [Act.put, List.setIfInBounds_toArray, List.set_cons_zero, List.set_cons_succ]
              generalize (t2.alloc (Obj.cells #[.int .i64 0, .int .i64 0, .int .i64 0] 27)) = k3 at *
              refine wpAnyH_ready (rs := [8]) (by kernel_rfl) (by simp) ?_
              refine AllReadyH.cons (o := { dst := some 14, op := Op.alloc 27, type := 0, pos := "laws.go:435", after := #[], guard := none }) rfl (fun K hK => ?_) AllReadyH.nil
              go_simp
              try go_wp2_with fail
              have hh4 := LX.below (W0 := W0) (bM := w1.heap.size) (bX := w2.heap.size) (bN := w3.heap.size) (bY := w4.heap.size) (n1 := n1) (n2 := n2) (g1 := g1) (f1 := f1) (l1 := l1) (g2 := g2) (f2 := f2) (l2 := l2) (A1 := A1) (C1 := C1) (A2 := A2) (C2 := 0) (h1 := h1) (h2 := h2) (ta1 := ta1) (ta2 := ta2) (tl1 := tl1) (tc1 := tc1) (tl2 := tl2) (tc2 := tc2) hh3 ((Below.refl k3.heap.size k3).alloc (Nat.le_refl _) (Obj.cells #[.int .i64 0, .int .i64 0, .int .i64 0] 27))
              have z15_4 := z15_3.below ((Below.refl k3.heap.size k3).alloc (Nat.le_refl _) (Obj.cells #[.int .i64 0, .int .i64 0, .int .i64 0] 27))
              have hne4 : t2.heap.size ≠ k3.heap.size := by have := z15_3.1; omega
              have z14_4 := Z3.new k3 27
              have hlo4 : W0.heap.size ≤ k3.heap.size := (hh3).1.size
              refine hK.out _ _ hh4 (fun _ => ?_)
              clear hK K
              try simp only [Act.put, List.setIfInBounds_toArray, List.set_cons_zero, List.set_cons_succ]
              generalize (k3.alloc (Obj.cells #[.int .i64 0, .int .i64 0, .int .i64 0] 27)) = k4 at *
              refine wpAnyH_ready (rs := [10]) (by kernel_rfl) (by simp) ?_
              refine AllReadyH.cons (o := { dst := none, op := Op.store 27 (Operand.tmp 14) (Operand.tmp 103), type := 0, pos := "laws.go:435", after := #[{ on := 8, ground := Ground.data }, { on := 3, ground := Ground.data }, { on := 7, ground := Ground.chain }, { on := 0, ground := Ground.phase }, { on := 1, ground := Ground.phase }, { on := 2, ground := Ground.phase }, { on := 3, ground := Ground.phase }, { on := 4, ground := Ground.textOnly Departure.lateStores }, { on := 5, ground := Ground.textOnly Departure.lateStores }, { on := 6, ground := Ground.textOnly Departure.lateStores }, { on := 7, ground := Ground.textOnly Departure.lateStoresUnsure }, { on := 8, ground := Ground.phase }, { on := 9, ground := Ground.phase }], guard := none }) rfl (fun K hK => ?_) AllReadyH.nil
              have zz5 := z14_4
              obtain ⟨zl5, ⟨e05, u05⟩, ⟨e15, u15⟩, ⟨e25, u25⟩, w05, w15, w25⟩ := zz5
              go_simp
              try go_wp2_with fail
              have hb5 : Blk k3.heap.size [.int .i64 A4, .int .i64 0, .int .i64 C4] (st3 k4 k3.heap.size A4 C4) := st3_cells z14_4 A4 C4
              have hh5 : LX W0 w1.heap.size w2.heap.size w3.heap.size w4.heap.size n1 n2 g1 f1 l1 g2 f2 l2 A1 C1 A2 0 h1 h2 ta1 ta2 tl1 tc1 tl2 tc2 (st3 k4 k3.heap.size A4 C4) := lx_st3 hh4 hlo4 bM0 bX0 bN0 bY0 A4 C4
              have z15_5 := z3_st3 z15_4 hne4 A4 C4
              unfold st3 at hh5 hb5 z15_5
              refine hK.out _ _ hh5 (fun _ => ?_)
              clear hK K
              try simp only [Act.put, List.setIfInBounds_toArray, List.set_cons_zero, List.set_cons_succ]
              refine wpAnyH_ready (rs := [11]) (by kernel_rfl) (by simp) ?_
              refine AllReadyH.cons (o := { dst := none, op := Op.store 27 (Operand.tmp 15) (Operand.tmp 107), type := 0, pos := "laws.go:435", after := #[{ on := 9, ground := Ground.data }, { on := 7, ground := Ground.data }, { on := 10, ground := Ground.chain }, { on := 0, ground := Ground.phase }, { on := 1, ground := Ground.phase }, { on := 2, ground := Ground.phase }, { on := 3, ground := Ground.phase }, { on := 4, ground := Ground.phase }, { on := 5, ground := Ground.phase }, { on := 6, ground := Ground.phase }, { on := 7, ground := Ground.phase }, { on := 8, ground := Ground.phase }, { on := 9, ground := Ground.phase }, { on := 10, ground := Ground.phase }], guard := none }) rfl (fun K hK => ?_) AllReadyH.nil
              have zz6 := z15_5
              obtain ⟨zl6, ⟨e06, u06⟩, ⟨e16, u16⟩, ⟨e26, u26⟩, w06, w16, w26⟩ := zz6
              go_simp
              try go_wp2_with fail
              have hb6 : Blk t2.heap.size [.int .i64 A5, .int .i64 0, .int .i64 C5] (st3 (((k4.setCell ⟨k3.heap.size, 0, none⟩ (.int .i64 A4)).setCell ⟨k3.heap.size, 1, none⟩ (.int .i64 0)).setCell ⟨k3.heap.size, 2, none⟩ (.int .i64 C4)) t2.heap.size A5 C5) := st3_cells z15_5 A5 C5
              have hh6 : LX W0 w1.heap.size w2.heap.size w3.heap.size w4.heap.size n1 n2 g1 f1 l1 g2 f2 l2 A1 C1 A2 0 h1 h2 ta1 ta2 tl1 tc1 tl2 tc2 (st3 (((k4.setCell ⟨k3.heap.size, 0, none⟩ (.int .i64 A4)).setCell ⟨k3.heap.size, 1, none⟩ (.int .i64 0)).setCell ⟨k3.heap.size, 2, none⟩ (.int .i64 C4)) t2.heap.size A5 C5) := lx_st3 hh5 hlo3 bM0 bX0 bN0 bY0 A5 C5
              have hc6 := blk_st3 hb5 (fun e => hne4 e.symm) A5 C5
              unfold st3 at hh6 hb6 hc6
              refine hK.out _ _ hh6 (fun _ => ?_)
              clear hK K
              try simp only [Act.put, List.setIfInBounds_toArray, List.set_cons_zero, List.set_cons_succ]
              refine wpAnyH_done (by kernel_rfl) ?_ _
              have HE := hid_intro hh6
              have HP := hid_intro hc6
              have HQ := hid_intro hb6
              have s0 := HP.out.2 0 (by simp)
              have s2 := HP.out.2 2 (by simp)
              have r0 := HQ.out.2 0 (by simp)
              have r2 := HQ.out.2 2 (by simp)
              have ls := HP.out.1
              have lr := HQ.out.1
              simp only [List.getElem?_cons_zero, List.getElem?_cons_succ] at s0 s2 r0 r2
              have y0 : ((((((k4.setCell ⟨k3.heap.size, 0, none⟩ (.int .i64 A4)).setCell ⟨k3.heap.size, 1, none⟩ (.int .i64 0)).setCell ⟨k3.heap.size, 2, none⟩ (.int .i64 C4)).setCell ⟨t2.heap.size, 0, none⟩ (.int .i64 A5)).setCell ⟨t2.heap.size, 1, none⟩ (.int .i64 0)).setCell ⟨t2.heap.size, 2, none⟩ (.int .i64 C5)).cell? ⟨w4.heap.size, 0, none⟩ = some (.int .i64 A2) := HE.out.2.2.2.2.2.2.2.2.2.2.2.2.2.2.2.2.2.2.2.2.1
              have y1 : ((((((k4.setCell ⟨k3.heap.size, 0, none⟩ (.int .i64 A4)).setCell ⟨k3.heap.size, 1, none⟩ (.int .i64 0)).setCell ⟨k3.heap.size, 2, none⟩ (.int .i64 C4)).setCell ⟨t2.heap.size, 0, none⟩ (.int .i64 A5)).setCell ⟨t2.heap.size, 1, none⟩ (.int .i64 0)).setCell ⟨t2.heap.size, 2, none⟩ (.int .i64 C5)).cell? ⟨w4.heap.size, 1, none⟩ = some (.int .i64 0) := HE.out.2.2.2.2.2.2.2.2.2.2.2.2.2.2.2.2.2.2.2.2.2.1
              have y2 : ((((((k4.setCell ⟨k3.heap.size, 0, none⟩ (.int .i64 A4)).setCell ⟨k3.heap.size, 1, none⟩ (.int .i64 0)).setCell ⟨k3.heap.size, 2, none⟩ (.int .i64 C4)).setCell ⟨t2.heap.size, 0, none⟩ (.int .i64 A5)).setCell ⟨t2.heap.size, 1, none⟩ (.int .i64 0)).setCell ⟨t2.heap.size, 2, none⟩ (.int .i64 C5)).cell? ⟨w4.heap.size, 2, none⟩ = some (.int .i64 0) := HE.out.2.2.2.2.2.2.2.2.2.2.2.2.2.2.2.2.2.2.2.2.2.2
              have lbY : w4.heap.size < ((((((k4.setCell ⟨k3.heap.size, 0, none⟩ (.int .i64 A4)).setCell ⟨k3.heap.size, 1, none⟩ (.int .i64 0)).setCell ⟨k3.heap.size, 2, none⟩ (.int .i64 C4)).setCell ⟨t2.heap.size, 0, none⟩ (.int .i64 A5)).setCell ⟨t2.heap.size, 1, none⟩ (.int .i64 0)).setCell ⟨t2.heap.size, 2, none⟩ (.int .i64 C5)).heap.size := HE.out.2.2.2.2.1
              have HBF := hid_intro (HA4.out.trans ((HE.out).1.mono HA4.out.size))
              clear HE HP HQ
              try clear w26
              try clear w16
              try clear w06
              try clear u26
              try clear u16
              try clear u06
              try clear zl6
              try clear hc6
              try clear hh6
              try clear hb6
              try clear zz6
              try clear w25
              try clear w15
              try clear w05
              try clear u25
              try clear u15
              try clear u05
              try clear zl5
              try clear z15_5
              try clear hh5
              try clear hb5
              try clear zz5
              try clear hlo4
              try clear z14_4
              try clear hne4
              try clear z15_4
              try clear hh4
              try clear hlo3
              try clear z15_3
              try clear hh3
              try clear ht2
              try clear hh2
              try clear ht1
              try clear hh1
              generalize ((((((k4.setCell ⟨k3.heap.size, 0, none⟩ (.int .i64 A4)).setCell ⟨k3.heap.size, 1, none⟩ (.int .i64 0)).setCell ⟨k3.heap.size, 2, none⟩ (.int .i64 C4)).setCell ⟨t2.heap.size, 0, none⟩ (.int .i64 A5)).setCell ⟨t2.heap.size, 1, none⟩ (.int .i64 0)).setCell ⟨t2.heap.size, 2, none⟩ (.int .i64 C5)) = WZ at *
              by_cases h4 : C4 = 0
              · have n4 : (C4 != 0) = false := by simpa using h4
                by_cases h5 : C5 = 0
                · have n5 : (C5 != 0) = false := by simpa using h5
                  have e5 := F2a.out h4 h5
                  go_wp2_with fail
                  go_ret
                  exact ⟨ret_bool (by first | (simp; done) | (simp [e5]; done)), HBF.out⟩
                · have n5 : (C5 != 0) = true := by simpa using h5
                  go_wp2_with fail
                  go_ret
                  exact ⟨rfl, HBF.out⟩
              · have n4 : (C4 != 0) = true := by simpa using h4
                go_wp2_with fail
                go_ret
                exact ⟨rfl, HBF.out⟩
          · go_simp
            try go_wp2_with fail
            have hh2 := LX.below (W0 := W0) (bM := w1.heap.size) (bX := w2.heap.size) (bN := w3.heap.size) (bY := w4.heap.size) (n1 := n1) (n2 := n2) (g1 := g1) (f1 := f1) (l1 := l1) (g2 := g2) (f2 := f2) (l2 := l2) (A1 := A1) (C1 := C1) (A2 := A2) (C2 := 0) (h1 := h1) (h2 := h2) (ta1 := ta1) (ta2 := ta2) (tl1 := tl1) (tc1 := tc1) (tl2 := tl2) (tc2 := tc2) hh1 ((Below.refl t1.heap.size t1).alloc (Nat.le_refl _) (Obj.cells #[.int .i64 0, .int .i64 0, .int .i64 0] 27))
            have z14_2 := Z3.new t1 27
            have hlo2 : W0.heap.size ≤ t1.heap.size := (hh1).1.size
            refine hK.out _ _ hh2 (fun _ => ?_)
            clear hK K
            try simp only [Act.put, List.setIfInBounds_toArray, List.set_cons_zero, List.set_cons_succ]
            generalize (t1.alloc (Obj.cells #[.int .i64 0, .int .i64 0, .int .i64 0] 27)) = k2 at *
            refine wpAnyH_ready (rs := [7, 9]) (by kernel_rfl) (by simp) ?_
            refine AllReadyH.cons (o := { dst := some 107, op := Op.call { callee := Callee.value (Operand.func 13), args := #[Operand.tmp 104, Operand.tmp 105, Operand.tmp 106], argTypes := #[31, 2, 2] }, type := 27, pos := "laws.go:435", after := #[{ on := 4, ground := Ground.data }, { on := 5, ground := Ground.data }, { on := 6, ground := Ground.data }, { on := 3, ground := Ground.chain }], guard := none }) rfl (fun K hK => ?_) (AllReadyH.cons (o := { dst := some 15, op := Op.alloc 27, type := 0, pos := "laws.go:435", after := #[], guard := none }) rfl (fun K hK => ?_) AllReadyH.nil)
            · go_simp
              go_at_call 13
              refine (c9.out _ (HBt4.out.trans ((hh2).1.mono HBt4.out.size)) (HL.out.below (HA4.out.trans ((hh2).1.mono HA4.out.size)))).mono ?_
              rintro e t3 ⟨rfl, ht3⟩
              try go_wp2_with fail
              have hh3 := LX.below (W0 := W0) (bM := w1.heap.size) (bX := w2.heap.size) (bN := w3.heap.size) (bY := w4.heap.size) (n1 := n1) (n2 := n2) (g1 := g1) (f1 := f1) (l1 := l1) (g2 := g2) (f2 := f2) (l2 := l2) (A1 := A1) (C1 := C1) (A2 := A2) (C2 := 0) (h1 := h1) (h2 := h2) (ta1 := ta1) (ta2 := ta2) (tl1 := tl1) (tc1 := tc1) (tl2 := tl2) (tc2 := tc2) hh2 ht3
              have z14_3 := z14_2.below ht3
              refine hK.out _ _ hh3 (fun _ => ?_)
              clear hK K
              try simp only [Act.put, List.setIfInBounds_toArray, List.set_cons_zero, List.set_cons_succ]
              refine wpAnyH_ready (rs := [9]) (by kernel_rfl) (by simp) ?_
              refine AllReadyH.cons (o := { dst := some 15, op := Op.alloc 27, type := 0, pos := "laws.go:435", after := #[], guard := none }) rfl (fun K hK => ?_) AllReadyH.nil
              go_simp
              try go_wp2_with fail
              have hh4 := LX.below (W0 := W0) (bM := w1.heap.size) (bX := w2.heap.size) (bN := w3.heap.size) (bY := w4.heap.size) (n1 := n1) (n2 := n2) (g1 := g1) (f1 := f1) (l1 := l1) (g2 := g2) (f2 := f2) (l2 := l2) (A1 := A1) (C1 := C1) (A2 := A2) (C2 := 0) (h1 := h1) (h2 := h2) (ta1 := ta1) (ta2 := ta2) (tl1 := tl1) (tc1 := tc1) (tl2 := tl2) (tc2 := tc2) hh3 ((Below.refl t3.heap.size t3).alloc (Nat.le_refl _) (Obj.cells #[.int .i64 0, .int .i64 0, .int .i64 0] 27))
              have z14_4 := z14_3.below ((Below.refl t3.heap.size t3).alloc (Nat.le_refl _) (Obj.cells #[.int .i64 0, .int .i64 0, .int .i64 0] 27))
              have hne4 : t1.heap.size ≠ t3.heap.size := by have := z14_3.1; omega
              have z15_4 := Z3.new t3 27
              have hlo4 : W0.heap.size ≤ t3.heap.size := (hh3).1.size
              refine hK.out _ _ hh4 (fun _ => ?_)
              clear hK K
              try simp only [Act.put, List.setIfInBounds_toArray, List.set_cons_zero, List.set_cons_succ]
              generalize (t3.alloc (Obj.cells #[.int .i64 0, .int .i64 0, .int .i64 0] 27)) = k4 at *
              refine wpAnyH_ready (rs := [10]) (by kernel_rfl) (by simp) ?_
              refine AllReadyH.cons (o := { dst := none, op := Op.store 27 (Operand.tmp 14) (Operand.tmp 103), type := 0, pos := "laws.go:435", after := #[{ on := 8, ground := Ground.data }, { on := 3, ground := Ground.data }, { on := 7, ground := Ground.chain }, { on := 0, ground := Ground.phase }, { on := 1, ground := Ground.phase }, { on := 2, ground := Ground.phase }, { on := 3, ground := Ground.phase }, { on := 4, ground := Ground.textOnly Departure.lateStores }, { on := 5, ground := Ground.textOnly Departure.lateStores }, { on := 6, ground := Ground.textOnly Departure.lateStores }, { on := 7, ground := Ground.textOnly Departure.lateStoresUnsure }, { on := 8, ground := Ground.phase }, { on := 9, ground := Ground.phase }], guard := none }) rfl (fun K hK => ?_) AllReadyH.nil
              have zz5 := z14_4
              obtain ⟨zl5, ⟨e05, u05⟩, ⟨e15, u15⟩, ⟨e25, u25⟩, w05, w15, w25⟩ := zz5
              go_simp
              try go_wp2_with fail
              have hb5 : Blk t1.heap.size [.int .i64 A4, .int .i64 0, .int .i64 C4] (st3 k4 t1.heap.size A4 C4) := st3_cells z14_4 A4 C4
              have hh5 : LX W0 w1.heap.size w2.heap.size w3.heap.size w4.heap.size n1 n2 g1 f1 l1 g2 f2 l2 A1 C1 A2 0 h1 h2 ta1 ta2 tl1 tc1 tl2 tc2 (st3 k4 t1.heap.size A4 C4) := lx_st3 hh4 hlo2 bM0 bX0 bN0 bY0 A4 C4
              have z15_5 := z3_st3 z15_4 (fun e => hne4 e.symm) A4 C4
              unfold st3 at hh5 hb5 z15_5
              refine hK.out _ _ hh5 (fun _ => ?_)
              clear hK K
              try simp only [Act.put, List.setIfInBounds_toArray, List.set_cons_zero, List.set_cons_succ]
              refine wpAnyH_ready (rs := [11]) (by kernel_rfl) (by simp) ?_
              refine AllReadyH.cons (o := { dst := none, op := Op.store 27 (Operand.tmp 15) (Operand.tmp 107), type := 0, pos := "laws.go:435", after := #[{ on := 9, ground := Ground.data }, { on := 7, ground := Ground.data }, { on := 10, ground := Ground.chain }, { on := 0, ground := Ground.phase }, { on := 1, ground := Ground.phase }, { on := 2, ground := Ground.phase }, { on := 3, ground := Ground.phase }, { on := 4, ground := Ground.phase }, { on := 5, ground := Ground.phase }, { on := 6, ground := Ground.phase }, { on := 7, ground := Ground.phase }, { on := 8, ground := Ground.phase }, { on := 9, ground := Ground.phase }, { on := 10, ground := Ground.phase }], guard := none }) rfl (fun K hK => ?_) AllReadyH.nil
              have zz6 := z15_5
              obtain ⟨zl6, ⟨e06, u06⟩, ⟨e16, u16⟩, ⟨e26, u26⟩, w06, w16, w26⟩ := zz6
              go_simp
              try go_wp2_with fail
              have hb6 : Blk t3.heap.size [.int .i64 A5, .int .i64 0, .int .i64 C5] (st3 (((k4.setCell ⟨t1.heap.size, 0, none⟩ (.int .i64 A4)).setCell ⟨t1.heap.size, 1, none⟩ (.int .i64 0)).setCell ⟨t1.heap.size, 2, none⟩ (.int .i64 C4)) t3.heap.size A5 C5) := st3_cells z15_5 A5 C5
              have hh6 : LX W0 w1.heap.size w2.heap.size w3.heap.size w4.heap.size n1 n2 g1 f1 l1 g2 f2 l2 A1 C1 A2 0 h1 h2 ta1 ta2 tl1 tc1 tl2 tc2 (st3 (((k4.setCell ⟨t1.heap.size, 0, none⟩ (.int .i64 A4)).setCell ⟨t1.heap.size, 1, none⟩ (.int .i64 0)).setCell ⟨t1.heap.size, 2, none⟩ (.int .i64 C4)) t3.heap.size A5 C5) := lx_st3 hh5 hlo4 bM0 bX0 bN0 bY0 A5 C5
              have hc6 := blk_st3 hb5 hne4 A5 C5
              unfold st3 at hh6 hb6 hc6
              refine hK.out _ _ hh6 (fun _ => ?_)
              clear hK K
              try simp only [Act.put, List.setIfInBounds_toArray, List.set_cons_zero, List.set_cons_succ]
              refine wpAnyH_done (by kernel_rfl) ?_ _
              have HE := hid_intro hh6
              have HP := hid_intro hc6
              have HQ := hid_intro hb6
              have s0 := HP.out.2 0 (by simp)
              have s2 := HP.out.2 2 (by simp)
              have r0 := HQ.out.2 0 (by simp)
              have r2 := HQ.out.2 2 (by simp)
              have ls := HP.out.1
              have lr := HQ.out.1
              simp only [List.getElem?_cons_zero, List.getElem?_cons_succ] at s0 s2 r0 r2
              have y0 : ((((((k4.setCell ⟨t1.heap.size, 0, none⟩ (.int .i64 A4)).setCell ⟨t1.heap.size, 1, none⟩ (.int .i64 0)).setCell ⟨t1.heap.size, 2, none⟩ (.int .i64 C4)).setCell ⟨t3.heap.size, 0, none⟩ (.int .i64 A5)).setCell ⟨t3.heap.size, 1, none⟩ (.int .i64 0)).setCell ⟨t3.heap.size, 2, none⟩ (.int .i64 C5)).cell? ⟨w4.heap.size, 0, none⟩ = some (.int .i64 A2) := HE.out.2.2.2.2.2.2.2.2.2.2.2.2.2.2.2.2.2.2.2.2.1
              have y1 : ((((((k4.setCell ⟨t1.heap.size, 0, none⟩ (.int .i64 A4)).setCell ⟨t1.heap.size, 1, none⟩ (.int .i64 0)).setCell ⟨t1.heap.size, 2, none⟩ (.int .i64 C4)).setCell ⟨t3.heap.size, 0, none⟩ (.int .i64 A5)).setCell ⟨t3.heap.size, 1, none⟩ (.int .i64 0)).setCell ⟨t3.heap.size, 2, none⟩ (.int .i64 C5)).cell? ⟨w4.heap.size, 1, none⟩ = some (.int .i64 0) := HE.out.2.2.2.2.2.2.2.2.2.2.2.2.2.2.2.2.2.2.2.2.2.1
              have y2 : ((((((k4.setCell ⟨t1.heap.size, 0, none⟩ (.int .i64 A4)).setCell ⟨t1.heap.size, 1, none⟩ (.int .i64 0)).setCell ⟨t1.heap.size, 2, none⟩ (.int .i64 C4)).setCell ⟨t3.heap.size, 0, none⟩ (.int .i64 A5)).setCell ⟨t3.heap.size, 1, none⟩ (.int .i64 0)).setCell ⟨t3.heap.size, 2, none⟩ (.int .i64 C5)).cell? ⟨w4.heap.size, 2, none⟩ = some (.int .i64 0) := HE.out.2.2.2.2.2.2.2.2.2.2.2.2.2.2.2.2.2.2.2.2.2.2
              have lbY : w4.heap.size < ((((((k4.setCell ⟨t1.heap.size, 0, none⟩ (.int .i64 A4)).setCell ⟨t1.heap.size, 1, none⟩ (.int .i64 0)).setCell ⟨t1.heap.size, 2, none⟩ (.int .i64 C4)).setCell ⟨t3.heap.size, 0, none⟩ (.int .i64 A5)).setCell ⟨t3.heap.size, 1, none⟩ (.int .i64 0)).setCell ⟨t3.heap.size, 2, none⟩ (.int .i64 C5)).heap.size := HE.out.2.2.2.2.1
              have HBF := hid_intro (HA4.out.trans ((HE.out).1.mono HA4.out.size))
              clear HE HP HQ
              try clear w26
              try clear w16
              try clear w06
              try clear u26
              try clear u16
              try clear u06
              try clear zl6
              try clear hc6
              try clear hh6
              try clear hb6
              try clear zz6
              try clear w25
              try clear w15
              try clear w05
              try clear u25
              try clear u15
              try clear u05
              try clear zl5
              try clear z15_5
              try clear hh5
              try clear hb5
              try clear zz5
              try clear hlo4
              try clear z15_4
              try clear hne4
              try clear z14_4
              try clear hh4
              try clear ht3
              try clear z14_3
              try clear hh3
              try clear hlo2
              try clear z14_2
              try clear hh2
              try clear ht1
              try clear hh1
              generalize ((((((k4.setCell ⟨t1.heap.size, 0, none⟩ (.int .i64 A4)).setCell ⟨t1.heap.size, 1, none⟩ (.int .i64 0)).setCell ⟨t1.heap.size, 2, none⟩ (.int .i64 C4)).setCell ⟨t3.heap.size, 0, none⟩ (.int .i64 A5)).setCell ⟨t3.heap.size, 1, none⟩ (.int .i64 0)).setCell ⟨t3.heap.size, 2, none⟩ (.int .i64 C5)) = WZ at *
              by_cases h4 : C4 = 0
              · have n4 : (C4 != 0) = false := by simpa using h4
                by_cases h5 : C5 = 0
                · have n5 : (C5 != 0) = false := by simpa using h5
                  have e5 := F2a.out h4 h5
                  go_wp2_with fail
                  go_ret
                  exact ⟨ret_bool (by first | (simp; done) | (simp [e5]; done)), HBF.out⟩
                · have n5 : (C5 != 0) = true := by simpa using h5
                  go_wp2_with fail
                  go_ret
                  exact ⟨rfl, HBF.out⟩
              · have n4 : (C4 != 0) = true := by simpa using h4
                go_wp2_with fail
                go_ret
                exact ⟨rfl, HBF.out⟩
            · go_simp
              try go_wp2_with fail
              have hh3 := LX.below (W0 := W0) (bM := w1.heap.size) (bX := w2.heap.size) (bN := w3.heap.size) (bY := w4.heap.size) (n1 := n1) (n2 := n2) (g1 := g1) (f1 := f1) (l1 := l1) (g2 := g2) (f2 := f2) (l2 := l2) (A1 := A1) (C1 := C1) (A2 := A2) (C2 := 0) (h1 := h1) (h2 := h2) (ta1 := ta1) (ta2 := ta2) (tl1 := tl1) (tc1 := tc1) (tl2 := tl2) (tc2 := tc2) hh2 ((Below.refl k2.heap.size k2).alloc (Nat.le_refl _) (Obj.cells #[.int .i64 0, .int .i64 0, .int .i64 0] 27))
              have z14_3 := z14_2.below ((Below.refl k2.heap.size k2).alloc (Nat.le_refl _) (Obj.cells #[.int .i64 0, .int .i64 0, .int .i64 0] 27))
              have hne3 : t1.heap.size ≠ k2.heap.size := by have := z14_2.1; omega
              have z15_3 := Z3.new k2 27
              have hlo3 : W0.heap.size ≤ k2.heap.size := (hh2).1.size
              refine hK.out _ _ hh3 (fun _ => ?_)
              clear hK K
              try simp only [Act.put, List.setIfInBounds_toArray, List.set_cons_zero, List.set_cons_succ]
              generalize (k2.alloc (Obj.cells #[.int .i64 0, .int .i64 0, .int .i64 0] 27)) = k3 at *
              refine wpAnyH_ready (rs := [7]) (by kernel_rfl) (by simp) ?_
              refine AllReadyH.cons (o := { dst := some 107, op := Op.call { callee := Callee.value (Operand.func 13), args := #[Operand.tmp 104, Operand.tmp 105, Operand.tmp 106], argTypes := #[31, 2, 2] }, type := 27, pos := "laws.go:435", after := #[{ on := 4, ground := Ground.data }, { on := 5, ground := Ground.data }, { on := 6, ground := Ground.data }, { on := 3, ground := Ground.chain }], guard := none }) rfl (fun K hK => ?_) AllReadyH.nil
              go_simp
              go_at_call 13
              refine (c9.out _ (HBt4.out.trans ((hh3).1.mono HBt4.out.size)) (HL.out.below (HA4.out.trans ((hh3).1.mono HA4.out.size)))).mono ?_
              rintro e t4 ⟨rfl, ht4⟩
              try go_wp2_with fail
              have hh4 := LX.below (W0 := W0) (bM := w1.heap.size) (bX := w2.heap.size) (bN := w3.heap.size) (bY := w4.heap.size) (n1 := n1) (n2 := n2) (g1 := g1) (f1 := f1) (l1 := l1) (g2 := g2) (f2 := f2) (l2 := l2) (A1 := A1) (C1 := C1) (A2 := A2) (C2 := 0) (h1 := h1) (h2 := h2) (ta1 := ta1) (ta2 := ta2) (tl1 := tl1) (tc1 := tc1) (tl2 := tl2) (tc2 := tc2) hh3 ht4
              have z14_4 := z14_3.below ht4
              have z15_4 := z15_3.below ht4
              refine hK.out _ _ hh4 (fun _ => ?_)
              clear hK K
              try simp only [Act.put, List.setIfInBounds_toArray, List.set_cons_zero, List.set_cons_succ]
              refine wpAnyH_ready (rs := [10]) (by kernel_rfl) (by simp) ?_
              refine AllReadyH.cons (o := { dst := none, op := Op.store 27 (Operand.tmp 14) (Operand.tmp 103), type := 0, pos := "laws.go:435", after := #[{ on := 8, ground := Ground.data }, { on := 3, ground := Ground.data }, { on := 7, ground := Ground.chain }, { on := 0, ground := Ground.phase }, { on := 1, ground := Ground.phase }, { on := 2, ground := Ground.phase }, { on := 3, ground := Ground.phase }, { on := 4, ground := Ground.textOnly Departure.lateStores }, { on := 5, ground := Ground.textOnly Departure.lateStores }, { on := 6, ground := Ground.textOnly Departure.lateStores }, { on := 7, ground := Ground.textOnly Departure.lateStoresUnsure }, { on := 8, ground := Ground.phase }, { on := 9, ground := Ground.phase }], guard := none }) rfl (fun K hK => ?_) AllReadyH.nil
              have zz5 := z14_4
              obtain ⟨zl5, ⟨e05, u05⟩, ⟨e15, u15⟩, ⟨e25, u25⟩, w05, w15, w25⟩ := zz5
              go_simp
              try go_wp2_with fail
              have hb5 : Blk t1.heap.size [.int .i64 A4, .int .i64 0, .int .i64 C4] (st3 t4 t1.heap.size A4 C4) := st3_cells z14_4 A4 C4
              have hh5 : LX W0 w1.heap.size w2.heap.size w3.heap.size w4.heap.size n1 n2 g1 f1 l1 g2 f2 l2 A1 C1 A2 0 h1 h2 ta1 ta2 tl1 tc1 tl2 tc2 (st3 t4 t1.heap.size A4 C4) := lx_st3 hh4 hlo2 bM0 bX0 bN0 bY0 A4 C4
              have z15_5 := z3_st3 z15_4 (fun e => hne3 e.symm) A4 C4
              unfold st3 at hh5 hb5 z15_5
              refine hK.out _ _ hh5 (fun _ => ?_)
              clear hK K
              try simp only [Act.put, List.setIfInBounds_toArray, List.set_cons_zero, List.set_cons_succ]
              refine wpAnyH_ready (rs := [11]) (by kernel_rfl) (by simp) ?_
              refine AllReadyH.cons (o := { dst := none, op := Op.store 27 (Operand.tmp 15) (Operand.tmp 107), type := 0, pos := "laws.go:435", after := #[{ on := 9, ground := Ground.data }, { on := 7, ground := Ground.data }, { on := 10, ground := Ground.chain }, { on := 0, ground := Ground.phase }, { on := 1, ground := Ground.phase }, { on := 2, ground := Ground.phase }, { on := 3, ground := Ground.phase }, { on := 4, ground := Ground.phase }, { on := 5, ground := Ground.phase }, { on := 6, ground := Ground.phase }, { on := 7, ground := Ground.phase }, { on := 8, ground := Ground.phase }, { on := 9, ground := Ground.phase }, { on := 10, ground := Ground.phase }], guard := none }) rfl (fun K hK => ?_) AllReadyH.nil
              have zz6 := z15_5
              obtain ⟨zl6, ⟨e06, u06⟩, ⟨e16, u16⟩, ⟨e26, u26⟩, w06, w16, w26⟩ := zz6
              go_simp
              try go_wp2_with fail
              have hb6 : Blk k2.heap.size [.int .i64 A5, .int .i64 0, .int .i64 C5] (st3 (((t4.setCell ⟨t1.heap.size, 0, none⟩ (.int .i64 A4)).setCell ⟨t1.heap.size, 1, none⟩ (.int .i64 0)).setCell ⟨t1.heap.size, 2, none⟩ (.int .i64 C4)) k2.heap.size A5 C5) := st3_cells z15_5 A5 C5
              have hh6 : LX W0 w1.heap.size w2.heap.size w3.heap.size w4.heap.size n1 n2 g1 f1 l1 g2 f2 l2 A1 C1 A2 0 h1 h2 ta1 ta2 tl1 tc1 tl2 tc2 (st3 (((t4.setCell ⟨t1.heap.size, 0, none⟩ (.int .i64 A4)).setCell ⟨t1.heap.size, 1, none⟩ (.int .i64 0)).setCell ⟨t1.heap.size, 2, none⟩ (.int .i64 C4)) k2.heap.size A5 C5) := lx_st3 hh5 hlo3 bM0 bX0 bN0 bY0 A5 C5
              have hc6 := blk_st3 hb5 hne3 A5 C5
              unfold st3 at hh6 hb6 hc6
              refine hK.out _ _ hh6 (fun _ => ?_)
              clear hK K
              try simp only [Act.put, List.setIfInBounds_toArray, List.set_cons_zero, List.set_cons_succ]
              refine wpAnyH_done (by kernel_rfl) ?_ _
              have HE := hid_intro hh6
              have HP := hid_intro hc6
              have HQ := hid_intro hb6
              have s0 := HP.out.2 0 (by simp)
              have s2 := HP.out.2 2 (by simp)
              have r0 := HQ.out.2 0 (by simp)
              have r2 := HQ.out.2 2 (by simp)
              have ls := HP.out.1
              have lr := HQ.out.1
              simp only [List.getElem?_cons_zero, List.getElem?_cons_succ] at s0 s2 r0 r2
              have y0 : ((((((t4.setCell ⟨t1.heap.size, 0, none⟩ (.int .i64 A4)).setCell ⟨t1.heap.size, 1, none⟩ (.int .i64 0)).setCell ⟨t1.heap.size, 2, none⟩ (.int .i64 C4)).setCell ⟨k2.heap.size, 0, none⟩ (.int .i64 A5)).setCell ⟨k2.heap.size, 1, none⟩ (.int .i64 0)).setCell ⟨k2.heap.size, 2, none⟩ (.int .i64 C5)).cell? ⟨w4.heap.size, 0, none⟩ = some (.int .i64 A2) := HE.out.2.2.2.2.2.2.2.2.2.2.2.2.2.2.2.2.2.2.2.2.1
              have y1 : ((((((t4.setCell ⟨t1.heap.size, 0, none⟩ (.int .i64 A4)).setCell ⟨t1.heap.size, 1, none⟩ (.int .i64 0)).setCell ⟨t1.heap.size, 2, none⟩ (.int .i64 C4)).setCell ⟨k2.heap.size, 0, none⟩ (.int .i64 A5)).setCell ⟨k2.heap.size, 1, none⟩ (.int .i64 0)).setCell ⟨k2.heap.size, 2, none⟩ (.int .i64 C5)).cell? ⟨w4.heap.size, 1, none⟩ = some (.int .i64 0) := HE.out.2.2.2.2.2.2.2.2.2.2.2.2.2.2.2.2.2.2.2.2.2.1
              have y2 : ((((((t4.setCell ⟨t1.heap.size, 0, none⟩ (.int .i64 A4)).setCell ⟨t1.heap.size, 1, none⟩ (.int .i64 0)).setCell ⟨t1.heap.size, 2, none⟩ (.int .i64 C4)).setCell ⟨k2.heap.size, 0, none⟩ (.int .i64 A5)).setCell ⟨k2.heap.size, 1, none⟩ (.int .i64 0)).setCell ⟨k2.heap.size, 2, none⟩ (.int .i64 C5)).cell? ⟨w4.heap.size, 2, none⟩ = some (.int .i64 0) := HE.out.2.2.2.2.2.2.2.2.2.2.2.2.2.2.2.2.2.2.2.2.2.2
              have lbY : w4.heap.size < ((((((t4.setCell ⟨t1.heap.size, 0, none⟩ (.int .i64 A4)).setCell ⟨t1.heap.size, 1, none⟩ (.int .i64 0)).setCell ⟨t1.heap.size, 2, none⟩ (.int .i64 C4)).setCell ⟨k2.heap.size, 0, none⟩ (.int .i64 A5)).setCell ⟨k2.heap.size, 1, none⟩ (.int .i64 0)).setCell ⟨k2.heap.size, 2, none⟩ (.int .i64 C5)).heap.size := HE.out.2.2.2.2.1
              have HBF := hid_intro (HA4.out.trans ((HE.out).1.mono HA4.out.size))
              clear HE HP HQ
              try clear w26
              try clear w16
              try clear w06
              try clear u26
              try clear u16
              try clear u06
              try clear zl6
              try clear hc6
              try clear hh6
              try clear hb6
              try clear zz6
              try clear w25
              try clear w15
              try clear w05
              try clear u25
              try clear u15
              try clear u05
              try clear zl5
              try clear z15_5
              try clear hh5
              try clear hb5
              try clear zz5
              try clear ht4
              try clear z15_4
              try clear z14_4
              try clear hh4
              try clear hlo3
              try clear z15_3
              try clear hne3
              try clear z14_3
              try clear hh3
              try clear hlo2
              try clear z14_2
              try clear hh2
              try clear ht1
              try clear hh1
              generalize ((((((t4.setCell ⟨t1.heap.size, 0, none⟩ (.int .i64 A4)).setCell ⟨t1.heap.size, 1, none⟩ (.int .i64 0)).setCell ⟨t1.heap.size, 2, none⟩ (.int .i64 C4)).setCell ⟨k2.heap.size, 0, none⟩ (.int .i64 A5)).setCell ⟨k2.heap.size, 1, none⟩ (.int .i64 0)).setCell ⟨k2.heap.size, 2, none⟩ (.int .i64 C5)) = WZ at *
              by_cases h4 : C4 = 0
              · have n4 : (C4 != 0) = false := by simpa using h4
                by_cases h5 : C5 = 0
                · have n5 : (C5 != 0) = false := by simpa using h5
                  have e5 := F2a.out h4 h5
                  go_wp2_with fail
                  go_ret
                  exact ⟨ret_bool (by first | (simp; done) | (simp [e5]; done)), HBF.out⟩
                · have n5 : (C5 != 0) = true := by simpa using h5
                  go_wp2_with fail
                  go_ret
                  exact ⟨rfl, HBF.out⟩
              · have n4 : (C4 != 0) = true := by simpa using h4
                go_wp2_with fail
                go_ret
                exact ⟨rfl, HBF.out⟩
          · go_simp
            try go_wp2_with fail
            have hh2 := LX.below (W0 := W0) (bM := w1.heap.size) (bX := w2.heap.size) (bN := w3.heap.size) (bY := w4.heap.size) (n1 := n1) (n2 := n2) (g1 := g1) (f1 := f1) (l1 := l1) (g2 := g2) (f2 := f2) (l2 := l2) (A1 := A1) (C1 := C1) (A2 := A2) (C2 := 0) (h1 := h1) (h2 := h2) (ta1 := ta1) (ta2 := ta2) (tl1 := tl1) (tc1 := tc1) (tl2 := tl2) (tc2 := tc2) hh1 ((Below.refl t1.heap.size t1).alloc (Nat.le_refl _) (Obj.cells #[.int .i64 0, .int .i64 0, .int .i64 0] 27))
            have z15_2 := Z3.new t1 27
            have hlo2 : W0.heap.size ≤ t1.heap.size := (hh1).1.size
            refine hK.out _ _ hh2 (fun _ => ?_)
            clear hK K
            try simp only [Act.put, List.setIfInBounds_toArray, List.set_cons_zero, List.set_cons_succ]
            generalize (t1.alloc (Obj.cells #[.int .i64 0, .int .i64 0, .int .i64 0] 27)) = k2 at *
            refine wpAnyH_ready (rs := [7, 8]) (by kernel_rfl) (by simp) ?_
            refine AllReadyH.cons (o := { dst := some 107, op := Op.call { callee := Callee.value (Operand.func 13), args := #[Operand.tmp 104, Operand.tmp 105, Operand.tmp 106], argTypes := #[31, 2, 2] }, type := 27, pos := "laws.go:435", after := #[{ on := 4, ground := Ground.data }, { on := 5, ground := Ground.data }, { on := 6, ground := Ground.data }, { on := 3, ground := Ground.chain }], guard := none }) rfl (fun K hK => ?_) (AllReadyH.cons (o := { dst := some 14, op := Op.alloc 27, type := 0, pos := "laws.go:435", after := #[], guard := none }) rfl (fun K hK => ?_) AllReadyH.nil)
            · go_simp
              go_at_call 13
              refine (c9.out _ (HBt4.out.trans ((hh2).1.mono HBt4.out.size)) (HL.out.below (HA4.out.trans ((hh2).1.mono HA4.out.size)))).mono ?_
              rintro e t3 ⟨rfl, ht3⟩
              try go_wp2_with fail
              have hh3 := LX.below (W0 := W0) (bM := w1.heap.size) (bX := w2.heap.size) (bN := w3.heap.size) (bY := w4.heap.size) (n1 := n1) (n2 := n2) (g1 := g1) (f1 := f1) (l1 := l1) (g2 := g2) (f2 := f2) (l2 := l2) (A1 := A1) (C1 := C1) (A2 := A2) (C2 := 0) (h1 := h1) (h2 := h2) (ta1 := ta1) (ta2 := ta2) (tl1 := tl1) (tc1 := tc1) (tl2 := tl2) (tc2 := tc2) hh2 ht3
              have z15_3 := z15_2.below ht3
              refine hK.out _ _ hh3 (fun _ => ?_)
              clear hK K
              try simp only [Act.put, List.setIfInBounds_toArray, List.set_cons_zero, List.set_cons_succ]
              refine wpAnyH_ready (rs := [8]) (by kernel_rfl) (by simp) ?_
              refine AllReadyH.cons (o := { dst := some 14, op := Op.alloc 27, type := 0, pos := "laws.go:435", after := #[], guard := none }) rfl (fun K hK => ?_) AllReadyH.nil
              go_simp
              try go_wp2_with fail
              have hh4 := LX.below (W0 := W0) (bM := w1.heap.size) (bX := w2.heap.size) (bN := w3.heap.size) (bY := w4.heap.size) (n1 := n1) (n2 := n2) (g1 := g1) (f1 := f1) (l1 := l1) (g2 := g2) (f2 := f2) (l2 := l2) (A1 := A1) (C1 := C1) (A2 := A2) (C2 := 0) (h1 := h1) (h2 := h2) (ta1 := ta1) (ta2 := ta2) (tl1 := tl1) (tc1 := tc1) (tl2 := tl2) (tc2 := tc2) hh3 ((Below.refl t3.heap.size t3).alloc (Nat.le_refl _) (Obj.cells #[.int .i64 0, .int .i64 0, .int .i64 0] 27))
              have z15_4 := z15_3.below ((Below.refl t3.heap.size t3).alloc (Nat.le_refl _) (Obj.cells #[.int .i64 0, .int .i64 0, .int .i64 0] 27))
              have hne4 : t1.heap.size ≠ t3.heap.size := by have := z15_3.1; omega
              have z14_4 := Z3.new t3 27
              have hlo4 : W0.heap.size ≤ t3.heap.size := (hh3).1.size
              refine hK.out _ _ hh4 (fun _ => ?_)
              clear hK K
              try simp only [Act.put, List.setIfInBounds_toArray, List.set_cons_zero, List.set_cons_succ]
              generalize (t3.alloc (Obj.cells #[.int .i64 0, .int .i64 0, .int .i64 0] 27)) = k4 at *
              refine wpAnyH_ready (rs := [10]) (by kernel_rfl) (by simp) ?_
              refine AllReadyH.cons (o := { dst := none, op := Op.store 27 (Operand.tmp 14) (Operand.tmp 103), type := 0, pos := "laws.go:435", after := #[{ on := 8, ground := Ground.data }, { on := 3, ground := Ground.data }, { on := 7, ground := Ground.chain }, { on := 0, ground := Ground.phase }, { on := 1, ground := Ground.phase }, { on := 2, ground := Ground.phase }, { on := 3, ground := Ground.phase }, { on := 4, ground := Ground.textOnly Departure.lateStores }, { on := 5, ground := Ground.textOnly Departure.lateStores }, { on := 6, ground := Ground.textOnly Departure.lateStores }, { on := 7, ground := Ground.textOnly Departure.lateStoresUnsure }, { on := 8, ground := Ground.phase }, { on := 9, ground := Ground.phase }], guard := none }) rfl (fun K hK => ?_) AllReadyH.nil
              have zz5 := z14_4
              obtain ⟨zl5, ⟨e05, u05⟩, ⟨e15, u15⟩, ⟨e25, u25⟩, w05, w15, w25⟩ := zz5
              go_simp
              try go_wp2_with fail
              have hb5 : Blk t3.heap.size [.int .i64 A4, .int .i64 0, .int .i64 C4] (st3 k4 t3.heap.size A4 C4) := st3_cells z14_4 A4 C4
              have hh5 : LX W0 w1.heap.size w2.heap.size w3.heap.size w4.heap.size n1 n2 g1 f1 l1 g2 f2 l2 A1 C1 A2 0 h1 h2 ta1 ta2 tl1 tc1 tl2 tc2 (st3 k4 t3.heap.size A4 C4) := lx_st3 hh4 hlo4 bM0 bX0 bN0 bY0 A4 C4
              have z15_5 := z3_st3 z15_4 hne4 A4 C4
              unfold st3 at hh5 hb5 z15_5
              refine hK.out _ _ hh5 (fun _ => ?_)
              clear hK K
              try simp only [Act.put, List.setIfInBounds_toArray, List.set_cons_zero, List.set_cons_succ]
              refine wpAnyH_ready (rs := [11]) (by kernel_rfl) (by simp) ?_
              refine AllReadyH.cons (o := { dst := none, op := Op.store 27 (Operand.tmp 15) (Operand.tmp 107), type := 0, pos := "laws.go:435", after := #[{ on := 9, ground := Ground.data }, { on := 7, ground := Ground.data }, { on := 10, ground := Ground.chain }, { on := 0, ground := Ground.phase }, { on := 1, ground := Ground.phase }, { on := 2, ground := Ground.phase }, { on := 3, ground := Ground.phase }, { on := 4, ground := Ground.phase }, { on := 5, ground := Ground.phase }, { on := 6, ground := Ground.phase }, { on := 7, ground := Ground.phase }, { on := 8, ground := Ground.phase }, { on := 9, ground := Ground.phase }, { on := 10, ground := Ground.phase }], guard := none }) rfl (fun K hK => ?_) AllReadyH.nil
              have zz6 := z15_5
              obtain ⟨zl6, ⟨e06, u06⟩, ⟨e16, u16⟩, ⟨e26, u26⟩, w06, w16, w26⟩ := zz6
              go_simp
              try go_wp2_with fail
              have hb6 : Blk t1.heap.size [.int .i64 A5, .int .i64 0, .int .i64 C5] (st3 (((k4.setCell ⟨t3.heap.size, 0, none⟩ (.int .i64 A4)).setCell ⟨t3.heap.size, 1, none⟩ (.int .i64 0)).setCell ⟨t3.heap.size, 2, none⟩ (.int .i64 C4)) t1.heap.size A5 C5) := st3_cells z15_5 A5 C5
              have hh6 : LX W0 w1.heap.size w2.heap.size w3.heap.size w4.heap.size n1 n2 g1 f1 l1 g2 f2 l2 A1 C1 A2 0 h1 h2 ta1 ta2 tl1 tc1 tl2 tc2 (st3 (((k4.setCell ⟨t3.heap.size, 0, none⟩ (.int .i64 A4)).setCell ⟨t3.heap.size, 1, none⟩ (.int .i64 0)).setCell ⟨t3.heap.size, 2, none⟩ (.int .i64 C4)) t1.heap.size A5 C5) := lx_st3 hh5 hlo2 bM0 bX0 bN0 bY0 A5 C5
              have hc6 := blk_st3 hb5 (fun e => hne4 e.symm) A5 C5
              unfold st3 at hh6 hb6 hc6
              refine hK.out _ _ hh6 (fun _ => ?_)
              clear hK K
              try simp only [Act.put, List.setIfInBounds_toArray, List.set_cons_zero, List.set_cons_succ]
              refine wpAnyH_done (by kernel_rfl) ?_ _
              have HE := hid_intro hh6
              have HP := hid_intro hc6
              have HQ := hid_intro hb6
              have s0 := HP.out.2 0 (by simp)
              have s2 := HP.out.2 2 (by simp)
              have r0 := HQ.out.2 0 (by simp)
              have r2 := HQ.out.2 2 (by simp)
              have ls := HP.out.1
              have lr := HQ.out.1
              simp only [List.getElem?_cons_zero, List.getElem?_cons_succ] at s0 s2 r0 r2
              have y0 : ((((((k4.setCell ⟨t3.heap.size, 0, none⟩ (.int .i64 A4)).setCell ⟨t3.heap.size, 1, none⟩ (.int .i64 0)).setCell ⟨t3.heap.size, 2, none⟩ (.int .i64 C4)).setCell ⟨t1.heap.size, 0, none⟩ (.int .i64 A5)).setCell ⟨t1.heap.size, 1, none⟩ (.int .i64 0)).setCell ⟨t1.heap.size, 2, none⟩ (.int .i64 C5)).cell? ⟨w4.heap.size, 0, none⟩ = some (.int .i64 A2) := HE.out.2.2.2.2.2.2.2.2.2.2.2.2.2.2.2.2.2.2.2.2.1
              have y1 : ((((((k4.setCell ⟨t3.heap.size, 0, none⟩ (.int .i64 A4)).setCell ⟨t3.heap.size, 1, none⟩ (.int .i64 0)).setCell ⟨t3.heap.size, 2, none⟩ (.int .i64 C4)).setCell ⟨t1.heap.size, 0, none⟩ (.int .i64 A5)).setCell ⟨t1.heap.size, 1, none⟩ (.int .i64 0)).setCell ⟨t1.heap.size, 2, none⟩ (.int .i64 C5)).cell? ⟨w4.heap.size, 1, none⟩ = some (.int .i64 0) := HE.out.2.2.2.2.2.2.2.2.2.2.2.2.2.2.2.2.2.2.2.2.2.1
              have y2 : ((((((k4.setCell ⟨t3.heap.size, 0, none⟩ (.int .i64 A4)).setCell ⟨t3.heap.size, 1, none⟩ (.int .i64 0)).setCell ⟨t3.heap.size, 2, none⟩ (.int .i64 C4)).setCell ⟨t1.heap.size, 0, none⟩ (.int .i64 A5)).setCell ⟨t1.heap.size, 1, none⟩ (.int .i64 0)).setCell ⟨t1.heap.size, 2, none⟩ (.int .i64 C5)).cell? ⟨w4.heap.size, 2, none⟩ = some (.int .i64 0) := HE.out.2.2.2.2.2.2.2.2.2.2.2.2.2.2.2.2.2.2.2.2.2.2
              have lbY : w4.heap.size < ((((((k4.setCell ⟨t3.heap.size, 0, none⟩ (.int .i64 A4)).setCell ⟨t3.heap.size, 1, none⟩ (.int .i64 0)).setCell ⟨t3.heap.size, 2, none⟩ (.int .i64 C4)).setCell ⟨t1.heap.size, 0, none⟩ (.int .i64 A5)).setCell ⟨t1.heap.size, 1, none⟩ (.int .i64 0)).setCell ⟨t1.heap.size, 2, none⟩ (.int .i64 C5)).heap.size := HE.out.2.2.2.2.1
              have HBF := hid_intro (HA4.out.trans ((HE.out).1.mono HA4.out.size))
              clear HE HP HQ
              try clear w26
              try clear w16
              try clear w06
              try clear u26
              try clear u16
              try clear u06
              try clear zl6
              try clear hc6
              try clear hh6
              try clear hb6
              try clear zz6
              try clear w25
              try clear w15
              try clear w05
              try clear u25
              try clear u15
              try clear u05
              try clear zl5
              try clear z15_5
              try clear hh5
              try clear hb5
              try clear zz5
              try clear hlo4
              try clear z14_4
              try clear hne4
              try clear z15_4
              try clear hh4
              try clear ht3
              try clear z15_3
              try clear hh3
              try clear hlo2
              try clear z15_2
              try clear hh2
              try clear ht1
              try clear hh1
              generalize ((((((k4.setCell ⟨t3.heap.size, 0, none⟩ (.int .i64 A4)).setCell ⟨t3.heap.size, 1, none⟩ (.int .i64 0)).setCell ⟨t3.heap.size, 2, none⟩ (.int .i64 C4)).setCell ⟨t1.heap.size, 0, none⟩ (.int .i64 A5)).setCell ⟨t1.heap.size, 1, none⟩ (.int .i64 0)).setCell ⟨t1.heap.size, 2, none⟩ (.int .i64 C5)) = WZ at *
              by_cases h4 : C4 = 0
              · have n4 : (C4 != 0) = false := by simpa using h4
                by_cases h5 : C5 = 0
                · have n5 : (C5 != 0) = false := by simpa using h5
                  have e5 := F2a.out h4 h5
                  go_wp2_with fail
                  go_ret
                  exact ⟨ret_bool (by first | (simp; done) | (simp [e5]; done)), HBF.out⟩
                · have n5 : (C5 != 0) = true := by simpa using h5
                  go_wp2_with fail
                  go_ret
                  exact ⟨rfl, HBF.out⟩
              · have n4 : (C4 != 0) = true := by simpa using h4
                go_wp2_with fail
                go_ret
                exact ⟨rfl, HBF.out⟩
            · go_simp
              try go_wp2_with fail
              have hh3 := LX.below (W0 := W0) (bM := w1.heap.size) (bX := w2.heap.size) (bN := w3.heap.size) (bY := w4.heap.size) (n1 := n1) (n2 := n2) (g1 := g1) (f1 := f1) (l1 := l1) (g2 := g2) (f2 := f2) (l2 := l2) (A1 := A1) (C1 := C1) (A2 := A2) (C2 := 0) (h1 := h1) (h2 := h2) (ta1 := ta1) (ta2 := ta2) (tl1 := tl1) (tc1 := tc1) (tl2 := tl2) (tc2 := tc2) hh2 ((Below.refl k2.heap.size k2).alloc (Nat.le_refl _) (Obj.cells #[.int .i64 0, .int .i64 0, .int .i64 0] 27))
              have z15_3 := z15_2.below ((Below.refl k2.heap.size k2).alloc (Nat.le_refl _) (Obj.cells #[.int .i64 0, .int .i64 0, .int .i64 0] 27))
              have hne3 : t1.heap.size ≠ k2.heap.size := by have := z15_2.1; omega
              have z14_3 := Z3.new k2 27
              have hlo3 : W0.heap.size ≤ k2.heap.size := (hh2).1.size
              refine hK.out _ _ hh3 (fun _ => ?_)
              clear hK K
              try simp only [Act.put, List.setIfInBounds_toArray, List.set_cons_zero, List.set_cons_succ]
              generalize (k2.alloc (Obj.cells #[.int .i64 0, .int .i64 0, .int .i64 0] 27)) = k3 at *
              refine wpAnyH_ready (rs := [7]) (by kernel_rfl) (by simp) ?_
              refine AllReadyH.cons (o := { dst := some 107, op := Op.call { callee := Callee.value (Operand.func 13), args := #[Operand.tmp 104, Operand.tmp 105, Operand.tmp 106], argTypes := #[31, 2, 2] }, type := 27, pos := "laws.go:435", after := #[{ on := 4, ground := Ground.data }, { on := 5, ground := Ground.data }, { on := 6, ground := Ground.data }, { on := 3, ground := Ground.chain }], guard := none }) rfl (fun K hK => ?_) AllReadyH.nil
              go_simp
              go_at_call 13
              refine (c9.out _ (HBt4.out.trans ((hh3).1.mono HBt4.out.size)) (HL.out.below (HA4.out.trans ((hh3).1.mono HA4.out.size)))).mono ?_
              rintro e t4 ⟨rfl, ht4⟩
              try go_wp2_with fail
              have hh4 := LX.below (W0 := W0) (bM := w1.heap.size) (bX := w2.heap.size) (bN := w3.heap.size) (bY := w4.heap.size) (n1 := n1) (n2 := n2) (g1 := g1) (f1 := f1) (l1 := l1) (g2 := g2) (f2 := f2) (l2 := l2) (A1 := A1) (C1 := C1) (A2 := A2) (C2 := 0) (h1 := h1) (h2 := h2) (ta1 := ta1) (ta2 := ta2) (tl1 := tl1) (tc1 := tc1) (tl2 := tl2) (tc2 := tc2) hh3 ht4
              have z14_4 := z14_3.below ht4
              have z15_4 := z15_3.below ht4
              refine hK.out _ _ hh4 (fun _ => ?_)
              clear hK K
              try simp only [Act.put, List.setIfInBounds_toArray, List.set_cons_zero, List.set_cons_succ]
              refine wpAnyH_ready (rs := [10]) (by kernel_rfl) (by simp) ?_
              refine AllReadyH.cons (o := { dst := none, op := Op.store 27 (Operand.tmp 14) (Operand.tmp 103), type := 0, pos := "laws.go:435", after := #[{ on := 8, ground := Ground.data }, { on := 3, ground := Ground.data }, { on := 7, ground := Ground.chain }, { on := 0, ground := Ground.phase }, { on := 1, ground := Ground.phase }, { on := 2, ground := Ground.phase }, { on := 3, ground := Ground.phase }, { on := 4, ground := Ground.textOnly Departure.lateStores }, { on := 5, ground := Ground.textOnly Departure.lateStores }, { on := 6, ground := Ground.textOnly Departure.lateStores }, { on := 7, ground := Ground.textOnly Departure.lateStoresUnsure }, { on := 8, ground := Ground.phase }, { on := 9, ground := Ground.phase }], guard := none }) rfl (fun K hK => ?_) AllReadyH.nil
              have zz5 := z14_4
              obtain ⟨zl5, ⟨e05, u05⟩, ⟨e15, u15⟩, ⟨e25, u25⟩, w05, w15, w25⟩ := zz5
              go_simp
              try go_wp2_with fail
              have hb5 : Blk k2.heap.size [.int .i64 A4, .int .i64 0, .int .i64 C4] (st3 t4 k2.heap.size A4 C4) := st3_cells z14_4 A4 C4
              have hh5 : LX W0 w1.heap.size w2.heap.size w3.heap.size w4.heap.size n1 n2 g1 f1 l1 g2 f2 l2 A1 C1 A2 0 h1 h2 ta1 ta2 tl1 tc1 tl2 tc2 (st3 t4 k2.heap.size A4 C4) := lx_st3 hh4 hlo3 bM0 bX0 bN0 bY0 A4 C4
              have z15_5 := z3_st3 z15_4 hne3 A4 C4
              unfold st3 at hh5 hb5 z15_5
              refine hK.out _ _ hh5 (fun _ => ?_)
              clear hK K
              try simp only [Act.put, List.setIfInBounds_toArray, List.set_cons_zero, List.set_cons_succ]
              refine wpAnyH_ready (rs := [11]) (by kernel_rfl) (by simp) ?_
              refine AllReadyH.cons (o := { dst := none, op := Op.store 27 (Operand.tmp 15) (Operand.tmp 107), type := 0, pos := "laws.go:435", after := #[{ on := 9, ground := Ground.data }, { on := 7, ground := Ground.data }, { on := 10, ground := Ground.chain }, { on := 0, ground := Ground.phase }, { on := 1, ground := Ground.phase }, { on := 2, ground := Ground.phase }, { on := 3, ground := Ground.phase }, { on := 4, ground := Ground.phase }, { on := 5, ground := Ground.phase }, { on := 6, ground := Ground.phase }, { on := 7, ground := Ground.phase }, { on := 8, ground := Ground.phase }, { on := 9, ground := Ground.phase }, { on := 10, ground := Ground.phase }], guard := none }) rfl (fun K hK => ?_) AllReadyH.nil
              have zz6 := z15_5
              obtain ⟨zl6, ⟨e06, u06⟩, ⟨e16, u16⟩, ⟨e26, u26⟩, w06, w16, w26⟩ := zz6
              go_simp
              try go_wp2_with fail
              have hb6 : Blk t1.heap.size [.int .i64 A5, .int .i64 0, .int .i64 C5] (st3 (((t4.setCell ⟨k2.heap.size, 0, none⟩ (.int .i64 A4)).setCell ⟨k2.heap.size, 1, none⟩ (.int .i64 0)).setCell ⟨k2.heap.size, 2, none⟩ (.int .i64 C4)) t1.heap.size A5 C5) := st3_cells z15_5 A5 C5
              have hh6 : LX W0 w1.heap.size w2.heap.size w3.heap.size w4.heap.size n1 n2 g1 f1 l1 g2 f2 l2 A1 C1 A2 0 h1 h2 ta1 ta2 tl1 tc1 tl2 tc2 (st3 (((t4.setCell ⟨k2.heap.size, 0, none⟩ (.int .i64 A4)).setCell ⟨k2.heap.size, 1, none⟩ (.int .i64 0)).setCell ⟨k2.heap.size, 2, none⟩ (.int .i64 C4)) t1.heap.size A5 C5) := lx_st3 hh5 hlo2 bM0 bX0 bN0 bY0 A5 C5
              have hc6 := blk_st3 hb5 (fun e => hne3 e.symm) A5 C5
              unfold st3 at hh6 hb6 hc6
              refine hK.out _ _ hh6 (fun _ => ?_)
              clear hK K
              try simp only [Act.put, List.setIfInBounds_toArray, List.set_cons_zero, List.set_cons_succ]
              refine wpAnyH_done (by kernel_rfl) ?_ _
              have HE := hid_intro hh6
              have HP := hid_intro hc6
              have HQ := hid_intro hb6
              have s0 := HP.out.2 0 (by simp)
              have s2 := HP.out.2 2 (by simp)
              have r0 := HQ.out.2 0 (by simp)
              have r2 := HQ.out.2 2 (by simp)
              have ls := HP.out.1
              have lr := HQ.out.1
              simp only [List.getElem?_cons_zero, List.getElem?_cons_succ] at s0 s2 r0 r2
              have y0 : ((((((t4.setCell ⟨k2.heap.size, 0, none⟩ (.int .i64 A4)).setCell ⟨k2.heap.size, 1, none⟩ (.int .i64 0)).setCell ⟨k2.heap.size, 2, none⟩ (.int .i64 C4)).setCell ⟨t1.heap.size, 0, none⟩ (.int .i64 A5)).setCell ⟨t1.heap.size, 1, none⟩ (.int .i64 0)).setCell ⟨t1.heap.size, 2, none⟩ (.int .i64 C5)).cell? ⟨w4.heap.size, 0, none⟩ = some (.int .i64 A2) := HE.out.2.2.2.2.2.2.2.2.2.2.2.2.2.2.2.2.2.2.2.2.1
              have y1 : ((((((t4.setCell ⟨k2.heap.size, 0, none⟩ (.int .i64 A4)).setCell ⟨k2.heap.size, 1, none⟩ (.int .i64 0)).setCell ⟨k2.heap.size, 2, none⟩ (.int .i64 C4)).setCell ⟨t1.heap.size, 0, none⟩ (.int .i64 A5)).setCell ⟨t1.heap.size, 1, none⟩ (.int .i64 0)).setCell ⟨t1.heap.size, 2, none⟩ (.int .i64 C5)).cell? ⟨w4.heap.size, 1, none⟩ = some (.int .i64 0) := HE.out.2.2.2.2.2.2.2.2.2.2.2.2.2.2.2.2.2.2.2.2.2.1
              have y2 : ((((((t4.setCell ⟨k2.heap.size, 0, none⟩ (.int .i64 A4)).setCell ⟨k2.heap.size, 1, none⟩ (.int .i64 0)).setCell ⟨k2.heap.size, 2, none⟩ (.int .i64 C4)).setCell ⟨t1.heap.size, 0, none⟩ (.int .i64 A5)).setCell ⟨t1.heap.size, 1, none⟩ (.int .i64 0)).setCell ⟨t1.heap.size, 2, none⟩ (.int .i64 C5)).cell? ⟨w4.heap.size, 2, none⟩ = some (.int .i64 0) := HE.out.2.2.2.2.2.2.2.2.2.2.2.2.2.2.2.2.2.2.2.2.2.2
              have lbY : w4.heap.size < ((((((t4.setCell ⟨k2.heap.size, 0, none⟩ (.int .i64 A4)).setCell ⟨k2.heap.size, 1, none⟩ (.int .i64 0)).setCell ⟨k2.heap.size, 2, none⟩ (.int .i64 C4)).setCell ⟨t1.heap.size, 0, none⟩ (.int .i64 A5)).setCell ⟨t1.heap.size, 1, none⟩ (.int .i64 0)).setCell ⟨t1.heap.size, 2, none⟩ (.int .i64 C5)).heap.size := HE.out.2.2.2.2.1
              have HBF := hid_intro (HA4.out.trans ((HE.out).1.mono HA4.out.size))
              clear HE HP HQ
              try clear w26
              try clear w16
              try clear w06
              try clear u26
              try clear u16
              try clear u06
              try clear zl6
              try clear hc6
              try clear hh6
              try clear hb6
              try clear zz6
              try clear w25
              try clear w15
              try clear w05
              try clear u25
              try clear u15
              try clear u05
              try clear zl5
              try clear z15_5
              try clear hh5
              try clear hb5
              try clear zz5
              try clear ht4
              try clear z15_4
              try clear z14_4
              try clear hh4
              try clear hlo3
              try clear z14_3
              try clear hne3
              try clear z15_3
              try clear hh3
              try clear hlo2
              try clear z15_2
              try clear hh2
              try clear ht1
              try clear hh1
              generalize ((((((t4.setCell ⟨k2.heap.size, 0, none⟩ (.int .i64 A4)).setCell ⟨k2.heap.size, 1, none⟩ (.int .i64 0)).setCell ⟨k2.heap.size, 2, none⟩ (.int .i64 C4)).setCell ⟨t1.heap.size, 0, none⟩ (.int .i64 A5)).setCell ⟨t1.heap.size, 1, none⟩ (.int .i64 0)).setCell ⟨t1.heap.size, 2, none⟩ (.int .i64 C5)) = WZ at *
              by_cases h4 : C4 = 0
              · have n4 : (C4 != 0) = false := by simpa using h4
                by_cases h5 : C5 = 0
                · have n5 : (C5 != 0) = false := by simpa using h5
                  have e5 := F2a.out h4 h5
                  go_wp2_with fail
                  go_ret
                  exact ⟨ret_bool (by first | (simp; done) | (simp [e5]; done)), HBF.out⟩
                · have n5 : (C5 != 0) = true := by simpa using h5
                  go_wp2_with fail
                  go_ret
                  exact ⟨rfl, HBF.out⟩
              · have n4 : (C4 != 0) = true := by simpa using h4
                go_wp2_with fail
                go_ret
                exact ⟨rfl, HBF.out⟩
        · go_simp
          try go_wp2_with fail
          have hh1 := LX.below (W0 := W0) (bM := w1.heap.size) (bX := w2.heap.size) (bN := w3.heap.size) (bY := w4.heap.size) (n1 := n1) (n2 := n2) (g1 := g1) (f1 := f1) (l1 := l1) (g2 := g2) (f2 := f2) (l2 := l2) (A1 := A1) (C1 := C1) (A2 := A2) (C2 := 0) (h1 := h1) (h2 := h2) (ta1 := ta1) (ta2 := ta2) (tl1 := tl1) (tc1 := tc1) (tl2 := tl2) (tc2 := tc2) HE1.out ((Below.refl kd.heap.size kd).alloc (Nat.le_refl _) (Obj.cells #[.int .i64 0, .int .i64 0, .int .i64 0] 27))
          have z14_1 := Z3.new kd 27
          have hlo1 : W0.heap.size ≤ kd.heap.size := (HE1.out).1.size
          refine hK.out _ _ hh1 (fun _ => ?_)
          clear hK K
          try simp only [Act.put, List.setIfInBounds_toArray, List.set_cons_zero, List.set_cons_succ]
          generalize (kd.alloc (Obj.cells #[.int .i64 0, .int .i64 0, .int .i64 0] 27)) = k1 at *
          refine wpAnyH_ready (rs := [3, 9]) (by kernel_rfl) (by simp) ?_
          refine AllReadyH.cons (o := { dst := some 103, op := Op.call { callee := Callee.value (Operand.func 13), args := #[Operand.tmp 100, Operand.tmp 101, Operand.tmp 102], argTypes := #[31, 2, 2] }, type := 27, pos := "laws.go:435", after := #[{ on := 0, ground := Ground.data }, { on := 1, ground := Ground.data }, { on := 2, ground := Ground.data }], guard := none }) rfl (fun K hK => ?_) (AllReadyH.cons (o := { dst := some 15, op := Op.alloc 27, type := 0, pos := "laws.go:435", after := #[], guard := none }) rfl (fun K hK => ?_) AllReadyH.nil)
          · go_simp
            go_at_call 13
            refine (c8.out _ (HBt4.out.trans ((hh1).1.mono HBt4.out.size)) (HL.out.below (HA4.out.trans ((hh1).1.mono HA4.out.size)))).mono ?_
            rintro e t2 ⟨rfl, ht2⟩
            try go_wp2_with fail
            have hh2 := LX.below (W0 := W0) (bM := w1.heap.size) (bX := w2.heap.size) (bN := w3.heap.size) (bY := w4.heap.size) (n1 := n1) (n2 := n2) (g1 := g1) (f1 := f1) (l1 := l1) (g2 := g2) (f2 := f2) (l2 := l2) (A1 := A1) (C1 := C1) (A2 := A2) (C2 := 0) (h1 := h1) (h2 := h2) (ta1 := ta1) (ta2 := ta2) (tl1 := tl1) (tc1 := tc1) (tl2 := tl2) (tc2 := tc2) hh1 ht2
            have z14_2 := z14_1.below ht2
            refine hK.out _ _ hh2 (fun _ => ?_)
            clear hK K
            try simp only [Act.put, List.setIfInBounds_toArray, List.set_cons_zero, List.set_cons_succ]
            refine wpAnyH_ready (rs := [7, 9]) (by kernel_rfl) (by simp) ?_
            refine AllReadyH.cons (o := { dst := some 107, op := Op.call { callee := Callee.value (Operand.func 13), args := #[Operand.tmp 104, Operand.tmp 105, Operand.tmp 106], argTypes := #[31, 2, 2] }, type := 27, pos := "laws.go:435", after := #[{ on := 4, ground := Ground.data }, { on := 5, ground := Ground.data }, { on := 6, ground := Ground.data }, { on := 3, ground := Ground.chain }], guard := none }) rfl (fun K hK => ?_) (AllReadyH.cons (o := { dst := some 15, op := Op.alloc 27, type := 0, pos := "laws.go:435", after := #[], guard := none }) rfl (fun K hK => ?_) AllReadyH.nil)
            · go_simp
              go_at_call 13
              refine (c9.out _ (HBt4.out.trans ((hh2).1.mono HBt4.out.size)) (HL.out.below (HA4.out.trans ((hh2).1.mono HA4.out.size)))).mono ?_
              rintro e t3 ⟨rfl, ht3⟩
              try go_wp2_with fail
              have hh3 := LX.below (W0 := W0) (bM := w1.heap.size) (bX := w2.heap.size) (bN := w3.heap.size) (bY := w4.heap.size) (n1 := n1) (n2 := n2) (g1 := g1) (f1 := f1) (l1 := l1) (g2 := g2) (f2 := f2) (l2 := l2) (A1 := A1) (C1 := C1) (A2 := A2) (C2 := 0) (h1 := h1) (h2 := h2) (ta1 := ta1) (ta2 := ta2) (tl1 := tl1) (tc1 := tc1) (tl2 := tl2) (tc2 := tc2) hh2 ht3
              have z14_3 := z14_2.below ht3
              refine hK.out _ _ hh3 (fun _ => ?_)
              clear hK K
              try simp only [Act.put, List.setIfInBounds_toArray, List.set_cons_zero, List.set_cons_succ]
              refine wpAnyH_ready (rs := [9]) (by kernel_rfl) (by simp) ?_
              refine AllReadyH.cons (o := { dst := some 15, op := Op.alloc 27, type := 0, pos := "laws.go:435", after := #[], guard := none }) rfl (fun K hK => ?_) AllReadyH.nil
              go_simp
              try go_wp2_with fail
              have hh4 := LX.below (W0 := W0) (bM := w1.heap.size) (bX := w2.heap.size) (bN := w3.heap.size) (bY := w4.heap.size) (n1 := n1) (n2 := n2) (g1 := g1) (f1 := f1) (l1 := l1) (g2 := g2) (f2 := f2) (l2 := l2) (A1 := A1) (C1 := C1) (A2 := A2) (C2 := 0) (h1 := h1) (h2 := h2) (ta1 := ta1) (ta2 := ta2) (tl1 := tl1) (tc1 := tc1) (tl2 := tl2) (tc2 := tc2) hh3 ((Below.refl t3.heap.size t3).alloc (Nat.le_refl _) (Obj.cells #[.int .i64 0, .int .i64 0, .int .i64 0] 27))
              have z14_4 := z14_3.below ((Below.refl t3.heap.size t3).alloc (Nat.le_refl _) (Obj.cells #[.int .i64 0, .int .i64 0, .int .i64 0] 27))
              have hne4 : kd.heap.size ≠ t3.heap.size := by have := z14_3.1; omega
              have z15_4 := Z3.new t3 27
              have hlo4 : W0.heap.size ≤ t3.heap.size := (hh3).1.size
              refine hK.out _ _ hh4 (fun _ => ?_)
              clear hK K
              try simp only [Act.put, List.setIfInBounds_toArray, List.set_cons_zero, List.set_cons_succ]
              generalize (t3.alloc (Obj.cells #[.int .i64 0, .int .i64 0, .int .i64 0] 27)) = k4 at *
              refine wpAnyH_ready (rs := [10]) (by kernel_rfl) (by simp) ?_
              refine AllReadyH.cons (o := { dst := none, op := Op.store 27 (Operand.tmp 14) (Operand.tmp 103), type := 0, pos := "laws.go:435", after := #[{ on := 8, ground := Ground.data }, { on := 3, ground := Ground.data }, { on := 7, ground := Ground.chain }, { on := 0, ground := Ground.phase }, { on := 1, ground := Ground.phase }, { on := 2, ground := Ground.phase }, { on := 3, ground := Ground.phase }, { on := 4, ground := Ground.textOnly Departure.lateStores }, { on := 5, ground := Ground.textOnly Departure.lateStores }, { on := 6, ground := Ground.textOnly Departure.lateStores }, { on := 7, ground := Ground.textOnly Departure.lateStoresUnsure }, { on := 8, ground := Ground.phase }, { on := 9, ground := Ground.phase }], guard := none }) rfl (fun K hK => ?_) AllReadyH.nil
              have zz5 := z14_4
              obtain ⟨zl5, ⟨e05, u05⟩, ⟨e15, u15⟩, ⟨e25, u25⟩, w05, w15, w25⟩ := zz5
              go_simp
              try go_wp2_with fail
              have hb5 : Blk kd.heap.size [.int .i64 A4, .int .i64 0, .int .i64 C4] (st3 k4 kd.heap.size A4 C4) := st3_cells z14_4 A4 C4
              have hh5 : LX W0 w1.heap.size w2.heap.size w3.heap.size w4.heap.size n1 n2 g1 f1 l1 g2 f2 l2 A1 C1 A2 0 h1 h2 ta1 ta2 tl1 tc1 tl2 tc2 (st3 k4 kd.heap.size A4 C4) := lx_st3 hh4 hlo1 bM0 bX0 bN0 bY0 A4 C4
              have z15_5 := z3_st3 z15_4 (fun e => hne4 e.symm) A4 C4
              unfold st3 at hh5 hb5 z15_5
              refine hK.out _ _ hh5 (fun _ => ?_)
              clear hK K
              try simp only [Act.put, List.setIfInBounds_toArray, List.set_cons_zero, List.set_cons_succ]
              refine wpAnyH_ready (rs := [11]) (by kernel_rfl) (by simp) ?_
              refine AllReadyH.cons (o := { dst := none, op := Op.store 27 (Operand.tmp 15) (Operand.tmp 107), type := 0, pos := "laws.go:435", after := #[{ on := 9, ground := Ground.data }, { on := 7, ground := Ground.data }, { on := 10, ground := Ground.chain }, { on := 0, ground := Ground.phase }, { on := 1, ground := Ground.phase }, { on := 2, ground := Ground.phase }, { on := 3, ground := Ground.phase }, { on := 4, ground := Ground.phase }, { on := 5, ground := Ground.phase }, { on := 6, ground := Ground.phase }, { on := 7, ground := Ground.phase }, { on := 8, ground := Ground.phase }, { on := 9, ground := Ground.phase }, { on := 10, ground := Ground.phase }], guard := none }) rfl (fun K hK => ?_) AllReadyH.nil
              have zz6 := z15_5
              obtain ⟨zl6, ⟨e06, u06⟩, ⟨e16, u16⟩, ⟨e26, u26⟩, w06, w16, w26⟩ := zz6
              go_simp
              try go_wp2_with fail
              have hb6 : Blk t3.heap.size [.int .i64 A5, .int .i64 0, .int .i64 C5] (st3 (((k4.setCell ⟨kd.heap.size, 0, none⟩ (.int .i64 A4)).setCell ⟨kd.heap.size, 1, none⟩ (.int .i64 0)).setCell ⟨kd.heap.size, 2, none⟩ (.int .i64 C4)) t3.heap.size A5 C5) := st3_cells z15_5 A5 C5
              have hh6 : LX W0 w1.heap.size w2.heap.size w3.heap.size w4.heap.size n1 n2 g1 f1 l1 g2 f2 l2 A1 C1 A2 0 h1 h2 ta1 ta2 tl1 tc1 tl2 tc2 (st3 (((k4.setCell ⟨kd.heap.size, 0, none⟩ (.int .i64 A4)).setCell ⟨kd.heap.size, 1, none⟩ (.int .i64 0)).setCell ⟨kd.heap.size, 2, none⟩ (.int .i64 C4)) t3.heap.size A5 C5) := lx_st3 hh5 hlo4 bM0 bX0 bN0 bY0 A5 C5
              have hc6 := blk_st3 hb5 hne4 A5 C5
              unfold st3 at hh6 hb6 hc6
              refine hK.out _ _ hh6 (fun _ => ?_)
              clear hK K
              try simp only [Act.put, List.setIfInBounds_toArray, List.set_cons_zero, List.set_cons_succ]
              refine wpAnyH_done (by kernel_rfl) ?_ _
              have HE := hid_intro hh6
              have HP := hid_intro hc6
              have HQ := hid_intro hb6
              have s0 := HP.out.2 0 (by simp)
              have s2 := HP.out.2 2 (by simp)
              have r0 := HQ.out.2 0 (by simp)
              have r2 := HQ.out.2 2 (by simp)
              have ls := HP.out.1
              have lr := HQ.out.1
              simp only [List.getElem?_cons_zero, List.getElem?_cons_succ] at s0 s2 r0 r2
              have y0 : ((((((k4.setCell ⟨kd.heap.size, 0, none⟩ (.int .i64 A4)).setCell ⟨kd.heap.size, 1, none⟩ (.int .i64 0)).setCell ⟨kd.heap.size, 2, none⟩ (.int .i64 C4)).setCell ⟨t3.heap.size, 0, none⟩ (.int .i64 A5)).setCell ⟨t3.heap.size, 1, none⟩ (.int .i64 0)).setCell ⟨t3.heap.size, 2, none⟩ (.int .i64 C5)).cell? ⟨w4.heap.size, 0, none⟩ = some (.int .i64 A2) := HE.out.2.2.2.2.2.2.2.2.2.2.2.2.2.2.2.2.2.2.2.2.1
              have y1 : ((((((k4.setCell ⟨kd.heap.size, 0, none⟩ (.int .i64 A4)).setCell ⟨kd.heap.size, 1, none⟩ (.int .i64 0)).setCell ⟨kd.heap.size, 2, none⟩ (.int .i64 C4)).setCell ⟨t3.heap.size, 0, none⟩ (.int .i64 A5)).setCell ⟨t3.heap.size, 1, none⟩ (.int .i64 0)).setCell ⟨t3.heap.size, 2, none⟩ (.int .i64 C5)).cell? ⟨w4.heap.size, 1, none⟩ = some (.int .i64 0) := HE.out.2.2.2.2.2.2.2.2.2.2.2.2.2.2.2.2.2.2.2.2.2.1
              have y2 : ((((((k4.setCell ⟨kd.heap.size, 0, none⟩ (.int .i64 A4)).setCell ⟨kd.heap.size, 1, none⟩ (.int .i64 0)).setCell ⟨kd.heap.size, 2, none⟩ (.int .i64 C4)).setCell ⟨t3.heap.size, 0, none⟩ (.int .i64 A5)).setCell ⟨t3.heap.size, 1, none⟩ (.int .i64 0)).setCell ⟨t3.heap.size, 2, none⟩ (.int .i64 C5)).cell? ⟨w4.heap.size, 2, none⟩ = some (.int .i64 0) := HE.out.2.2.2.2.2.2.2.2.2.2.2.2.2.2.2.2.2.2.2.2.2.2
              have lbY : w4.heap.size < ((((((k4.setCell ⟨kd.heap.size, 0, none⟩ (.int .i64 A4)).setCell ⟨kd.heap.size, 1, none⟩ (.int .i64 0)).setCell ⟨kd.heap.size, 2, none⟩ (.int .i64 C4)).setCell ⟨t3.heap.size, 0, none⟩ (.int .i64 A5)).setCell ⟨t3.heap.size, 1, none⟩ (.int .i64 0)).setCell ⟨t3.heap.size, 2, none⟩ (.int .i64 C5)).heap.size := HE.out.2.2.2.2.1
              have HBF := hid_intro (HA4.out.trans ((HE.out).1.mono HA4.out.size))
              clear HE HP HQ
              try clear w26
              try clear w16
              try clear w06
              try clear u26
              try clear u16
              try clear u06
              try clear zl6
              try clear hc6
              try clear hh6
              try clear hb6
              try clear zz6
              try clear w25
              try clear w15
              try clear w05
              try clear u25
              try clear u15
              try clear u05
              try clear zl5
              try clear z15_5
              try clear hh5
              try clear hb5
              try clear zz5
              try clear hlo4
              try clear z15_4
              try clear hne4
              try clear z14_4
              try clear hh4
              try clear ht3
              try clear z14_3
              try clear hh3
              try clear ht2
              try clear z14_2
              try clear hh2
              try clear hlo1
              try clear z14_1
              try clear hh1
              generalize ((((((k4.setCell ⟨kd.heap.size, 0, none⟩ (.int .i64 A4)).setCell ⟨kd.heap.size, 1, none⟩ (.int .i64 0)).setCell ⟨kd.heap.size, 2, none⟩ (.int .i64 C4)).setCell ⟨t3.heap.size, 0, none⟩ (.int .i64 A5)).setCell ⟨t3.heap.size, 1, none⟩ (.int .i64 0)).setCell ⟨t3.heap.size, 2, none⟩ (.int .i64 C5)) = WZ at *
              by_cases h4 : C4 = 0
              · have n4 : (C4 != 0) = false := by simpa using h4
                by_cases h5 : C5 = 0
                · have n5 : (C5 != 0) = false := by simpa using h5
                  have e5 := F2a.out h4 h5
                  go_wp2_with fail
                  go_ret
                  exact ⟨ret_bool (by first | (simp; done) | (simp [e5]; done)), HBF.out⟩
                · have n5 : (C5 != 0) = true := by simpa using h5
                  go_wp2_with fail
                  go_ret
                  exact ⟨rfl, HBF.out⟩
              · have n4 : (C4 != 0) = true := by simpa using h4
                go_wp2_with fail
                go_ret
                exact ⟨rfl, HBF.out⟩
            · go_simp
              try go_wp2_with fail
              have hh3 := LX.below (W0 := W0) (bM := w1.heap.size) (bX := w2.heap.size) (bN := w3.heap.size) (bY := w4.heap.size) (n1 := n1) (n2 := n2) (g1 := g1) (f1 := f1) (l1 := l1) (g2 := g2) (f2 := f2) (l2 := l2) (A1 := A1) (C1 := C1) (A2 := A2) (C2 := 0) (h1 := h1) (h2 := h2) (ta1 := ta1) (ta2 := ta2) (tl1 := tl1) (tc1 := tc1) (tl2 := tl2) (tc2 := tc2) hh2 ((Below.refl t2.heap.size t2).alloc (Nat.le_refl _) (Obj.cells #[.int .i64 0, .int .i64 0, .int .i64 0] 27))
              have z14_3 := z14_2.below ((Below.refl t2.heap.size t2).alloc (Nat.le_refl _) (Obj.cells #[.int .i64 0, .int .i64 0, .int .i64 0] 27))
              have hne3 : kd.heap.size ≠ t2.heap.size := by have := z14_2.1; omega
              have z15_3 := Z3.new t2 27
              have hlo3 : W0.heap.size ≤ t2.heap.size := (hh2).1.size
              refine hK.out _ _ hh3 (fun _ => ?_)
              clear hK K
              try simp only [Act.put, List.setIfInBounds_toArray, List.set_cons_zero, List.set_cons_succ]
              generalize (t2.alloc (Obj.cells #[.int .i64 0, .int .i64 0, .int .i64 0] 27)) = k3 at *
              refine wpAnyH_ready (rs := [7]) (by kernel_rfl) (by simp) ?_
              refine AllReadyH.cons (o := { dst := some 107, op := Op.call { callee := Callee.value (Operand.func 13), args := #[Operand.tmp 104, Operand.tmp 105, Operand.tmp 106], argTypes := #[31, 2, 2] }, type := 27, pos := "laws.go:435", after := #[{ on := 4, ground := Ground.data }, { on := 5, ground := Ground.data }, { on := 6, ground := Ground.data }, { on := 3, ground := Ground.chain }], guard := none }) rfl (fun K hK => ?_) AllReadyH.nil
              go_simp
              go_at_call 13
              refine (c9.out _ (HBt4.out.trans ((hh3).1.mono HBt4.out.size)) (HL.out.below (HA4.out.trans ((hh3).1.mono HA4.out.size)))).mono ?_
              rintro e t4 ⟨rfl, ht4⟩
              try go_wp2_with fail
              have hh4 := LX.below (W0 := W0) (bM := w1.heap.size) (bX := w2.heap.size) (bN := w3.heap.size) (bY := w4.heap.size) (n1 := n1) (n2 := n2) (g1 := g1) (f1 := f1) (l1 := l1) (g2 := g2) (f2 := f2) (l2 := l2) (A1 := A1) (C1 := C1) (A2 := A2) (C2 := 0) (h1 := h1) (h2 := h2) (ta1 := ta1) (ta2 := ta2) (tl1 := tl1) (tc1 := tc1) (tl2 := tl2) (tc2 := tc2) hh3 ht4
              have z14_4 := z14_3.below ht4
              have z15_4 := z15_3.below ht4
              refine hK.out _ _ hh4 (fun _ => ?_)
              clear hK K
              try simp only [Act.put, List.setIfInBounds_toArray, List.set_cons_zero, List.set_cons_succ]
              refine wpAnyH_ready (rs := [10]) (by kernel_rfl) (by simp) ?_
              refine AllReadyH.cons (o := { dst := none, op := Op.store 27 (Operand.tmp 14) (Operand.tmp 103), type := 0, pos := "laws.go:435", after := #[{ on := 8, ground := Ground.data }, { on := 3, ground := Ground.data }, { on := 7, ground := Ground.chain }, { on := 0, ground := Ground.phase }, { on := 1, ground := Ground.phase }, { on := 2, ground := Ground.phase }, { on := 3, ground := Ground.phase }, { on := 4, ground := Ground.textOnly Departure.lateStores }, { on := 5, ground := Ground.textOnly Departure.lateStores }, { on := 6, ground := Ground.textOnly Departure.lateStores }, { on := 7, ground := Ground.textOnly Departure.lateStoresUnsure }, { on := 8, ground := Ground.phase }, { on := 9, ground := Ground.phase }], guard := none }) rfl (fun K hK => ?_) AllReadyH.nil
              have zz5 := z14_4
              obtain ⟨zl5, ⟨e05, u05⟩, ⟨e15, u15⟩, ⟨e25, u25⟩, w05, w15, w25⟩ := zz5
              go_simp
              try go_wp2_with fail
              have hb5 : Blk kd.heap.size [.int .i64 A4, .int .i64 0, .int .i64 C4] (st3 t4 kd.heap.size A4 C4) := st3_cells z14_4 A4 C4
              have hh5 : LX W0 w1.heap.size w2.heap.size w3.heap.size w4.heap.size n1 n2 g1 f1 l1 g2 f2 l2 A1 C1 A2 0 h1 h2 ta1 ta2 tl1 tc1 tl2 tc2 (st3 t4 kd.heap.size A4 C4) := lx_st3 hh4 hlo1 bM0 bX0 bN0 bY0 A4 C4
              have z15_5 := z3_st3 z15_4 (fun e => hne3 e.symm) A4 C4
              unfold st3 at hh5 hb5 z15_5
              refine hK.out _ _ hh5 (fun _ => ?_)
              clear hK K
              try simp only [Act.put, List.setIfInBounds_toArray, List.set_cons_zero, List.set_cons_succ]
              refine wpAnyH_ready (rs := [11]) (by kernel_rfl) (by simp) ?_
              refine AllReadyH.cons (o := { dst := none, op := Op.store 27 (Operand.tmp 15) (Operand.tmp 107), type := 0, pos := "laws.go:435", after := #[{ on := 9, ground := Ground.data }, { on := 7, ground := Ground.data }, { on := 10, ground := Ground.chain }, { on := 0, ground := Ground.phase }, { on := 1, ground := Ground.phase }, { on := 2, ground := Ground.phase }, { on := 3, ground := Ground.phase }, { on := 4, ground := Ground.phase }, { on := 5, ground := Ground.phase }, { on := 6, ground := Ground.phase }, { on := 7, ground := Ground.phase }, { on := 8, ground := Ground.phase }, { on := 9, ground := Ground.phase }, { on := 10, ground := Ground.phase }], guard := none }) rfl (fun K hK => ?_) AllReadyH.nil
              have zz6 := z15_5
              obtain ⟨zl6, ⟨e06, u06⟩, ⟨e16, u16⟩, ⟨e26, u26⟩, w06, w16, w26⟩ := zz6
              go_simp
              try go_wp2_with fail
              have hb6 : Blk t2.heap.size [.int .i64 A5, .int .i64 0, .int .i64 C5] (st3 (((t4.setCell ⟨kd.heap.size, 0, none⟩ (.int .i64 A4)).setCell ⟨kd.heap.size, 1, none⟩ (.int .i64 0)).setCell ⟨kd.heap.size, 2, none⟩ (.int .i64 C4)) t2.heap.size A5 C5) := st3_cells z15_5 A5 C5
              have hh6 : LX W0 w1.heap.size w2.heap.size w3.heap.size w4.heap.size n1 n2 g1 f1 l1 g2 f2 l2 A1 C1 A2 0 h1 h2 ta1 ta2 tl1 tc1 tl2 tc2 (st3 (((t4.setCell ⟨kd.heap.size, 0, none⟩ (.int .i64 A4)).setCell ⟨kd.heap.size, 1, none⟩ (.int .i64 0)).setCell ⟨kd.heap.size, 2, none⟩ (.int .i64 C4)) t2.heap.size A5 C5) := lx_st3 hh5 hlo3 bM0 bX0 bN0 bY0 A5 C5
              have hc6 := blk_st3 hb5 hne3 A5 C5
              unfold st3 at hh6 hb6 hc6
              refine hK.out _ _ hh6 (fun _ => ?_)
              clear hK K
              try simp only [Act.put, List.setIfInBounds_toArray, List.set_cons_zero, List.set_cons_succ]
              refine wpAnyH_done (by kernel_rfl) ?_ _
              have HE := hid_intro hh6
              have HP := hid_intro hc6
              have HQ := hid_intro hb6
              have s0 := HP.out.2 0 (by simp)
              have s2 := HP.out.2 2 (by simp)
              have r0 := HQ.out.2 0 (by simp)
              have r2 := HQ.out.2 2 (by simp)
              have ls := HP.out.1
              have lr := HQ.out.1
              simp only [List.getElem?_cons_zero, List.getElem?_cons_succ] at s0 s2 r0 r2
              have y0 : ((((((t4.setCell ⟨kd.heap.size, 0, none⟩ (.int .i64 A4)).setCell ⟨kd.heap.size, 1, none⟩ (.int .i64 0)).setCell ⟨kd.heap.size, 2, none⟩ (.int .i64 C4)).setCell ⟨t2.heap.size, 0, none⟩ (.int .i64 A5)).setCell ⟨t2.heap.size, 1, none⟩ (.int .i64 0)).setCell ⟨t2.heap.size, 2, none⟩ (.int .i64 C5)).cell? ⟨w4.heap.size, 0, none⟩ = some (.int .i64 A2) := HE.out.2.2.2.2.2.2.2.2.2.2.2.2.2.2.2.2.2.2.2.2.1
              have y1 : ((((((t4.setCell ⟨kd.heap.size, 0, none⟩ (.int .i64 A4)).setCell ⟨kd.heap.size, 1, none⟩ (.int .i64 0)).setCell ⟨kd.heap.size, 2, none⟩ (.int .i64 C4)).setCell ⟨t2.heap.size, 0, none⟩ (.int .i64 A5)).setCell ⟨t2.heap.size, 1, none⟩ (.int .i64 0)).setCell ⟨t2.heap.size, 2, none⟩ (.int .i64 C5)).cell? ⟨w4.heap.size, 1, none⟩ = some (.int .i64 0) := HE.out.2.2.2.2.2.2.2.2.2.2.2.2.2.2.2.2.2.2.2.2.2.1
              have y2 : ((((((t4.setCell ⟨kd.heap.size, 0, none⟩ (.int .i64 A4)).setCell ⟨kd.heap.size, 1, none⟩ (.int .i64 0)).setCell ⟨kd.heap.size, 2, none⟩ (.int .i64 C4)).setCell ⟨t2.heap.size, 0, none⟩ (.int .i64 A5)).setCell ⟨t2.heap.size, 1, none⟩ (.int .i64 0)).setCell ⟨t2.heap.size, 2, none⟩ (.int .i64 C5)).cell? ⟨w4.heap.size, 2, none⟩ = some (.int .i64 0) := HE.out.2.2.2.2.2.2.2.2.2.2.2.2.2.2.2.2.2.2.2.2.2.2
              have lbY : w4.heap.size < ((((((t4.setCell ⟨kd.heap.size, 0, none⟩ (.int .i64 A4)).setCell ⟨kd.heap.size, 1, none⟩ (.int .i64 0)).setCell ⟨kd.heap.size, 2, none⟩ (.int .i64 C4)).setCell ⟨t2.heap.size, 0, none⟩ (.int .i64 A5)).setCell ⟨t2.heap.size, 1, none⟩ (.int .i64 0)).setCell ⟨t2.heap.size, 2, none⟩ (.int .i64 C5)).heap.size := HE.out.2.2.2.2.1
              have HBF := hid_intro (HA4.out.trans ((HE.out).1.mono HA4.out.size))
              clear HE HP HQ
              try clear w26
              try clear w16
              try clear w06
              try clear u26
              try clear u16
              try clear u06
              try clear zl6
              try clear hc6
              try clear hh6
              try clear hb6
              try clear zz6
              try clear w25
              try clear w15
              try clear w05
              try clear u25
              try clear u15
              try clear u05
              try clear zl5
              try clear z15_5
              try clear hh5
              try clear hb5
              try clear zz5
              try clear ht4
              try clear z15_4
              try clear z14_4
              try clear hh4
              try clear hlo3
              try clear z15_3
              try clear hne3
              try clear z14_3
              try clear hh3
              try clear ht2
              try clear z14_2
              try clear hh2
              try clear hlo1
              try clear z14_1
              try clear hh1
              generalize ((((((t4.setCell ⟨kd.heap.size, 0, none⟩ (.int .i64 A4)).setCell ⟨kd.heap.size, 1, none⟩ (.int .i64 0)).setCell ⟨kd.heap.size, 2, none⟩ (.int .i64 C4)).setCell ⟨t2.heap.size, 0, none⟩ (.int .i64 A5)).setCell ⟨t2.heap.size, 1, none⟩ (.int .i64 0)).setCell ⟨t2.heap.size, 2, none⟩ (.int .i64 C5)) = WZ at *
              by_cases h4 : C4 = 0
              · have n4 : (C4 != 0) = false := by simpa using h4
                by_cases h5 : C5 = 0
                · have n5 : (C5 != 0) = false := by simpa using h5
                  have e5 := F2a.out h4 h5
                  go_wp2_with fail
                  go_ret
                  exact ⟨ret_bool (by first | (simp; done) | (simp [e5]; done)), HBF.out⟩
                · have n5 : (C5 != 0) = true := by simpa using h5
                  go_wp2_with fail
                  go_ret
                  exact ⟨rfl, HBF.out⟩
              · have n4 : (C4 != 0) = true := by simpa using h4
                go_wp2_with fail
                go_ret
                exact ⟨rfl, HBF.out⟩
          · go_simp
            try go_wp2_with fail
            have hh2 := LX.below (W0 := W0) (bM := w1.heap.size) (bX := w2.heap.size) (bN := w3.heap.size) (bY := w4.heap.size) (n1 := n1) (n2 := n2) (g1 := g1) (f1 := f1) (l1 := l1) (g2 := g2) (f2 := f2) (l2 := l2) (A1 := A1) (C1 := C1) (A2 := A2) (C2 := 0) (h1 := h1) (h2 := h2) (ta1 := ta1) (ta2 := ta2) (tl1 := tl1) (tc1 := tc1) (tl2 := tl2) (tc2 := tc2) hh1 ((Below.refl k1.heap.size k1).alloc (Nat.le_refl _) (Obj.cells #[.int .i64 0, .int .i64 0, .int .i64 0] 27))
            have z14_2 := z14_1.below ((Below.refl k1.heap.size k1).alloc (Nat.le_refl _) (Obj.cells #[.int .i64 0, .int .i64 0, .int .i64 0] 27))
            have hne2 : kd.heap.size ≠ k1.heap.size := by have := z14_1.1; omega
            have z15_2 := Z3.new k1 27
            have hlo2 : W0.heap.size ≤ k1.heap.size := (hh1).1.size
            refine hK.out _ _ hh2 (fun _ => ?_)
            clear hK K
            try simp only [Act.put, List.setIfInBounds_toArray, List.set_cons_zero, List.set_cons_succ]
            generalize (k1.alloc (Obj.cells #[.int .i64 0, .int .i64 0, .int .i64 0] 27)) = k2 at *
            refine wpAnyH_ready (rs := [3]) (by kernel_rfl) (by simp) ?_
            refine AllReadyH.cons (o := { dst := some 103, op := Op.call { callee := Callee.value (Operand.func 13), args := #[Operand.tmp 100, Operand.tmp 101, Operand.tmp 102], argTypes := #[31, 2, 2] }, type := 27, pos := "laws.go:435", after := #[{ on := 0, ground := Ground.data }, { on := 1, ground := Ground.data }, { on := 2, ground := Ground.data }], guard := none }) rfl (fun K hK => ?_) AllReadyH.nil
            go_simp
            go_at_call 13
            refine (c8.out _ (HBt4.out.trans ((hh2).1.mono HBt4.out.size)) (HL.out.below (HA4.out.trans ((hh2).1.mono HA4.out.size)))).mono ?_
            rintro e t3 ⟨rfl, ht3⟩
            try go_wp2_with fail
            have hh3 := LX.below (W0 := W0) (bM := w1.heap.size) (bX := w2.heap.size) (bN := w3.heap.size) (bY := w4.heap.size) (n1 := n1) (n2 := n2) (g1 := g1) (f1 := f1) (l1 := l1) (g2 := g2) (f2 := f2) (l2 := l2) (A1 := A1) (C1 := C1) (A2 := A2) (C2 := 0) (h1 := h1) (h2 := h2) (ta1 := ta1) (ta2 := ta2) (tl1 := tl1) (tc1 := tc1) (tl2 := tl2) (tc2 := tc2) hh2 ht3
            have z14_3 := z14_2.below ht3
            have z15_3 := z15_2.below ht3
            refine hK.out _ _ hh3 (fun _ => ?_)
            clear hK K
            try simp only [Act.put, List.setIfInBounds_toArray, List.set_cons_zero, List.set_cons_succ]
            refine wpAnyH_ready (rs := [7]) (by kernel_rfl) (by simp) ?_
            refine AllReadyH.cons (o := { dst := some 107, op := Op.call { callee := Callee.value (Operand.func 13), args := #[Operand.tmp 104, Operand.tmp 105, Operand.tmp 106], argTypes := #[31, 2, 2] }, type := 27, pos := "laws.go:435", after := #[{ on := 4, ground := Ground.data }, { on := 5, ground := Ground.data }, { on := 6, ground := Ground.data }, { on := 3, ground := Ground.chain }], guard := none }) rfl (fun K hK => ?_) AllReadyH.nil
            go_simp
            go_at_call 13
            refine (c9.out _ (HBt4.out.trans ((hh3).1.mono HBt4.out.size)) (HL.out.below (HA4.out.trans ((hh3).1.mono HA4.out.size)))).mono ?_
            rintro e t4 ⟨rfl, ht4⟩
            try go_wp2_with fail
            have hh4 := LX.below (W0 := W0) (bM := w1.heap.size) (bX := w2.heap.size) (bN := w3.heap.size) (bY := w4.heap.size) (n1 := n1) (n2 := n2) (g1 := g1) (f1 := f1) (l1 := l1) (g2 := g2) (f2 := f2) (l2 := l2) (A1 := A1) (C1 := C1) (A2 := A2) (C2 := 0) (h1 := h1) (h2 := h2) (ta1 := ta1) (ta2 := ta2) (tl1 := tl1) (tc1 := tc1) (tl2 := tl2) (tc2 := tc2) hh3 ht4
            have z14_4 := z14_3.below ht4
            have z15_4 := z15_3.below ht4
            refine hK.out _ _ hh4 (fun _ => ?_)
            clear hK K
            try simp only [Act.put, List.setIfInBounds_toArray, List.set_cons_zero, List.set_cons_succ]
            refine wpAnyH_ready (rs := [10]) (by kernel_rfl) (by simp) ?_
            refine AllReadyH.cons (o := { dst := none, op := Op.store 27 (Operand.tmp 14) (Operand.tmp 103), type := 0, pos := "laws.go:435", after := #[{ on := 8, ground := Ground.data }, { on := 3, ground := Ground.data }, { on := 7, ground := Ground.chain }, { on := 0, ground := Ground.phase }, { on := 1, ground := Ground.phase }, { on := 2, ground := Ground.phase }, { on := 3, ground := Ground.phase }, { on := 4, ground := Ground.textOnly Departure.lateStores }, { on := 5, ground := Ground.textOnly Departure.lateStores }, { on := 6, ground := Ground.textOnly Departure.lateStores }, { on := 7, ground := Ground.textOnly Departure.lateStoresUnsure }, { on := 8, ground := Ground.phase }, { on := 9, ground := Ground.phase }], guard := none }) rfl (fun K hK => ?_) AllReadyH.nil
            have zz5 := z14_4
            obtain ⟨zl5, ⟨e05, u05⟩, ⟨e15, u15⟩, ⟨e25, u25⟩, w05, w15, w25⟩ := zz5
            go_simp
            try go_wp2_with fail
            have hb5 : Blk kd.heap.size [.int .i64 A4, .int .i64 0, .int .i64 C4] (st3 t4 kd.heap.size A4 C4) := st3_cells z14_4 A4 C4
            have hh5 : LX W0 w1.heap.size w2.heap.size w3.heap.size w4.heap.size n1 n2 g1 f1 l1 g2 f2 l2 A1 C1 A2 0 h1 h2 ta1 ta2 tl1 tc1 tl2 tc2 (st3 t4 kd.heap.size A4 C4) := lx_st3 hh4 hlo1 bM0 bX0 bN0 bY0 A4 C4
            have z15_5 := z3_st3 z15_4 (fun e => hne2 e.symm) A4 C4
            unfold st3 at hh5 hb5 z15_5
            refine hK.out _ _ hh5 (fun _ => ?_)
            clear hK K
            try simp only [Act.put, List.setIfInBounds_toArray, List.set_cons_zero, List.set_cons_succ]
            refine wpAnyH_ready (rs := [11]) (by kernel_rfl) (by simp) ?_
            refine AllReadyH.cons (o := { dst := none, op := Op.store 27 (Operand.tmp 15) (Operand.tmp 107), type := 0, pos := "laws.go:435", after := #[{ on := 9, ground := Ground.data }, { on := 7, ground := Ground.data }, { on := 10, ground := Ground.chain }, { on := 0, ground := Ground.phase }, { on := 1, ground := Ground.phase }, { on := 2, ground := Ground.phase }, { on := 3, ground := Ground.phase }, { on := 4, ground := Ground.phase }, { on := 5, ground := Ground.phase }, { on := 6, ground := Ground.phase }, { on := 7, ground := Ground.phase }, { on := 8, ground := Ground.phase }, { on := 9, ground := Ground.phase }, { on := 10, ground := Ground.phase }], guard := none }) rfl (fun K hK => ?_) AllReadyH.nil
            have zz6 := z15_5
            obtain ⟨zl6, ⟨e06, u06⟩, ⟨e16, u16⟩, ⟨e26, u26⟩, w06, w16, w26⟩ := zz6
            go_simp
            try go_wp2_with fail
            have hb6 : Blk k1.heap.size [.int .i64 A5, .int .i64 0, .int .i64 C5] (st3 (((t4.setCell ⟨kd.heap.size, 0, none⟩ (.int .i64 A4)).setCell ⟨kd.heap.size, 1, none⟩ (.int .i64 0)).setCell ⟨kd.heap.size, 2, none⟩ (.int .i64 C4)) k1.heap.size A5 C5) := st3_cells z15_5 A5 C5
            have hh6 : LX W0 w1.heap.size w2.heap.size w3.heap.size w4.heap.size n1 n2 g1 f1 l1 g2 f2 l2 A1 C1 A2 0 h1 h2 ta1 ta2 tl1 tc1 tl2 tc2 (st3 (((t4.setCell ⟨kd.heap.size, 0, none⟩ (.int .i64 A4)).setCell ⟨kd.heap.size, 1, none⟩ (.int .i64 0)).setCell ⟨kd.heap.size, 2, none⟩ (.int .i64 C4)) k1.heap.size A5 C5) := lx_st3 hh5 hlo2 bM0 bX0 bN0 bY0 A5 C5
            have hc6 := blk_st3 hb5 hne2 A5 C5
            unfold st3 at hh6 hb6 hc6
            refine hK.out _ _ hh6 (fun _ => ?_)
            clear hK K
            try simp only [Act.put, List.setIfInBounds_toArray, List.set_cons_zero, List.set_cons_succ]
            refine wpAnyH_done (by kernel_rfl) ?_ _
            have HE := hid_intro hh6
            have HP := hid_intro hc6
            have HQ := hid_intro hb6
            have s0 := HP.out.2 0 (by simp)
            have s2 := HP.out.2 2 (by simp)
            have r0 := HQ.out.2 0 (by simp)
            have r2 := HQ.out.2 2 (by simp)
            have ls := HP.out.1
            have lr := HQ.out.1
            simp only [List.getElem?_cons_zero, List.getElem?_cons_succ] at s0 s2 r0 r2
            have y0 : ((((((t4.setCell ⟨kd.heap.size, 0, none⟩ (.int .i64 A4)).setCell ⟨kd.heap.size, 1, none⟩ (.int .i64 0)).setCell ⟨kd.heap.size, 2, none⟩ (.int .i64 C4)).setCell ⟨k1.heap.size, 0, none⟩ (.int .i64 A5)).setCell ⟨k1.heap.size, 1, none⟩ (.int .i64 0)).setCell ⟨k1.heap.size, 2, none⟩ (.int .i64 C5)).cell? ⟨w4.heap.size, 0, none⟩ = some (.int .i64 A2) := HE.out.2.2.2.2.2.2.2.2.2.2.2.2.2.2.2.2.2.2.2.2.1
            have y1 : ((((((t4.setCell ⟨kd.heap.size, 0, none⟩ (.int .i64 A4)).setCell ⟨kd.heap.size, 1, none⟩ (.int .i64 0)).setCell ⟨kd.heap.size, 2, none⟩ (.int .i64 C4)).setCell ⟨k1.heap.size, 0, none⟩ (.int .i64 A5)).setCell ⟨k1.heap.size, 1, none⟩ (.int .i64 0)).setCell ⟨k1.heap.size, 2, none⟩ (.int .i64 C5)).cell? ⟨w4.heap.size, 1, none⟩ = some (.int .i64 0) := HE.out.2.2.2.2.2.2.2.2.2.2.2.2.2.2.2.2.2.2.2.2.2.1
            have y2 : ((((((t4.setCell ⟨kd.heap.size, 0, none⟩ (.int .i64 A4)).setCell ⟨kd.heap.size, 1, none⟩ (.int .i64 0)).setCell ⟨kd.heap.size, 2, none⟩ (.int .i64 C4)).setCell ⟨k1.heap.size, 0, none⟩ (.int .i64 A5)).setCell ⟨k1.heap.size, 1, none⟩ (.int .i64 0)).setCell ⟨k1.heap.size, 2, none⟩ (.int .i64 C5)).cell? ⟨w4.heap.size, 2, none⟩ = some (.int .i64 0) := HE.out.2.2.2.2.2.2.2.2.2.2.2.2.2.2.2.2.2.2.2.2.2.2
            have lbY : w4.heap.size < ((((((t4.setCell ⟨kd.heap.size, 0, none⟩ (.int .i64 A4)).setCell ⟨kd.heap.size, 1, none⟩ (.int .i64 0)).setCell ⟨kd.heap.size, 2, none⟩ (.int .i64 C4)).setCell ⟨k1.heap.size, 0, none⟩ (.int .i64 A5)).setCell ⟨k1.heap.size, 1, none⟩ (.int .i64 0)).setCell ⟨k1.heap.size, 2, none⟩ (.int .i64 C5)).heap.size := HE.out.2.2.2.2.1
            have HBF := hid_intro (HA4.out.trans ((HE.out).1.mono HA4.out.size))
            clear HE HP HQ
            try clear w26
            try clear w16
            try clear w06
            try clear u26
            try clear u16
            try clear u06
            try clear zl6
            try clear hc6
            try clear hh6
            try clear hb6
            try clear zz6
            try clear w25
            try clear w15
            try clear w05
            try clear u25
            try clear u15
            try clear u05
            try clear zl5
            try clear z15_5
            try clear hh5
            try clear hb5
            try clear zz5
            try clear ht4
            try clear z15_4
            try clear z14_4
            try clear hh4
            try clear ht3
            try clear z15_3
            try clear z14_3
            try clear hh3
            try clear hlo2
            try clear z15_2
            try clear hne2
            try clear z14_2
            try clear hh2
            try clear hlo1
            try clear z14_1
            try clear hh1
            generalize ((((((t4.setCell ⟨kd.heap.size, 0, none⟩ (.int .i64 A4)).setCell ⟨kd.heap.size, 1, none⟩ (.int .i64 0)).setCell ⟨kd.heap.size, 2, none⟩ (.int .i64 C4)).setCell ⟨k1.heap.size, 0, none⟩ (.int .i64 A5)).setCell ⟨k1.heap.size, 1, none⟩ (.int .i64 0)).setCell ⟨k1.heap.size, 2, none⟩ (.int .i64 C5)) = WZ at *
            by_cases h4 : C4 = 0
            · have n4 : (C4 != 0) = false := by simpa using h4
              by_cases h5 : C5 = 0
              · have n5 : (C5 != 0) = false := by simpa using h5
                have e5 := F2a.out h4 h5
                go_wp2_with fail
                go_ret
                exact ⟨ret_bool (by first | (simp; done) | (simp [e5]; done)), HBF.out⟩
              · have n5 : (C5 != 0) = true := by simpa using h5
                go_wp2_with fail
                go_ret
                exact ⟨rfl, HBF.out⟩
            · have n4 : (C4 != 0) = true := by simpa using h4
              go_wp2_with fail
              go_ret
              exact ⟨rfl, HBF.out⟩
        · go_simp
          try go_wp2_with fail
          have hh1 := LX.below (W0 := W0) (bM := w1.heap.size) (bX := w2.heap.size) (bN := w3.heap.size) (bY := w4.heap.size) (n1 := n1) (n2 := n2) (g1 := g1) (f1 := f1) (l1 := l1) (g2 := g2) (f2 := f2) (l2 := l2) (A1 := A1) (C1 := C1) (A2 := A2) (C2 := 0) (h1 := h1) (h2 := h2) (ta1 := ta1) (ta2 := ta2) (tl1 := tl1) (tc1 := tc1) (tl2 := tl2) (tc2 := tc2) HE1.out ((Below.refl kd.heap.size kd).alloc (Nat.le_refl _) (Obj.cells #[.int .i64 0, .int .i64 0, .int .i64 0] 27))
          have z15_1 := Z3.new kd 27
          have hlo1 : W0.heap.size ≤ kd.heap.size := (HE1.out).1.size
          refine hK.out _ _ hh1 (fun _ => ?_)
          clear hK K
          try simp only [Act.put, List.setIfInBounds_toArray, List.set_cons_zero, List.set_cons_succ]
          generalize (kd.alloc (Obj.cells #[.int .i64 0, .int .i64 0, .int .i64 0] 27)) = k1 at *
          refine wpAnyH_ready (rs := [3, 8]) (by kernel_rfl) (by simp) ?_
          refine AllReadyH.cons (o := { dst := some 103, op := Op.call { callee := Callee.value (Operand.func 13), args := #[Operand.tmp 100, Operand.tmp 101, Operand.tmp 102], argTypes := #[31, 2, 2] }, type := 27, pos := "laws.go:435", after := #[{ on := 0, ground := Ground.data }, { on := 1, ground := Ground.data }, { on := 2, ground := Ground.data }], guard := none }) rfl (fun K hK => ?_) (AllReadyH.cons (o := { dst := some 14, op := Op.alloc 27, type := 0, pos := "laws.go:435", after := #[], guard := none }) rfl (fun K hK => ?_) AllReadyH.nil)
          · go_simp
            go_at_call 13
            refine (c8.out _ (HBt4.out.trans ((hh1).1.mono HBt4.out.size)) (HL.out.below (HA4.out.trans ((hh1).1.mono HA4.out.size)))).mono ?_
            rintro e t2 ⟨rfl, ht2⟩
            try go_wp2_with fail
            have hh2 := LX.below (W0 := W0) (bM := w1.heap.size) (bX := w2.heap.size) (bN := w3.heap.size) (bY := w4.heap.size) (n1 := n1) (n2 := n2) (g1 := g1) (f1 := f1) (l1 := l1) (g2 := g2) (f2 := f2) (l2 := l2) (A1 := A1) (C1 := C1) (A2 := A2) (C2 := 0) (h1 := h1) (h2 := h2) (ta1 := ta1) (ta2 := ta2) (tl1 := tl1) (tc1 := tc1) (tl2 := tl2) (tc2 := tc2) hh1 ht2
            have z15_2 := z15_1.below ht2
            refine hK.out _ _ hh2 (fun _ => ?_)
            clear hK K
            try simp only [Act.put, List.setIfInBounds_toArray, List.set_cons_zero, List.set_cons_succ]
            refine wpAnyH_ready (rs := [7, 8]) (by kernel_rfl) (by simp) ?_
            refine AllReadyH.cons (o := { dst := some 107, op := Op.call { callee := Callee.value (Operand.func 13), args := #[Operand.tmp 104, Operand.tmp 105, Operand.tmp 106], argTypes := #[31, 2, 2] }, type := 27, pos := "laws.go:435", after := #[{ on := 4, ground := Ground.data }, { on := 5, ground := Ground.data }, { on := 6, ground := Ground.data }, { on := 3, ground := Ground.chain }], guard := none }) rfl (fun K hK => ?_) (AllReadyH.cons (o := { dst := some 14, op := Op.alloc 27, type := 0, pos := "laws.go:435", after := #[], guard := none }) rfl (fun K hK => ?_) AllReadyH.nil)
            · go_simp
              go_at_call 13
              refine (c9.out _ (HBt4.out.trans ((hh2).1.mono HBt4.out.size)) (HL.out.below (HA4.out.trans ((hh2).1.mono HA4.out.size)))).mono ?_
              rintro e t3 ⟨rfl, ht3⟩
              try go_wp2_with fail
              have hh3 := LX.below (W0 := W0) (bM := w1.heap.size) (bX := w2.heap.size) (bN := w3.heap.size) (bY := w4.heap.size) (n1 := n1) (n2 := n2) (g1 := g1) (f1 := f1) (l1 := l1) (g2 := g2) (f2 := f2) (l2 := l2) (A1 := A1) (C1 := C1) (A2 := A2) (C2 := 0) (h1 := h1) (h2 := h2) (ta1 := ta1) (ta2 := ta2) (tl1 := tl1) (tc1 := tc1) (tl2 := tl2) (tc2 := tc2) hh2 ht3
              have z15_3 := z15_2.below ht3
              refine hK.out _ _ hh3 (fun _ => ?_)
              clear hK K
              try simp only [Act.put, List.setIfInBounds_toArray, List.set_cons_zero, List.set_cons_succ]
              refine wpAnyH_ready (rs := [8]) (by kernel_rfl) (by simp) ?_
              refine AllReadyH.cons (o := { dst := some 14, op := Op.alloc 27, type := 0, pos := "laws.go:435", after := #[], guard := none }) rfl (fun K hK => ?_) AllReadyH.nil
              go_simp
              try go_wp2_with fail
              have hh4 := LX.below (W0 := W0) (bM := w1.heap.size) (bX := w2.heap.size) (bN := w3.heap.size) (bY := w4.heap.size) (n1 := n1) (n2 := n2) (g1 := g1) (f1 := f1) (l1 := l1) (g2 := g2) (f2 := f2) (l2 := l2) (A1 := A1) (C1 := C1) (A2 := A2) (C2 := 0) (h1 := h1) (h2 := h2) (ta1 := ta1) (ta2 := ta2) (tl1 := tl1) (tc1 := tc1) (tl2 := tl2) (tc2 := tc2) hh3 ((Below.refl t3.heap.size t3).alloc (Nat.le_refl _) (Obj.cells #[.int .i64 0, .int .i64 0, .int .i64 0] 27))
              have z15_4 := z15_3.below ((Below.refl t3.heap.size t3).alloc (Nat.le_refl _) (Obj.cells #[.int .i64 0, .int .i64 0, .int .i64 0] 27))
              have hne4 : kd.heap.size ≠ t3.heap.size := by have := z15_3.1; omega
              have z14_4 := Z3.new t3 27
              have hlo4 : W0.heap.size ≤ t3.heap.size := (hh3).1.size
              refine hK.out _ _ hh4 (fun _ => ?_)
              clear hK K
              try simp only [Act.put, List.setIfInBounds_toArray, List.set_cons_zero, List.set_cons_succ]
              generalize (t3.alloc (Obj.cells #[.int .i64 0, .int .i64 0, .int .i64 0] 27)) = k4 at *
              refine wpAnyH_ready (rs := [10]) (by kernel_rfl) (by simp) ?_
              refine AllReadyH.cons (o := { dst := none, op := Op.store 27 (Operand.tmp 14) (Operand.tmp 103), type := 0, pos := "laws.go:435", after := #[{ on := 8, ground := Ground.data }, { on := 3, ground := Ground.data }, { on := 7, ground := Ground.chain }, { on := 0, ground := Ground.phase }, { on := 1, ground := Ground.phase }, { on := 2, ground := Ground.phase }, { on := 3, ground := Ground.phase }, { on := 4, ground := Ground.textOnly Departure.lateStores }, { on := 5, ground := Ground.textOnly Departure.lateStores }, { on := 6, ground := Ground.textOnly Departure.lateStores }, { on := 7, ground := Ground.textOnly Departure.lateStoresUnsure }, { on := 8, ground := Ground.phase }, { on := 9, ground := Ground.phase }], guard := none }) rfl (fun K hK => ?_) AllReadyH.nil
              have zz5 := z14_4
              obtain ⟨zl5, ⟨e05, u05⟩, ⟨e15, u15⟩, ⟨e25, u25⟩, w05, w15, w25⟩ := zz5
              go_simp
              try go_wp2_with fail
              have hb5 : Blk t3.heap.size [.int .i64 A4, .int .i64 0, .int .i64 C4] (st3 k4 t3.heap.size A4 C4) := st3_cells z14_4 A4 C4
              have hh5 : LX W0 w1.heap.size w2.heap.size w3.heap.size w4.heap.size n1 n2 g1 f1 l1 g2 f2 l2 A1 C1 A2 0 h1 h2 ta1 ta2 tl1 tc1 tl2 tc2 (st3 k4 t3.heap.size A4 C4) := lx_st3 hh4 hlo4 bM0 bX0 bN0 bY0 A4 C4
              have z15_5 := z3_st3 z15_4 hne4 A4 C4
              unfold st3 at hh5 hb5 z15_5
              refine hK.out _ _ hh5 (fun _ => ?_)
              clear hK K
              try simp only [Act.put, List.setIfInBounds_toArray, List.set_cons_zero, List.set_cons_succ]
              refine wpAnyH_ready (rs := [11]) (by kernel_rfl) (by simp) ?_
              refine AllReadyH.cons (o := { dst := none, op := Op.store 27 (Operand.tmp 15) (Operand.tmp 107), type := 0, pos := "laws.go:435", after := #[{ on := 9, ground := Ground.data }, { on := 7, ground := Ground.data }, { on := 10, ground := Ground.chain }, { on := 0, ground := Ground.phase }, { on := 1, ground := Ground.phase }, { on := 2, ground := Ground.phase }, { on := 3, ground := Ground.phase }, { on := 4, ground := Ground.phase }, { on := 5, ground := Ground.phase }, { on := 6, ground := Ground.phase }, { on := 7, ground := Ground.phase }, { on := 8, ground := Ground.phase }, { on := 9, ground := Ground.phase }, { on := 10, ground := Ground.phase }], guard := none }) rfl (fun K hK => ?_) AllReadyH.nil
              have zz6 := z15_5
              obtain ⟨zl6, ⟨e06, u06⟩, ⟨e16, u16⟩, ⟨e26, u26⟩, w06, w16, w26⟩ := zz6
              go_simp
              try go_wp2_with fail
              have hb6 : Blk kd.heap.size [.int .i64 A5, .int .i64 0, .int .i64 C5] (st3 (((k4.setCell ⟨t3.heap.size, 0, none⟩ (.int .i64 A4)).setCell ⟨t3.heap.size, 1, none⟩ (.int .i64 0)).setCell ⟨t3.heap.size, 2, none⟩ (.int .i64 C4)) kd.heap.size A5 C5) := st3_cells z15_5 A5 C5
              have hh6 : LX W0 w1.heap.size w2.heap.size w3.heap.size w4.heap.size n1 n2 g1 f1 l1 g2 f2 l2 A1 C1 A2 0 h1 h2 ta1 ta2 tl1 tc1 tl2 tc2 (st3 (((k4.setCell ⟨t3.heap.size, 0, none⟩ (.int .i64 A4)).setCell ⟨t3.heap.size, 1, none⟩ (.int .i64 0)).setCell ⟨t3.heap.size, 2, none⟩ (.int .i64 C4)) kd.heap.size A5 C5) := lx_st3 hh5 hlo1 bM0 bX0 bN0 bY0 A5 C5
              have hc6 := blk_st3 hb5 (fun e => hne4 e.symm) A5 C5
              unfold st3 at hh6 hb6 hc6
              refine hK.out _ _ hh6 (fun _ => ?_)
              clear hK K
              try simp only [Act.put, List.setIfInBounds_toArray, List.set_cons_zero, List.set_cons_succ]
              refine wpAnyH_done (by kernel_rfl) ?_ _
              have HE := hid_intro hh6
              have HP := hid_intro hc6
              have HQ := hid_intro hb6
              have s0 := HP.out.2 0 (by simp)
              have s2 := HP.out.2 2 (by simp)
              have r0 := HQ.out.2 0 (by simp)
              have r2 := HQ.out.2 2 (by simp)
              have ls := HP.out.1
              have lr := HQ.out.1
              simp only [List.getElem?_cons_zero, List.getElem?_cons_succ] at s0 s2 r0 r2
              have y0 : ((((((k4.setCell ⟨t3.heap.size, 0, none⟩ (.int .i64 A4)).setCell ⟨t3.heap.size, 1, none⟩ (.int .i64 0)).setCell ⟨t3.heap.size, 2, none⟩ (.int .i64 C4)).setCell ⟨kd.heap.size, 0, none⟩ (.int .i64 A5)).setCell ⟨kd.heap.size, 1, none⟩ (.int .i64 0)).setCell ⟨kd.heap.size, 2, none⟩ (.int .i64 C5)).cell? ⟨w4.heap.size, 0, none⟩ = some (.int .i64 A2) := HE.out.2.2.2.2.2.2.2.2.2.2.2.2.2.2.2.2.2.2.2.2.1
              have y1 : ((((((k4.setCell ⟨t3.heap.size, 0, none⟩ (.int .i64 A4)).setCell ⟨t3.heap.size, 1, none⟩ (.int .i64 0)).setCell ⟨t3.heap.size, 2, none⟩ (.int .i64 C4)).setCell ⟨kd.heap.size, 0, none⟩ (.int .i64 A5)).setCell ⟨kd.heap.size, 1, none⟩ (.int .i64 0)).setCell ⟨kd.heap.size, 2, none⟩ (.int .i64 C5)).cell? ⟨w4.heap.size, 1, none⟩ = some (.int .i64 0) := HE.out.2.2.2.2.2.2.2.2.2.2.2.2.2.2.2.2.2.2.2.2.2.1
              have y2 : ((((((k4.setCell ⟨t3.heap.size, 0, none⟩ (.int .i64 A4)).setCell ⟨t3.heap.size, 1, none⟩ (.int .i64 0)).setCell ⟨t3.heap.size, 2, none⟩ (.int .i64 C4)).setCell ⟨kd.heap.size, 0, none⟩ (.int .i64 A5)).setCell ⟨kd.heap.size, 1, none⟩ (.int .i64 0)).setCell ⟨kd.heap.size, 2, none⟩ (.int .i64 C5)).cell? ⟨w4.heap.size, 2, none⟩ = some (.int .i64 0) := HE.out.2.2.2.2.2.2.2.2.2.2.2.2.2.2.2.2.2.2.2.2.2.2
              have lbY : w4.heap.size < ((((((k4.setCell ⟨t3.heap.size, 0, none⟩ (.int .i64 A4)).setCell ⟨t3.heap.size, 1, none⟩ (.int .i64 0)).setCell ⟨t3.heap.size, 2, none⟩ (.int .i64 C4)).setCell ⟨kd.heap.size, 0, none⟩ (.int .i64 A5)).setCell ⟨kd.heap.size, 1, none⟩ (.int .i64 0)).setCell ⟨kd.heap.size, 2, none⟩ (.int .i64 C5)).heap.size := HE.out.2.2.2.2.1
              have HBF := hid_intro (HA4.out.trans ((HE.out).1.mono HA4.out.size))
              clear HE HP HQ
              try clear w26
              try clear w16
              try clear w06
              try clear u26
              try clear u16
              try clear u06
              try clear zl6
              try clear hc6
              try clear hh6
              try clear hb6
              try clear zz6
              try clear w25
              try clear w15
              try clear w05
              try clear u25
              try clear u15
              try clear u05
              try clear zl5
              try clear z15_5
              try clear hh5
              try clear hb5
              try clear zz5
              try clear hlo4
              try clear z14_4
              try clear hne4
              try clear z15_4
              try clear hh4
              try clear ht3
              try clear z15_3
              try clear hh3
              try clear ht2
              try clear z15_2
              try clear hh2
              try clear hlo1
              try clear z15_1
              try clear hh1
              generalize ((((((k4.setCell ⟨t3.heap.size, 0, none⟩ (.int .i64 A4)).setCell ⟨t3.heap.size, 1, none⟩ (.int .i64 0)).setCell ⟨t3.heap.size, 2, none⟩ (.int .i64 C4)).setCell ⟨kd.heap.size, 0, none⟩ (.int .i64 A5)).setCell ⟨kd.heap.size, 1, none⟩ (.int .i64 0)).setCell ⟨kd.heap.size, 2, none⟩ (.int .i64 C5)) = WZ at *
              by_cases h4 : C4 = 0
              · have n4 : (C4 != 0) = false := by simpa using h4
                by_cases h5 : C5 = 0
                · have n5 : (C5 != 0) = false := by simpa using h5
                  have e5 := F2a.out h4 h5
                  go_wp2_with fail
                  go_ret
                  exact ⟨ret_bool (by first | (simp; done) | (simp [e5]; done)), HBF.out⟩
                · have n5 : (C5 != 0) = true := by simpa using h5
                  go_wp2_with fail
                  go_ret
                  exact ⟨rfl, HBF.out⟩
              · have n4 : (C4 != 0) = true := by simpa using h4
                go_wp2_with fail
                go_ret
                exact ⟨rfl, HBF.out⟩
            · go_simp
              try go_wp2_with fail
              have hh3 := LX.below (W0 := W0) (bM := w1.heap.size) (bX := w2.heap.size) (bN := w3.heap.size) (bY := w4.heap.size) (n1 := n1) (n2 := n2) (g1 := g1) (f1 := f1) (l1 := l1) (g2 := g2) (f2 := f2) (l2 := l2) (A1 := A1) (C1 := C1) (A2 := A2) (C2 := 0) (h1 := h1) (h2 := h2) (ta1 := ta1) (ta2 := ta2) (tl1 := tl1) (tc1 := tc1) (tl2 := tl2) (tc2 := tc2) hh2 ((Below.refl t2.heap.size t2).alloc (Nat.le_refl _) (Obj.cells #[.int .i64 0, .int .i64 0, .int .i64 0] 27))
              have z15_3 := z15_2.below ((Below.refl t2.heap.size t2).alloc (Nat.le_refl _) (Obj.cells #[.int .i64 0, .int .i64 0, .int .i64 0] 27))
              have hne3 : kd.heap.size ≠ t2.heap.size := by have := z15_2.1; omega
              have z14_3 := Z3.new t2 27
              have hlo3 : W0.heap.size ≤ t2.heap.size := (hh2).1.size
              refine hK.out _ _ hh3 (fun _ => ?_)
              clear hK K
              try simp only [Act.put, List.setIfInBounds_toArray, List.set_cons_zero, List.set_cons_succ]
              generalize (t2.alloc (Obj.cells #[.int .i64 0, .int .i64 0, .int .i64 0] 27)) = k3 at *
              refine wpAnyH_ready (rs := [7]) (by kernel_rfl) (by simp) ?_
              refine AllReadyH.cons (o := { dst := some 107, op := Op.call { callee := Callee.value (Operand.func 13), args := #[Operand.tmp 104, Operand.tmp 105, Operand.tmp 106], argTypes := #[31, 2, 2] }, type := 27, pos := "laws.go:435", after := #[{ on := 4, ground := Ground.data }, { on := 5, ground := Ground.data }, { on := 6, ground := Ground.data }, { on := 3, ground := Ground.chain }], guard := none }) rfl (fun K hK => ?_) AllReadyH.nil
              go_simp
              go_at_call 13
              refine (c9.out _ (HBt4.out.trans ((hh3).1.mono HBt4.out.size)) (HL.out.below (HA4.out.trans ((hh3).1.mono HA4.out.size)))).mono ?_
              rintro e t4 ⟨rfl, ht4⟩
              try go_wp2_with fail
              have hh4 := LX.below (W0 := W0) (bM := w1.heap.size) (bX := w2.heap.size) (bN := w3.heap.size) (bY := w4.heap.size) (n1 := n1) (n2 := n2) (g1 := g1) (f1 := f1) (l1 := l1) (g2 := g2) (f2 := f2) (l2 := l2) (A1 := A1) (C1 := C1) (A2 := A2) (C2 := 0) (h1 := h1) (h2 := h2) (ta1 := ta1) (ta2 := ta2) (tl1 := tl1) (tc1 := tc1) (tl2 := tl2) (tc2 := tc2) hh3 ht4
              have z14_4 := z14_3.below ht4
              have z15_4 := z15_3.below ht4
              refine hK.out _ _ hh4 (fun _ => ?_)
              clear hK K
              try simp only [Act.put, List.setIfInBounds_toArray, List.set_cons_zero, List.set_cons_succ]
              refine wpAnyH_ready (rs := [10]) (by kernel_rfl) (by simp) ?_
              refine AllReadyH.cons (o := { dst := none, op := Op.store 27 (Operand.tmp 14) (Operand.tmp 103), type := 0, pos := "laws.go:435", after := #[{ on := 8, ground := Ground.data }, { on := 3, ground := Ground.data }, { on := 7, ground := Ground.chain }, { on := 0, ground := Ground.phase }, { on := 1, ground := Ground.phase }, { on := 2, ground := Ground.phase }, { on := 3, ground := Ground.phase }, { on := 4, ground := Ground.textOnly Departure.lateStores }, { on := 5, ground := Ground.textOnly Departure.lateStores }, { on := 6, ground := Ground.textOnly Departure.lateStores }, { on := 7, ground := Ground.textOnly Departure.lateStoresUnsure }, { on := 8, ground := Ground.phase }, { on := 9, ground := Ground.phase }], guard := none }) rfl (fun K hK => ?_) AllReadyH.nil
              have zz5 := z14_4
              obtain ⟨zl5, ⟨e05, u05⟩, ⟨e15, u15⟩, ⟨e25, u25⟩, w05, w15, w25⟩ := zz5
              go_simp
              try go_wp2_with fail
              have hb5 : Blk t2.heap.size [.int .i64 A4, .int .i64 0, .int .i64 C4] (st3 t4 t2.heap.size A4 C4) := st3_cells z14_4 A4 C4
              have hh5 : LX W0 w1.heap.size w2.heap.size w3.heap.size w4.heap.size n1 n2 g1 f1 l1 g2 f2 l2 A1 C1 A2 0 h1 h2 ta1 ta2 tl1 tc1 tl2 tc2 (st3 t4 t2.heap.size A4 C4) := lx_st3 hh4 hlo3 bM0 bX0 bN0 bY0 A4 C4
              have z15_5 := z3_st3 z15_4 hne3 A4 C4
              unfold st3 at hh5 hb5 z15_5
              refine hK.out _ _ hh5 (fun _ => ?_)
              clear hK K
              try simp only [Act.put, List.setIfInBounds_toArray, List.set_cons_zero, List.set_cons_succ]
              refine wpAnyH_ready (rs := [11]) (by kernel_rfl) (by simp) ?_
              refine AllReadyH.cons (o := { dst := none, op := Op.store 27 (Operand.tmp 15) (Operand.tmp 107), type := 0, pos := "laws.go:435", after := #[{ on := 9, ground := Ground.data }, { on := 7, ground := Ground.data }, { on := 10, ground := Ground.chain }, { on := 0, ground := Ground.phase }, { on := 1, ground := Ground.phase }, { on := 2, ground := Ground.phase }, { on := 3, ground := Ground.phase }, { on := 4, ground := Ground.phase }, { on := 5, ground := Ground.phase }, { on := 6, ground := Ground.phase }, { on := 7, ground := Ground.phase }, { on := 8, ground := Ground.phase }, { on := 9, ground := Ground.phase }, { on := 10, ground := Ground.phase }], guard := none }) rfl (fun K hK => ?_) AllReadyH.nil
              have zz6 := z15_5
              obtain ⟨zl6, ⟨e06, u06⟩, ⟨e16, u16⟩, ⟨e26, u26⟩, w06, w16, w26⟩ := zz6
              go_simp
              try go_wp2_with fail
              have hb6 : Blk kd.heap.size [.int .i64 A5, .int .i64 0, .int .i64 C5] (st3 (((t4.setCell ⟨t2.heap.size, 0, none⟩ (.int .i64 A4)).setCell ⟨t2.heap.size, 1, none⟩ (.int .i64 0)).setCell ⟨t2.heap.size, 2, none⟩ (.int .i64 C4)) kd.heap.size A5 C5) := st3_cells z15_5 A5 C5
              have hh6 : LX W0 w1.heap.size w2.heap.size w3.heap.size w4.heap.size n1 n2 g1 f1 l1 g2 f2 l2 A1 C1 A2 0 h1 h2 ta1 ta2 tl1 tc1 tl2 tc2 (st3 (((t4.setCell ⟨t2.heap.size, 0, none⟩ (.int .i64 A4)).setCell ⟨t2.heap.size, 1, none⟩ (.int .i64 0)).setCell ⟨t2.heap.size, 2, none⟩ (.int .i64 C4)) kd.heap.size A5 C5) := lx_st3 hh5 hlo1 bM0 bX0 bN0 bY0 A5 C5
              have hc6 := blk_st3 hb5 (fun e => hne3 e.symm) A5 C5
              unfold st3 at hh6 hb6 hc6
              refine hK.out _ _ hh6 (fun _ => ?_)
              clear hK K
              try simp only [Act.put, List.setIfInBounds_toArray, List.set_cons_zero, List.set_cons_succ]
              refine wpAnyH_done (by kernel_rfl) ?_ _
              have HE := hid_intro hh6
              have HP := hid_intro hc6
              have HQ := hid_intro hb6
              have s0 := HP.out.2 0 (by simp)
              have s2 := HP.out.2 2 (by simp)
              have r0 := HQ.out.2 0 (by simp)
              have r2 := HQ.out.2 2 (by simp)
              have ls := HP.out.1
              have lr := HQ.out.1
              simp only [List.getElem?_cons_zero, List.getElem?_cons_succ] at s0 s2 r0 r2
              have y0 : ((((((t4.setCell ⟨t2.heap.size, 0, none⟩ (.int .i64 A4)).setCell ⟨t2.heap.size, 1, none⟩ (.int .i64 0)).setCell ⟨t2.heap.size, 2, none⟩ (.int .i64 C4)).setCell ⟨kd.heap.size, 0, none⟩ (.int .i64 A5)).setCell ⟨kd.heap.size, 1, none⟩ (.int .i64 0)).setCell ⟨kd.heap.size, 2, none⟩ (.int .i64 C5)).cell? ⟨w4.heap.size, 0, none⟩ = some (.int .i64 A2) := HE.out.2.2.2.2.2.2.2.2.2.2.2.2.2.2.2.2.2.2.2.2.1
              have y1 : ((((((t4.setCell ⟨t2.heap.size, 0, none⟩ (.int .i64 A4)).setCell ⟨t2.heap.size, 1, none⟩ (.int .i64 0)).setCell ⟨t2.heap.size, 2, none⟩ (.int .i64 C4)).setCell ⟨kd.heap.size, 0, none⟩ (.int .i64 A5)).setCell ⟨kd.heap.size, 1, none⟩ (.int .i64 0)).setCell ⟨kd.heap.size, 2, none⟩ (.int .i64 C5)).cell? ⟨w4.heap.size, 1, none⟩ = some (.int .i64 0) := HE.out.2.2.2.2.2.2.2.2.2.2.2.2.2.2.2.2.2.2.2.2.2.1
              have y2 : ((((((t4.setCell ⟨t2.heap.size, 0, none⟩ (.int .i64 A4)).setCell ⟨t2.heap.size, 1, none⟩ (.int .i64 0)).setCell ⟨t2.heap.size, 2, none⟩ (.int .i64 C4)).setCell ⟨kd.heap.size, 0, none⟩ (.int .i64 A5)).setCell ⟨kd.heap.size, 1, none⟩ (.int .i64 0)).setCell ⟨kd.heap.size, 2, none⟩ (.int .i64 C5)).cell? ⟨w4.heap.size, 2, none⟩ = some (.int .i64 0) := HE.out.2.2.2.2.2.2.2.2.2.2.2.2.2.2.2.2.2.2.2.2.2.2
              have lbY : w4.heap.size < ((((((t4.setCell ⟨t2.heap.size, 0, none⟩ (.int .i64 A4)).setCell ⟨t2.heap.size, 1, none⟩ (.int .i64 0)).setCell ⟨t2.heap.size, 2, none⟩ (.int .i64 C4)).setCell ⟨kd.heap.size, 0, none⟩ (.int .i64 A5)).setCell ⟨kd.heap.size, 1, none⟩ (.int .i64 0)).setCell ⟨kd.heap.size, 2, none⟩ (.int .i64 C5)).heap.size := HE.out.2.2.2.2.1
              have HBF := hid_intro (HA4.out.trans ((HE.out).1.mono HA4.out.size))
              clear HE HP HQ
              try clear w26
              try clear w16
              try clear w06
              try clear u26
              try clear u16
              try clear u06
              try clear zl6
              try clear hc6
              try clear hh6
              try clear hb6
              try clear zz6
              try clear w25
              try clear w15
              try clear w05
              try clear u25
              try clear u15
              try clear u05
              try clear zl5
              try clear z15_5
              try clear hh5
              try clear hb5
              try clear zz5
              try clear ht4
              try clear z15_4
              try clear z14_4
              try clear hh4
              try clear hlo3
              try clear z14_3
              try clear hne3
              try clear z15_3
              try clear hh3
              try clear ht2
              try clear z15_2
              try clear hh2
              try clear hlo1
              try clear z15_1
              try clear hh1
              generalize ((((((t4.setCell ⟨t2.heap.size, 0, none⟩ (.int .i64 A4)).setCell ⟨t2.heap.size, 1, none⟩ (.int .i64 0)).setCell ⟨t2.heap.size, 2, none⟩ (.int .i64 C4)).setCell ⟨kd.heap.size, 0, none⟩ (.int .i64 A5)).setCell ⟨kd.heap.size, 1, none⟩ (.int .i64 0)).setCell ⟨kd.heap.size, 2, none⟩ (.int .i64 C5)) = WZ at *
              by_cases h4 : C4 = 0
              · have n4 : (C4 != 0) = false := by simpa using h4
                by_cases h5 : C5 = 0
                · have n5 : (C5 != 0) = false := by simpa using h5
                  have e5 := F2a.out h4 h5
                  go_wp2_with fail
                  go_ret
                  exact ⟨ret_bool (by first | (simp; done) | (simp [e5]; done)), HBF.out⟩
                · have n5 : (C5 != 0) = true := by simpa using h5
                  go_wp2_with fail
                  go_ret
                  exact ⟨rfl, HBF.out⟩
              · have n4 : (C4 != 0) = true := by simpa using h4
                go_wp2_with fail
                go_ret
                exact ⟨rfl, HBF.out⟩
          · go_simp
            try go_wp2_with fail
            have hh2 := LX.below (W0 := W0) (bM := w1.heap.size) (bX := w2.heap.size) (bN := w3.heap.size) (bY := w4.heap.size) (n1 := n1) (n2 := n2) (g1 := g1) (f1 := f1) (l1 := l1) (g2 := g2) (f2 := f2) (l2 := l2) (A1 := A1) (C1 := C1) (A2 := A2) (C2 := 0) (h1 := h1) (h2 := h2) (ta1 := ta1) (ta2 := ta2) (tl1 := tl1) (tc1 := tc1) (tl2 := tl2) (tc2 := tc2) hh1 ((Below.refl k1.heap.size k1).alloc (Nat.le_refl _) (Obj.cells #[.int .i64 0, .int .i64 0, .int .i64 0] 27))
            have z15_2 := z15_1.below ((Below.refl k1.heap.size k1).alloc (Nat.le_refl _) (Obj.cells #[.int .i64 0, .int .i64 0, .int .i64 0] 27))
            have hne2 : kd.heap.size ≠ k1.heap.size := by have := z15_1.1; omega
            have z14_2 := Z3.new k1 27
            have hlo2 : W0.heap.size ≤ k1.heap.size := (hh1).1.size
            refine hK.out _ _ hh2 (fun _ => ?_)
            clear hK K
            try simp only [Act.put, List.setIfInBounds_toArray, List.set_cons_zero, List.set_cons_succ]
            generalize (k1.alloc (Obj.cells #[.int .i64 0, .int .i64 0, .int .i64 0] 27)) = k2 at *
            refine wpAnyH_ready (rs := [3]) (by kernel_rfl) (by simp) ?_
            refine AllReadyH.cons (o := { dst := some 103, op := Op.call { callee := Callee.value (Operand.func 13), args := #[Operand.tmp 100, Operand.tmp 101, Operand.tmp 102], argTypes := #[31, 2, 2] }, type := 27, pos := "laws.go:435", after := #[{ on := 0, ground := Ground.data }, { on := 1, ground := Ground.data }, { on := 2, ground := Ground.data }], guard := none }) rfl (fun K hK => ?_) AllReadyH.nil
            go_simp
            go_at_call 13
            refine (c8.out _ (HBt4.out.trans ((hh2).1.mono HBt4.out.size)) (HL.out.below (HA4.out.trans ((hh2).1.mono HA4.out.size)))).mono ?_
            rintro e t3 ⟨rfl, ht3⟩
            try go_wp2_with fail
            have hh3 := LX.below (W0 := W0) (bM := w1.heap.size) (bX := w2.heap.size) (bN := w3.heap.size) (bY := w4.heap.size) (n1 := n1) (n2 := n2) (g1 := g1) (f1 := f1) (l1 := l1) (g2 := g2) (f2 := f2) (l2 := l2) (A1 := A1) (C1 := C1) (A2 := A2) (C2 := 0) (h1 := h1) (h2 := h2) (ta1 := ta1) (ta2 := ta2) (tl1 := tl1) (tc1 := tc1) (tl2 := tl2) (tc2 := tc2) hh2 ht3
            have z14_3 := z14_2.below ht3
            have z15_3 := z15_2.below ht3
            refine hK.out _ _ hh3 (fun _ => ?_)
            clear hK K
            try simp only [Act.put, List.setIfInBounds_toArray, List.set_cons_zero, List.set_cons_succ]
            refine wpAnyH_ready (rs := [7]) (by kernel_rfl) (by simp) ?_
            refine AllReadyH.cons (o := { dst := some 107, op := Op.call { callee := Callee.value (Operand.func 13), args := #[Operand.tmp 104, Operand.tmp 105, Operand.tmp 106], argTypes := #[31, 2, 2] }, type := 27, pos := "laws.go:435", after := #[{ on := 4, ground := Ground.data }, { on := 5, ground := Ground.data }, { on := 6, ground := Ground.data }, { on := 3, ground := Ground.chain }], guard := none }) rfl (fun K hK => ?_) AllReadyH.nil
            go_simp
            go_at_call 13
            refine (c9.out _ (HBt4.out.trans ((hh3).1.mono HBt4.out.size)) (HL.out.below (HA4.out.trans ((hh3).1.mono HA4.out.size)))).mono ?_
            rintro e t4 ⟨rfl, ht4⟩
            try go_wp2_with fail
            have hh4 := LX.below (W0 := W0) (bM := w1.heap.size) (bX := w2.heap.size) (bN := w3.heap.size) (bY := w4.heap.size) (n1 := n1) (n2 := n2) (g1 := g1) (f1 := f1) (l1 := l1) (g2 := g2) (f2 := f2) (l2 := l2) (A1 := A1) (C1 := C1) (A2 := A2) (C2 := 0) (h1 := h1) (h2 := h2) (ta1 := ta1) (ta2 := ta2) (tl1 := tl1) (tc1 := tc1) (tl2 := tl2) (tc2 := tc2) hh3 ht4
            have z14_4 := z14_3.below ht4
            have z15_4 := z15_3.below ht4
            refine hK.out _ _ hh4 (fun _ => ?_)
            clear hK K
            try simp only [Act.put, List.setIfInBounds_toArray, List.set_cons_zero, List.set_cons_succ]
            refine wpAnyH_ready (rs := [10]) (by kernel_rfl) (by simp) ?_
            refine AllReadyH.cons (o := { dst := none, op := Op.store 27 (Operand.tmp 14) (Operand.tmp 103), type := 0, pos := "laws.go:435", after := #[{ on := 8, ground := Ground.data }, { on := 3, ground := Ground.data }, { on := 7, ground := Ground.chain }, { on := 0, ground := Ground.phase }, { on := 1, ground := Ground.phase }, { on := 2, ground := Ground.phase }, { on := 3, ground := Ground.phase }, { on := 4, ground := Ground.textOnly Departure.lateStores }, { on := 5, ground := Ground.textOnly Departure.lateStores }, { on := 6, ground := Ground.textOnly Departure.lateStores }, { on := 7, ground := Ground.textOnly Departure.lateStoresUnsure }, { on := 8, ground := Ground.phase }, { on := 9, ground := Ground.phase }], guard := none }) rfl (fun K hK => ?_) AllReadyH.nil
            have zz5 := z14_4
            obtain ⟨zl5, ⟨e05, u05⟩, ⟨e15, u15⟩, ⟨e25, u25⟩, w05, w15, w25⟩ := zz5
            go_simp
            try go_wp2_with fail
            have hb5 : Blk k1.heap.size [.int .i64 A4, .int .i64 0, .int .i64 C4] (st3 t4 k1.heap.size A4 C4) := st3_cells z14_4 A4 C4
            have hh5 : LX W0 w1.heap.size w2.heap.size w3.heap.size w4.heap.size n1 n2 g1 f1 l1 g2 f2 l2 A1 C1 A2 0 h1 h2 ta1 ta2 tl1 tc1 tl2 tc2 (st3 t4 k1.heap.size A4 C4) := lx_st3 hh4 hlo2 bM0 bX0 bN0 bY0 A4 C4
            have z15_5 := z3_st3 z15_4 hne2 A4 C4
            unfold st3 at hh5 hb5 z15_5
            refine hK.out _ _ hh5 (fun _ => ?_)
            clear hK K
            try simp only [Act.put, List.setIfInBounds_toArray, List.set_cons_zero, List.set_cons_succ]
            refine wpAnyH_ready (rs := [11]) (by kernel_rfl) (by simp) ?_
            refine AllReadyH.cons (o := { dst := none, op := Op.store 27 (Operand.tmp 15) (Operand.tmp 107), type := 0, pos := "laws.go:435", after := #[{ on := 9, ground := Ground.data }, { on := 7, ground := Ground.data }, { on := 10, ground := Ground.chain }, { on := 0, ground := Ground.phase }, { on := 1, ground := Ground.phase }, { on := 2, ground := Ground.phase }, { on := 3, ground := Ground.phase }, { on := 4, ground := Ground.phase }, { on := 5, ground := Ground.phase }, { on := 6, ground := Ground.phase }, { on := 7, ground := Ground.phase }, { on := 8, ground := Ground.phase }, { on := 9, ground := Ground.phase }, { on := 10, ground := Ground.phase }], guard := none }) rfl (fun K hK => ?_) AllReadyH.nil
            have zz6 := z15_5
            obtain ⟨zl6, ⟨e06, u06⟩, ⟨e16, u16⟩, ⟨e26, u26⟩, w06, w16, w26⟩ := zz6
            go_simp
            try go_wp2_with fail
            have hb6 : Blk kd.heap.size [.int .i64 A5, .int .i64 0, .int .i64 C5] (st3 (((t4.setCell ⟨k1.heap.size, 0, none⟩ (.int .i64 A4)).setCell ⟨k1.heap.size, 1, none⟩ (.int .i64 0)).setCell ⟨k1.heap.size, 2, none⟩ (.int .i64 C4)) kd.heap.size A5 C5) := st3_cells z15_5 A5 C5
            have hh6 : LX W0 w1.heap.size w2.heap.size w3.heap.size w4.heap.size n1 n2 g1 f1 l1 g2 f2 l2 A1 C1 A2 0 h1 h2 ta1 ta2 tl1 tc1 tl2 tc2 (st3 (((t4.setCell ⟨k1.heap.size, 0, none⟩ (.int .i64 A4)).setCell ⟨k1.heap.size, 1, none⟩ (.int .i64 0)).setCell ⟨k1.heap.size, 2, none⟩ (.int .i64 C4)) kd.heap.size A5 C5) := lx_st3 hh5 hlo1 bM0 bX0 bN0 bY0 A5 C5
            have hc6 := blk_st3 hb5 (fun e => hne2 e.symm) A5 C5
            unfold st3 at hh6 hb6 hc6
            refine hK.out _ _ hh6 (fun _ => ?_)
            clear hK K
            try simp only [Act.put, List.setIfInBounds_toArray, List.set_cons_zero, List.set_cons_succ]
            refine wpAnyH_done (by kernel_rfl) ?_ _
            have HE := hid_intro hh6
            have HP := hid_intro hc6
            have HQ := hid_intro hb6
            have s0 := HP.out.2 0 (by simp)
            have s2 := HP.out.2 2 (by simp)
            have r0 := HQ.out.2 0 (by simp)
            have r2 := HQ.out.2 2 (by simp)
            have ls := HP.out.1
            have lr := HQ.out.1
            simp only [List.getElem?_cons_zero, List.getElem?_cons_succ] at s0 s2 r0 r2
            have y0 : ((((((t4.setCell ⟨k1.heap.size, 0, none⟩ (.int .i64 A4)).setCell ⟨k1.heap.size, 1, none⟩ (.int .i64 0)).setCell ⟨k1.heap.size, 2, none⟩ (.int .i64 C4)).setCell ⟨kd.heap.size, 0, none⟩ (.int .i64 A5)).setCell ⟨kd.heap.size, 1, none⟩ (.int .i64 0)).setCell ⟨kd.heap.size, 2, none⟩ (.int .i64 C5)).cell? ⟨w4.heap.size, 0, none⟩ = some (.int .i64 A2) := HE.out.2.2.2.2.2.2.2.2.2.2.2.2.2.2.2.2.2.2.2.2.1
            have y1 : ((((((t4.setCell ⟨k1.heap.size, 0, none⟩ (.int .i64 A4)).setCell ⟨k1.heap.size, 1, none⟩ (.int .i64 0)).setCell ⟨k1.heap.size, 2, none⟩ (.int .i64 C4)).setCell ⟨kd.heap.size, 0, none⟩ (.int .i64 A5)).setCell ⟨kd.heap.size, 1, none⟩ (.int .i64 0)).setCell ⟨kd.heap.size, 2, none⟩ (.int .i64 C5)).cell? ⟨w4.heap.size, 1, none⟩ = some (.int .i64 0) := HE.out.2.2.2.2.2.2.2.2.2.2.2.2.2.2.2.2.2.2.2.2.2.1
            have y2 : ((((((t4.setCell ⟨k1.heap.size, 0, none⟩ (.int .i64 A4)).setCell ⟨k1.heap.size, 1, none⟩ (.int .i64 0)).setCell ⟨k1.heap.size, 2, none⟩ (.int .i64 C4)).setCell ⟨kd.heap.size, 0, none⟩ (.int .i64 A5)).setCell ⟨kd.heap.size, 1, none⟩ (.int .i64 0)).setCell ⟨kd.heap.size, 2, none⟩ (.int .i64 C5)).cell? ⟨w4.heap.size, 2, none⟩ = some (.int .i64 0) := HE.out.2.2.2.2.2.2.2.2.2.2.2.2.2.2.2.2.2.2.2.2.2.2
            have lbY : w4.heap.size < ((((((t4.setCell ⟨k1.heap.size, 0, none⟩ (.int .i64 A4)).setCell ⟨k1.heap.size, 1, none⟩ (.int .i64 0)).setCell ⟨k1.heap.size, 2, none⟩ (.int .i64 C4)).setCell ⟨kd.heap.size, 0, none⟩ (.int .i64 A5)).setCell ⟨kd.heap.size, 1, none⟩ (.int .i64 0)).setCell ⟨kd.heap.size, 2, none⟩ (.int .i64 C5)).heap.size := HE.out.2.2.2.2.1
            have HBF := hid_intro (HA4.out.trans ((HE.out).1.mono HA4.out.size))
            clear HE HP HQ
            try clear w26
            try clear w16
            try clear w06
            try clear u26
            try clear u16
            try clear u06
            try clear zl6
            try clear hc6
            try clear hh6
            try clear hb6
            try clear zz6
            try clear w25
            try clear w15
            try clear w05
            try clear u25
            try clear u15
            try clear u05
            try clear zl5
            try clear z15_5
            try clear hh5
            try clear hb5
            try clear zz5
            try clear ht4
            try clear z15_4
            try clear z14_4
            try clear hh4
            try clear ht3
            try clear z15_3
            try clear z14_3
            try clear hh3
            try clear hlo2
            try clear z14_2
            try clear hne2
            try clear z15_2
            try clear hh2
            try clear hlo1
            try clear z15_1
            try clear hh1
            generalize ((((((t4.setCell ⟨k1.heap.size, 0, none⟩ (.int .i64 A4)).setCell ⟨k1.heap.size, 1, none⟩ (.int .i64 0)).setCell ⟨k1.heap.size, 2, none⟩ (.int .i64 C4)).setCell ⟨kd.heap.size, 0, none⟩ (.int .i64 A5)).setCell ⟨kd.heap.size, 1, none⟩ (.int .i64 0)).setCell ⟨kd.heap.size, 2, none⟩ (.int .i64 C5)) = WZ at *
            by_cases h4 : C4 = 0
            · have n4 : (C4 != 0) = false := by simpa using h4
              by_cases h5 : C5 = 0
              · have n5 : (C5 != 0) = false := by simpa using h5
                have e5 := F2a.out h4 h5
                go_wp2_with fail
                go_ret
                exact ⟨ret_bool (by first | (simp; done) | (simp [e5]; done)), HBF.out⟩
              · have n5 : (C5 != 0) = true := by simpa using h5
                go_wp2_with fail
                go_ret
                exact ⟨rfl, HBF.out⟩
            · have n4 : (C4 != 0) = true := by simpa using h4
              go_wp2_with fail
              go_ret
              exact ⟨rfl, HBF.out⟩
end RateLawL
end Go.Proofs.YtnhjodlcdfkpnaaDoor
