/-
  The model's WindowJoin: two windows that are right are joined, others are refused. The conditions: what the callees ask for.
-/
import Derived.Test.YtmeemmbpkjfleaaDoorJnX
import Derived.Test.YtmeemmbpkjfleaaDoorStL
namespace Go.Proofs.YtmeemmbpkjfleaaDoor
open Go.ChangeShapes Go.WideShapes Go.ChangeAt Go.RowKit
set_option linter.unusedVariables false
namespace WinR
open RowG (MadeG Rws)
open EvtR (Pt)
open LtR (lt)
open CatR (Blk Blk.new)
set_option maxRecDepth 100000 in
set_option maxHeartbeats 16000000 in
theorem swj_in (P : Value → Nat → World → Prop) (r1 r2 : Bool) (a1 m1 : ByteArray) (mo1 ev1 su1 mx1 : Int) (ta1 : Option Addr) (tl1 tc1 : Nat) (ha1 : Option Addr) (hl1 hc1 : Nat) (a2 m2 : ByteArray) (mo2 ev2 su2 mx2 : Int) (ta2 : Option Addr) (tl2 tc2 : Nat) (ha2 : Option Addr) (hl2 hc2 : Nat) (w : World)
    (hK : ∀ v base W W' g, P v base W → W.grownBy W' (some g) → g < base → P v base W')
    (hr1 : ∀ W, Below w.heap.size w W → Calls Tryd.prog 26 #[.agg #[.string a1, .string m1, .int .i64 mo1, .int .i64 ev1, .int .i64 su1, .int .i64 mx1, .slice ta1 tl1 tc1, .slice ha1 hl1 hc1]] W fun e w' => e = .returned (.bool r1) ∧ Below W.heap.size W w')
    (hr2 : ∀ W, Below w.heap.size w W → Calls Tryd.prog 26 #[.agg #[.string a2, .string m2, .int .i64 mo2, .int .i64 ev2, .int .i64 su2, .int .i64 mx2, .slice ta2 tl2 tc2, .slice ha2 hl2 hc2]] W fun e w' => e = .returned (.bool r2) ∧ Below W.heap.size W w')
    (hj : r1 = true → r2 = true → ∀ W, Below w.heap.size w W → Calls Tryd.prog 32 #[.agg #[.string a1, .string m1, .int .i64 mo1, .int .i64 ev1, .int .i64 su1, .int .i64 mx1, .slice ta1 tl1 tc1, .slice ha1 hl1 hc1], .agg #[.string a2, .string m2, .int .i64 mo2, .int .i64 ev2, .int .i64 su2, .int .i64 mx2, .slice ta2 tl2 tc2, .slice ha2 hl2 hc2]] W fun e w' => ∃ A M mo ev su mx ta tl tc ha hl hc cd, e = .returned (.agg #[.string A, .string M, .int .i64 mo, .int .i64 ev, .int .i64 su, .int .i64 mx, .slice ta tl tc, .slice ha hl hc, .int .i64 cd]) ∧ P (.agg #[.string A, .string M, .int .i64 mo, .int .i64 ev, .int .i64 su, .int .i64 mx, .slice ta tl tc, .slice ha hl hc, .int .i64 cd]) W.heap.size w' ∧ Below W.heap.size W w') :
    Calls Tryd.prog 8 #[.agg #[.string a1, .string m1, .int .i64 mo1, .int .i64 ev1, .int .i64 su1, .int .i64 mx1, .slice ta1 tl1 tc1, .slice ha1 hl1 hc1], .agg #[.string a2, .string m2, .int .i64 mo2, .int .i64 ev2, .int .i64 su2, .int .i64 mx2, .slice ta2 tl2 tc2, .slice ha2 hl2 hc2]] w fun e w' => ∃ v, e = .returned v ∧ (((r1 && r2) = false ∧ v = .agg #[.string ⟨#[]⟩, .string ⟨#[]⟩, .int .i64 0, .int .i64 0, .int .i64 0, .int .i64 0, .slice none 0 0, .slice none 0 0, .int .i64 1]) ∨ ((r1 && r2) = true ∧ ∃ base, w.heap.size ≤ base ∧ P v base w')) ∧ Below w.heap.size w w' := by
  have HK := hid_intro hK
  have HR1 := hid_intro hr1
  have HR2 := hid_intro hr2
  have HJ := hid_intro hj
  have HIL := hid_intro sill
  clear hK hr1 hr2 hj
  obtain ⟨W0, hW0⟩ : ∃ W0, W0 = (((w.alloc (.cells #[.string a1, .string m1, .int .i64 mo1, .int .i64 ev1, .int .i64 su1, .int .i64 mx1, .slice ta1 tl1 tc1, .slice ha1 hl1 hc1] 29)).alloc (.cells #[.string a2, .string m2, .int .i64 mo2, .int .i64 ev2, .int .i64 su2, .int .i64 mx2, .slice ta2 tl2 tc2, .slice ha2 hl2 hc2] 29)).alloc (.cells #[.string ⟨#[]⟩, .string ⟨#[]⟩, .int .i64 0, .int .i64 0, .int .i64 0, .int .i64 0, .slice none 0 0, .slice none 0 0, .int .i64 0] 31)) := ⟨_, rfl⟩
  have HB0 : Hid (Below w.heap.size w W0) := hid_intro (by rw [hW0]; exact (((Below.refl _ _).alloc (by simp; try omega) _).alloc (by simp; try omega) _).alloc (by simp; try omega) _)
  have HA0 : Hid (Blk w.heap.size [.string a1, .string m1, .int .i64 mo1, .int .i64 ev1, .int .i64 su1, .int .i64 mx1, .slice ta1 tl1 tc1, .slice ha1 hl1 hc1] W0) := hid_intro (by
    rw [hW0]
    exact ((Blk.new w [.string a1, .string m1, .int .i64 mo1, .int .i64 ev1, .int .i64 su1, .int .i64 mx1, .slice ta1 tl1 tc1, .slice ha1 hl1 hc1] 29).below ((Below.refl _ _).alloc (Nat.le_refl _) _)).below ((Below.refl _ _).alloc (Nat.le_refl _) _))
  have HC0 : Hid (Blk (w.heap.size + 1) [.string a2, .string m2, .int .i64 mo2, .int .i64 ev2, .int .i64 su2, .int .i64 mx2, .slice ta2 tl2 tc2, .slice ha2 hl2 hc2] W0) := hid_intro (by
    have := (Blk.new (w.alloc (.cells #[.string a1, .string m1, .int .i64 mo1, .int .i64 ev1, .int .i64 su1, .int .i64 mx1, .slice ta1 tl1 tc1, .slice ha1 hl1 hc1] 29)) [.string a2, .string m2, .int .i64 mo2, .int .i64 ev2, .int .i64 su2, .int .i64 mx2, .slice ta2 tl2 tc2, .slice ha2 hl2 hc2] 29).below ((Below.refl _ _).alloc (Nat.le_refl _) (.cells #[.string ⟨#[]⟩, .string ⟨#[]⟩, .int .i64 0, .int .i64 0, .int .i64 0, .int .i64 0, .slice none 0 0, .slice none 0 0, .int .i64 0] 31))
    rw [hW0]
    simp only [World.size_alloc] at this
    exact this)
  have HP0 : Hid (Pt (w.heap.size + 1 + 1) 9 W0) := hid_intro (by
    have := StR.pt_new ((w.alloc (.cells #[.string a1, .string m1, .int .i64 mo1, .int .i64 ev1, .int .i64 su1, .int .i64 mx1, .slice ta1 tl1 tc1, .slice ha1 hl1 hc1] 29)).alloc (.cells #[.string a2, .string m2, .int .i64 mo2, .int .i64 ev2, .int .i64 su2, .int .i64 mx2, .slice ta2 tl2 tc2, .slice ha2 hl2 hc2] 29)) [.string ⟨#[]⟩, .string ⟨#[]⟩, .int .i64 0, .int .i64 0, .int .i64 0, .int .i64 0, .slice none 0 0, .slice none 0 0, .int .i64 0] 31
    rw [hW0]
    simp only [World.size_alloc] at this
    exact this)
  have HW := hid_intro hW0
  clear hW0
  go_enter Tryd.func8, Tryd.ntmps8
  have p0 : W0.cell? ⟨w.heap.size, 0, none⟩ = some (.string a1) := HA0.out.2 0 (by simp)
  have p1 : W0.cell? ⟨w.heap.size, 1, none⟩ = some (.string m1) := HA0.out.2 1 (by simp)
  have p2 : W0.cell? ⟨w.heap.size, 2, none⟩ = some (.int .i64 mo1) := HA0.out.2 2 (by simp)
  have p3 : W0.cell? ⟨w.heap.size, 3, none⟩ = some (.int .i64 ev1) := HA0.out.2 3 (by simp)
  have p4 : W0.cell? ⟨w.heap.size, 4, none⟩ = some (.int .i64 su1) := HA0.out.2 4 (by simp)
  have p5 : W0.cell? ⟨w.heap.size, 5, none⟩ = some (.int .i64 mx1) := HA0.out.2 5 (by simp)
  have p6 : W0.cell? ⟨w.heap.size, 6, none⟩ = some (.slice ta1 tl1 tc1) := HA0.out.2 6 (by simp)
  have p7 : W0.cell? ⟨w.heap.size, 7, none⟩ = some (.slice ha1 hl1 hc1) := HA0.out.2 7 (by simp)
  have pl := HA0.out.1
  go_wp2_with fail
  rw [← HW.out]
  refine (HR1.out _ HB0.out).mono ?_
  rintro e w1 ⟨rfl, hb1⟩
  have HB1 := hid_intro (HB0.out.trans (hb1.mono HB0.out.size))
  have HA1 := hid_intro (HA0.out.below hb1)
  have HC1 := hid_intro (HC0.out.below hb1)
  have HP1 := hid_intro (HP0.out.below hb1)
  clear hb1 HB0 HA0 HC0 HP0
  clear p0 p1 p2 p3 p4 p5 p6 p7 pl
  cases r1
  · go_wp2_with fail
    refine (HIL.out 1 _).mono ?_
    rintro e w6 ⟨rfl, hb6⟩
    have HB6 := hid_intro (HB1.out.trans (hb6.mono HB1.out.size))
    have HP6 := hid_intro (HP1.out.below hb6)
    clear hb6
    have hp9 := HP6.out
    have hl9 := hp9.lt
    obtain ⟨ov0, r0⟩ := hp9.has 0 (by omega)
    have f0 := hp9.free 0 (by omega)
    obtain ⟨ov1, r1⟩ := hp9.has 1 (by omega)
    have f1 := hp9.free 1 (by omega)
    obtain ⟨ov2, r2⟩ := hp9.has 2 (by omega)
    have f2 := hp9.free 2 (by omega)
    obtain ⟨ov3, r3⟩ := hp9.has 3 (by omega)
    have f3 := hp9.free 3 (by omega)
    obtain ⟨ov4, r4⟩ := hp9.has 4 (by omega)
    have f4 := hp9.free 4 (by omega)
    obtain ⟨ov5, r5⟩ := hp9.has 5 (by omega)
    have f5 := hp9.free 5 (by omega)
    obtain ⟨ov6, r6⟩ := hp9.has 6 (by omega)
    have f6 := hp9.free 6 (by omega)
    obtain ⟨ov7, r7⟩ := hp9.has 7 (by omega)
    have f7 := hp9.free 7 (by omega)
    obtain ⟨ov8, r8⟩ := hp9.has 8 (by omega)
    have f8 := hp9.free 8 (by omega)
    have hgf := StR.stL_grown (w.heap.size + 1 + 1) [.string ⟨#[]⟩, .string ⟨#[]⟩, .int .i64 0, .int .i64 0, .int .i64 0, .int .i64 0, .slice none 0 0, .slice none 0 0, .int .i64 1] 0 w6
    have HBF := hid_intro (HB6.out.grown hgf HB6.out.size (fun k e => by simp only [Option.some.injEq] at e; omega))
    have HGF := hid_intro hgf
    simp only [StR.stL, Nat.zero_add, Nat.reduceAdd] at HBF HGF
    clear hgf hp9
    go_wp2_with fail
    refine bodyPost_ret (v := .agg #[.string ⟨#[]⟩, .string ⟨#[]⟩, .int .i64 0, .int .i64 0, .int .i64 0, .int .i64 0, .slice none 0 0, .slice none 0 0, .int .i64 1]) (by simp [results, Tryd.results8, go_sem, r0, r1, r2, r3, r4, r5, r6, r7, r8]) rfl ⟨_, rfl, .inl ⟨rfl, rfl⟩, HBF.out⟩
  have p0 : w1.cell? ⟨w.heap.size + 1, 0, none⟩ = some (.string a2) := HC1.out.2 0 (by simp)
  have p1 : w1.cell? ⟨w.heap.size + 1, 1, none⟩ = some (.string m2) := HC1.out.2 1 (by simp)
  have p2 : w1.cell? ⟨w.heap.size + 1, 2, none⟩ = some (.int .i64 mo2) := HC1.out.2 2 (by simp)
  have p3 : w1.cell? ⟨w.heap.size + 1, 3, none⟩ = some (.int .i64 ev2) := HC1.out.2 3 (by simp)
  have p4 : w1.cell? ⟨w.heap.size + 1, 4, none⟩ = some (.int .i64 su2) := HC1.out.2 4 (by simp)
  have p5 : w1.cell? ⟨w.heap.size + 1, 5, none⟩ = some (.int .i64 mx2) := HC1.out.2 5 (by simp)
  have p6 : w1.cell? ⟨w.heap.size + 1, 6, none⟩ = some (.slice ta2 tl2 tc2) := HC1.out.2 6 (by simp)
  have p7 : w1.cell? ⟨w.heap.size + 1, 7, none⟩ = some (.slice ha2 hl2 hc2) := HC1.out.2 7 (by simp)
  have pl := HC1.out.1
  go_wp2_with fail
  refine (HR2.out _ HB1.out).mono ?_
  rintro e w2 ⟨rfl, hb2⟩
  have HB2 := hid_intro (HB1.out.trans (hb2.mono HB1.out.size))
  have HA2 := hid_intro (HA1.out.below hb2)
  have HC2 := hid_intro (HC1.out.below hb2)
  have HP2 := hid_intro (HP1.out.below hb2)
  clear hb2 HB1 HA1 HC1 HP1
  clear p0 p1 p2 p3 p4 p5 p6 p7 pl
  cases r2
  · go_wp2_with fail
    refine (HIL.out 1 _).mono ?_
    rintro e w6 ⟨rfl, hb6⟩
    have HB6 := hid_intro (HB2.out.trans (hb6.mono HB2.out.size))
    have HP6 := hid_intro (HP2.out.below hb6)
    clear hb6
    have hp9 := HP6.out
    have hl9 := hp9.lt
    obtain ⟨ov0, r0⟩ := hp9.has 0 (by omega)
    have f0 := hp9.free 0 (by omega)
    obtain ⟨ov1, r1⟩ := hp9.has 1 (by omega)
    have f1 := hp9.free 1 (by omega)
    obtain ⟨ov2, r2⟩ := hp9.has 2 (by omega)
    have f2 := hp9.free 2 (by omega)
    obtain ⟨ov3, r3⟩ := hp9.has 3 (by omega)
    have f3 := hp9.free 3 (by omega)
    obtain ⟨ov4, r4⟩ := hp9.has 4 (by omega)
    have f4 := hp9.free 4 (by omega)
    obtain ⟨ov5, r5⟩ := hp9.has 5 (by omega)
    have f5 := hp9.free 5 (by omega)
    obtain ⟨ov6, r6⟩ := hp9.has 6 (by omega)
    have f6 := hp9.free 6 (by omega)
    obtain ⟨ov7, r7⟩ := hp9.has 7 (by omega)
    have f7 := hp9.free 7 (by omega)
    obtain ⟨ov8, r8⟩ := hp9.has 8 (by omega)
    have f8 := hp9.free 8 (by omega)
    have hgf := StR.stL_grown (w.heap.size + 1 + 1) [.string ⟨#[]⟩, .string ⟨#[]⟩, .int .i64 0, .int .i64 0, .int .i64 0, .int .i64 0, .slice none 0 0, .slice none 0 0, .int .i64 1] 0 w6
    have HBF := hid_intro (HB6.out.grown hgf HB6.out.size (fun k e => by simp only [Option.some.injEq] at e; omega))
    have HGF := hid_intro hgf
    simp only [StR.stL, Nat.zero_add, Nat.reduceAdd] at HBF HGF
    clear hgf hp9
    go_wp2_with fail
    refine bodyPost_ret (v := .agg #[.string ⟨#[]⟩, .string ⟨#[]⟩, .int .i64 0, .int .i64 0, .int .i64 0, .int .i64 0, .slice none 0 0, .slice none 0 0, .int .i64 1]) (by simp [results, Tryd.results8, go_sem, r0, r1, r2, r3, r4, r5, r6, r7, r8]) rfl ⟨_, rfl, .inl ⟨rfl, rfl⟩, HBF.out⟩
  have p0 : w2.cell? ⟨w.heap.size, 0, none⟩ = some (.string a1) := HA2.out.2 0 (by simp)
  have p1 : w2.cell? ⟨w.heap.size, 1, none⟩ = some (.string m1) := HA2.out.2 1 (by simp)
  have p2 : w2.cell? ⟨w.heap.size, 2, none⟩ = some (.int .i64 mo1) := HA2.out.2 2 (by simp)
  have p3 : w2.cell? ⟨w.heap.size, 3, none⟩ = some (.int .i64 ev1) := HA2.out.2 3 (by simp)
  have p4 : w2.cell? ⟨w.heap.size, 4, none⟩ = some (.int .i64 su1) := HA2.out.2 4 (by simp)
  have p5 : w2.cell? ⟨w.heap.size, 5, none⟩ = some (.int .i64 mx1) := HA2.out.2 5 (by simp)
  have p6 : w2.cell? ⟨w.heap.size, 6, none⟩ = some (.slice ta1 tl1 tc1) := HA2.out.2 6 (by simp)
  have p7 : w2.cell? ⟨w.heap.size, 7, none⟩ = some (.slice ha1 hl1 hc1) := HA2.out.2 7 (by simp)
  have pl := HA2.out.1
  have q0 : w2.cell? ⟨w.heap.size + 1, 0, none⟩ = some (.string a2) := HC2.out.2 0 (by simp)
  have q1 : w2.cell? ⟨w.heap.size + 1, 1, none⟩ = some (.string m2) := HC2.out.2 1 (by simp)
  have q2 : w2.cell? ⟨w.heap.size + 1, 2, none⟩ = some (.int .i64 mo2) := HC2.out.2 2 (by simp)
  have q3 : w2.cell? ⟨w.heap.size + 1, 3, none⟩ = some (.int .i64 ev2) := HC2.out.2 3 (by simp)
  have q4 : w2.cell? ⟨w.heap.size + 1, 4, none⟩ = some (.int .i64 su2) := HC2.out.2 4 (by simp)
  have q5 : w2.cell? ⟨w.heap.size + 1, 5, none⟩ = some (.int .i64 mx2) := HC2.out.2 5 (by simp)
  have q6 : w2.cell? ⟨w.heap.size + 1, 6, none⟩ = some (.slice ta2 tl2 tc2) := HC2.out.2 6 (by simp)
  have q7 : w2.cell? ⟨w.heap.size + 1, 7, none⟩ = some (.slice ha2 hl2 hc2) := HC2.out.2 7 (by simp)
  have ql := HC2.out.1
  go_wp2_with fail
  refine (HJ.out (by trivial) (by trivial) _ HB2.out).mono ?_
  rintro e w6 ⟨A, M, mo, ev, su, mx, ta, tl, tc, ha, hl, hc, cd, rfl, hp6, hb6⟩
  have HB6 := hid_intro (HB2.out.trans (hb6.mono HB2.out.size))
  have HP6 := hid_intro (HP2.out.below hb6)
  have HQ6 := hid_intro hp6
  have HS2 : Hid (w.heap.size + 1 + 1 < w2.heap.size) := hid_intro HP2.out.lt
  have HS2B : Hid (w.heap.size ≤ w2.heap.size) := hid_intro HB2.out.size
  clear hb6 hp6 HA2 HC2 HP2 HB2 HIL HR1 HR2 HJ
  clear p0 p1 p2 p3 p4 p5 p6 p7 pl
  clear q0 q1 q2 q3 q4 q5 q6 q7 ql
  have hp9 := HP6.out
  have hl9 := hp9.lt
  obtain ⟨ov0, r0⟩ := hp9.has 0 (by omega)
  have f0 := hp9.free 0 (by omega)
  obtain ⟨ov1, r1⟩ := hp9.has 1 (by omega)
  have f1 := hp9.free 1 (by omega)
  obtain ⟨ov2, r2⟩ := hp9.has 2 (by omega)
  have f2 := hp9.free 2 (by omega)
  obtain ⟨ov3, r3⟩ := hp9.has 3 (by omega)
  have f3 := hp9.free 3 (by omega)
  obtain ⟨ov4, r4⟩ := hp9.has 4 (by omega)
  have f4 := hp9.free 4 (by omega)
  obtain ⟨ov5, r5⟩ := hp9.has 5 (by omega)
  have f5 := hp9.free 5 (by omega)
  obtain ⟨ov6, r6⟩ := hp9.has 6 (by omega)
  have f6 := hp9.free 6 (by omega)
  obtain ⟨ov7, r7⟩ := hp9.has 7 (by omega)
  have f7 := hp9.free 7 (by omega)
  obtain ⟨ov8, r8⟩ := hp9.has 8 (by omega)
  have f8 := hp9.free 8 (by omega)
  have hgf := StR.stL_grown (w.heap.size + 1 + 1) [.string A, .string M, .int .i64 mo, .int .i64 ev, .int .i64 su, .int .i64 mx, .slice ta tl tc, .slice ha hl hc, .int .i64 cd] 0 w6
  have HBF := hid_intro (HB6.out.grown hgf HB6.out.size (fun k e => by simp only [Option.some.injEq] at e; omega))
  have HGF := hid_intro hgf
  simp only [StR.stL, Nat.zero_add, Nat.reduceAdd] at HBF HGF
  clear hgf hp9
  go_wp2_with fail
  refine bodyPost_ret (v := .agg #[.string A, .string M, .int .i64 mo, .int .i64 ev, .int .i64 su, .int .i64 mx, .slice ta tl tc, .slice ha hl hc, .int .i64 cd]) (by simp [results, Tryd.results8, go_sem, r0, r1, r2, r3, r4, r5, r6, r7, r8]) rfl ⟨_, rfl, .inr ⟨rfl, _, HS2B.out, HK.out _ _ _ _ _ HQ6.out HGF.out HS2.out⟩, HBF.out⟩
end WinR
end Go.Proofs.YtmeemmbpkjfleaaDoor
