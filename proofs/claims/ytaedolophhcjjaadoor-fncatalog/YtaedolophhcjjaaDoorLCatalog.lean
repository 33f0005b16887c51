/-
  FnCatalog: for all bytes the law's call returns true (a drawn right catalog comes back from its bytes; each of its meters is found by its name; the program answers as the model), and the bytes read as they did. The condition, told by the card: impl.errNoMeter holds an error.
-/
import Derived.Test.YtaedolophhcjjaaDoorCards
import Derived.Deep.RegionHeld3
import Derived.Deep.CutRange
import Derived.Carry
import Derived.OpenVars
import Derived.Lib.SmallJoins
import Derived.SevenTiedAt
import Derived.Test.YtaedolophhcjjaaDoorK6
namespace Go.Proofs.YtaedolophhcjjaaDoor
open Go.ChangeShapes Go.WideShapes Go.ChangeAt Go.RowKit
set_option linter.unusedVariables false
set_option linter.unusedSimpArgs false
namespace CatalogLaw
open CatR DrawR
open EvtR (Pt)
theorem mO_small {c : Ca} (h : c.Small) (t : ByteArray) : (mO c t).Small := by
  have hz : Me.zero.Small := ⟨by decide, by decide⟩
  unfold mO
  cases hc : caB c
  · exact hz
  · rw [cond_true]
    rcases name_cases c.ms (caB_iff.1 hc).1 t with ⟨k, hk, _, e⟩ | ⟨_, e⟩
    · rw [e]; exact h.ms k hk
    · rw [e]; exact hz
theorem mO_self {c : Ca} (hc : caB c = true) (k : Nat) (hk : k < c.ms.length) : mO c (mN c.ms k) = c.ms.getD k Me.zero := by
  unfold mO
  rw [hc, cond_true]
  rcases name_cases c.ms (caB_iff.1 hc).1 (mN c.ms k) with ⟨j, hj, e1, e2⟩ | ⟨hn, _⟩
  · rw [e2, ms_apart (caB_iff.1 hc).1 j k hj hk e1]
  · exact absurd rfl (hn k hk)
theorem caBy_pos {c : Ca} (hc : caB c = true) : (caBy c).size ≠ 0 := by
  have hb := (ca_put false hc (rfl : JoinR.joinB (caP c) = JoinR.joinB (caP c))).2
  obtain ⟨_, b2, _⟩ := ca_back hb
  unfold caBy
  rw [if_pos hc]
  omega
theorem list_pos {t : ByteArray} (h : t.size ≠ 0) : t.toList ≠ [] := by
  intro e
  have := congrArg List.length e
  rw [ByteArray.toList_eq] at this
  simp at this
  rw [this] at h
  exact h rfl
set_option maxRecDepth 100000 in
set_option maxHeartbeats 16000000 in
theorem law_in (w : World) (a0 a1 : Option Addr) (len0 cap0 len1 cap1 : Nat) (h0 : len0 ≤ 1048576) (h1 : len1 ≤ 1048576) (hB0 : Bytes a0 len0 w) (hB1 : Bytes a1 len1 w) (hL : Laid w) :
    Calls Tryd.prog 3 #[.slice a0 len0 cap0, .slice a1 len1 cap1] w fun e w' => e = .returned (.bool true) ∧ Below w.heap.size w w' := by
  have HL := hid_intro hL
  have Y0 := hid_intro hB0
  have Y1 := hid_intro hB1
  have hz0 : ¬ (1048576 : Int) < (len0 : Int) := by omega
  have hz1 : ¬ (1048576 : Int) < (len1 : Int) := by omega
  clear hL hB0 hB1
  go_enter Tryd.func3, Tryd.ntmps3
  have HB := hid_intro (Below.refl w.heap.size w)
  go_wp2_with fail
  refine (dcat_any a0 len0 cap0 _ h0 Y0.out).mono ?_
  rintro e w1 ⟨⟨c5, ma5, mc5, ca5, cc5, rfl, hM, hC, hs⟩, hb1⟩
  replace HB := hid_intro (HB.out.trans (hb1.mono HB.out.size))
  replace HL := hid_intro (HL.out.below hb1)
  replace Y0 := hid_intro (Y0.out.below hb1)
  replace Y1 := hid_intro (Y1.out.below hb1)
  have HI5 : Hid (IsCa (.agg #[.slice ma5 c5.ms.length mc5, .slice ca5 c5.cs.length cc5]) c5 w1) := hid_intro ⟨ma5, mc5, ca5, cc5, rfl, hM, hC⟩
  have HS5 := hid_intro hs
  clear hM hC hs
  generalize hnm5 : c5.ms.length = nm5 at *
  generalize hnc5 : c5.cs.length = nc5 at *
  have HNM5 := hid_intro hnm5
  have HNC5 := hid_intro hnc5
  clear hnm5 hnc5
  clear hb1
  obtain ⟨w2, hw2⟩ : ∃ z, z = w1.alloc (.cells #[.slice ma5 nm5 mc5, .slice ca5 nc5 cc5] 26) := ⟨_, rfl⟩
  obtain ⟨b5, hb5⟩ : ∃ z, z = w1.heap.size := ⟨_, rfl⟩
  have al : Below w1.heap.size w1 w2 := by rw [hw2]; exact (Below.refl _ _).alloc (Nat.le_refl _) _
  have HX5 : Hid (Blk b5 [.slice ma5 nm5 mc5, .slice ca5 nc5 cc5] w2) := hid_intro (by rw [hw2, hb5]; exact Blk.new w1 [.slice ma5 nm5 mc5, .slice ca5 nc5 cc5] 26)
  replace HB := hid_intro (HB.out.trans (al.mono HB.out.size))
  replace HL := hid_intro (HL.out.below al)
  replace Y0 := hid_intro (Y0.out.below al)
  replace Y1 := hid_intro (Y1.out.below al)
  replace HI5 := hid_intro (HI5.out.below al)
  have HW := hid_intro hw2
  have HBB := hid_intro hb5
  clear al hw2 hb5
  have HT : Hid (∃ t, t = CatR.caBy c5) := hid_intro ⟨_, rfl⟩
  obtain ⟨t, ht⟩ := HT.out
  clear HT
  have HT := hid_intro ht
  clear ht
  go_wp2_with fail
  rw [← HW.out, ← HBB.out]
  clear HW HBB
  refine (CatR.impl_cab _ c5 _ HS5.out HI5.out HL.out).mono ?_
  rintro e w3 ⟨he, hb3⟩
  replace HB := hid_intro (HB.out.trans (hb3.mono HB.out.size))
  replace HL := hid_intro (HL.out.below hb3)
  replace Y0 := hid_intro (Y0.out.below hb3)
  replace Y1 := hid_intro (Y1.out.below hb3)
  replace HI5 := hid_intro (HI5.out.below hb3)
  replace HX5 := hid_intro (HX5.out.below hb3)
  rw [← HT.out] at he
  subst he
  clear hb3
  go_wp2_with fail
  refine (dread_any a1 len1 cap1 _ h1 Y1.out).mono ?_
  rintro e w4 ⟨⟨U, rfl, hU⟩, hb4⟩
  replace HB := hid_intro (HB.out.trans (hb4.mono HB.out.size))
  replace HL := hid_intro (HL.out.below hb4)
  replace Y0 := hid_intro (Y0.out.below hb4)
  replace Y1 := hid_intro (Y1.out.below hb4)
  replace HI5 := hid_intro (HI5.out.below hb4)
  replace HX5 := hid_intro (HX5.out.below hb4)
  have HU := hid_intro hU
  clear hU
  clear hb4
  obtain ⟨c8, cd8, hok, hs, -, -, -, hri, hrs⟩ := CatR.cread_all U HU.out
  have HOK := hid_intro hok
  have HS8 := hid_intro hs
  have HRI := hid_intro hri
  have HRS := hid_intro hrs
  clear hok hs hri hrs
  go_wp2_with fail
  refine (HRI.out _ HL.out).mono ?_
  rintro e w5 ⟨v, rfl, hv, hb5⟩
  replace HB := hid_intro (HB.out.trans (hb5.mono HB.out.size))
  replace HL := hid_intro (HL.out.below hb5)
  replace Y0 := hid_intro (Y0.out.below hb5)
  replace Y1 := hid_intro (Y1.out.below hb5)
  replace HI5 := hid_intro (HI5.out.below hb5)
  replace HX5 := hid_intro (HX5.out.below hb5)
  obtain ⟨ma8, mc8, ca8, cc8, rfl, hM, hC⟩ := hv.reads
  have HI8 : Hid (IsCa (.agg #[.slice ma8 c8.ms.length mc8, .slice ca8 c8.cs.length cc8]) c8 w5) := hid_intro ⟨ma8, mc8, ca8, cc8, rfl, hM, hC⟩
  clear hM hC hv
  generalize hnm8 : c8.ms.length = nm8 at *
  generalize hnc8 : c8.cs.length = nc8 at *
  have HNM8 := hid_intro hnm8
  have HNC8 := hid_intro hnc8
  clear hnm8 hnc8
  clear hb5
  obtain ⟨w6, hw6⟩ : ∃ z, z = w5.alloc (.cells #[.slice ma8 nm8 mc8, .slice ca8 nc8 cc8, .int .i64 cd8] 31) := ⟨_, rfl⟩
  obtain ⟨b8, hb8⟩ : ∃ z, z = w5.heap.size := ⟨_, rfl⟩
  have al : Below w5.heap.size w5 w6 := by rw [hw6]; exact (Below.refl _ _).alloc (Nat.le_refl _) _
  have HX8 : Hid (Blk b8 [.slice ma8 nm8 mc8, .slice ca8 nc8 cc8, .int .i64 cd8] w6) := hid_intro (by rw [hw6, hb8]; exact Blk.new w5 [.slice ma8 nm8 mc8, .slice ca8 nc8 cc8, .int .i64 cd8] 31)
  replace HB := hid_intro (HB.out.trans (al.mono HB.out.size))
  replace HL := hid_intro (HL.out.below al)
  replace Y0 := hid_intro (Y0.out.below al)
  replace Y1 := hid_intro (Y1.out.below al)
  replace HI5 := hid_intro (HI5.out.below al)
  replace HX5 := hid_intro (HX5.out.below al)
  replace HI8 := hid_intro (HI8.out.below al)
  have HW := hid_intro hw6
  have HBB := hid_intro hb8
  clear al hw6 hb8
  go_wp2_with fail
  rw [← HW.out, ← HBB.out]
  clear HW HBB
  refine (dmo_any a1 len1 cap1 _ h1 Y1.out).mono ?_
  rintro e w7 ⟨⟨c9, ma9, mc9, ca9, cc9, T9, rfl, hTz, hM, hC, hs⟩, hb7⟩
  replace HB := hid_intro (HB.out.trans (hb7.mono HB.out.size))
  replace HL := hid_intro (HL.out.below hb7)
  replace Y0 := hid_intro (Y0.out.below hb7)
  replace Y1 := hid_intro (Y1.out.below hb7)
  replace HI5 := hid_intro (HI5.out.below hb7)
  replace HX5 := hid_intro (HX5.out.below hb7)
  replace HI8 := hid_intro (HI8.out.below hb7)
  replace HX8 := hid_intro (HX8.out.below hb7)
  have HI9 : Hid (IsCa (.agg #[.slice ma9 c9.ms.length mc9, .slice ca9 c9.cs.length cc9]) c9 w7) := hid_intro ⟨ma9, mc9, ca9, cc9, rfl, hM, hC⟩
  have HS9 := hid_intro hs
  have HTz9 := hid_intro hTz
  clear hM hC hs hTz
  generalize hnm9 : c9.ms.length = nm9 at *
  generalize hnc9 : c9.cs.length = nc9 at *
  have HNM9 := hid_intro hnm9
  have HNC9 := hid_intro hnc9
  clear hnm9 hnc9
  clear hb7
  obtain ⟨w8, hw8⟩ : ∃ z, z = w7.alloc (.cells #[.slice ma9 nm9 mc9, .slice ca9 nc9 cc9] 26) := ⟨_, rfl⟩
  obtain ⟨b9, hb9⟩ : ∃ z, z = w7.heap.size := ⟨_, rfl⟩
  have al : Below w7.heap.size w7 w8 := by rw [hw8]; exact (Below.refl _ _).alloc (Nat.le_refl _) _
  have HX9 : Hid (Blk b9 [.slice ma9 nm9 mc9, .slice ca9 nc9 cc9] w8) := hid_intro (by rw [hw8, hb9]; exact Blk.new w7 [.slice ma9 nm9 mc9, .slice ca9 nc9 cc9] 26)
  replace HB := hid_intro (HB.out.trans (al.mono HB.out.size))
  replace HL := hid_intro (HL.out.below al)
  replace Y0 := hid_intro (Y0.out.below al)
  replace Y1 := hid_intro (Y1.out.below al)
  replace HI5 := hid_intro (HI5.out.below al)
  replace HX5 := hid_intro (HX5.out.below al)
  replace HI8 := hid_intro (HI8.out.below al)
  replace HX8 := hid_intro (HX8.out.below al)
  replace HI9 := hid_intro (HI9.out.below al)
  have HW := hid_intro hw8
  have HBB := hid_intro hb9
  clear al hw8 hb9
  go_wp2_with fail
  rw [← HW.out, ← HBB.out]
  clear HW HBB
  refine (dcr_any a0 len0 cap0 _ h0 Y0.out).mono ?_
  rintro e w9 ⟨⟨c11, ma11, mc11, ca11, cc11, T11, rfl, hTz, hM, hC, hs⟩, hb9⟩
  replace HB := hid_intro (HB.out.trans (hb9.mono HB.out.size))
  replace HL := hid_intro (HL.out.below hb9)
  replace Y0 := hid_intro (Y0.out.below hb9)
  replace Y1 := hid_intro (Y1.out.below hb9)
  replace HI5 := hid_intro (HI5.out.below hb9)
  replace HX5 := hid_intro (HX5.out.below hb9)
  replace HI8 := hid_intro (HI8.out.below hb9)
  replace HX8 := hid_intro (HX8.out.below hb9)
  replace HI9 := hid_intro (HI9.out.below hb9)
  replace HX9 := hid_intro (HX9.out.below hb9)
  have HI11 : Hid (IsCa (.agg #[.slice ma11 c11.ms.length mc11, .slice ca11 c11.cs.length cc11]) c11 w9) := hid_intro ⟨ma11, mc11, ca11, cc11, rfl, hM, hC⟩
  have HS11 := hid_intro hs
  have HTz11 := hid_intro hTz
  clear hM hC hs hTz
  generalize hnm11 : c11.ms.length = nm11 at *
  generalize hnc11 : c11.cs.length = nc11 at *
  have HNM11 := hid_intro hnm11
  have HNC11 := hid_intro hnc11
  clear hnm11 hnc11
  clear hb9
  obtain ⟨w10, hw10⟩ : ∃ z, z = w9.alloc (.cells #[.slice ma11 nm11 mc11, .slice ca11 nc11 cc11] 26) := ⟨_, rfl⟩
  obtain ⟨b11, hb11⟩ : ∃ z, z = w9.heap.size := ⟨_, rfl⟩
  have al : Below w9.heap.size w9 w10 := by rw [hw10]; exact (Below.refl _ _).alloc (Nat.le_refl _) _
  have HX11 : Hid (Blk b11 [.slice ma11 nm11 mc11, .slice ca11 nc11 cc11] w10) := hid_intro (by rw [hw10, hb11]; exact Blk.new w9 [.slice ma11 nm11 mc11, .slice ca11 nc11 cc11] 26)
  replace HB := hid_intro (HB.out.trans (al.mono HB.out.size))
  replace HL := hid_intro (HL.out.below al)
  replace Y0 := hid_intro (Y0.out.below al)
  replace Y1 := hid_intro (Y1.out.below al)
  replace HI5 := hid_intro (HI5.out.below al)
  replace HX5 := hid_intro (HX5.out.below al)
  replace HI8 := hid_intro (HI8.out.below al)
  replace HX8 := hid_intro (HX8.out.below al)
  replace HI9 := hid_intro (HI9.out.below al)
  replace HX9 := hid_intro (HX9.out.below al)
  replace HI11 := hid_intro (HI11.out.below al)
  have HW := hid_intro hw10
  have HBB := hid_intro hb11
  clear al hw10 hb11
  go_wp2_with fail
  rw [← HW.out, ← HBB.out]
  clear HW HBB
  refine (dmeter_any a1 len1 cap1 _ h1 Y1.out).mono ?_
  rintro e w11 ⟨⟨m, ta, tc, rfl, hTi, hmn, hmt⟩, hb11⟩
  replace HB := hid_intro (HB.out.trans (hb11.mono HB.out.size))
  replace HL := hid_intro (HL.out.below hb11)
  replace Y0 := hid_intro (Y0.out.below hb11)
  replace Y1 := hid_intro (Y1.out.below hb11)
  replace HI5 := hid_intro (HI5.out.below hb11)
  replace HX5 := hid_intro (HX5.out.below hb11)
  replace HI8 := hid_intro (HI8.out.below hb11)
  replace HX8 := hid_intro (HX8.out.below hb11)
  replace HI9 := hid_intro (HI9.out.below hb11)
  replace HX9 := hid_intro (HX9.out.below hb11)
  replace HI11 := hid_intro (HI11.out.below hb11)
  replace HX11 := hid_intro (HX11.out.below hb11)
  have HI13 : Hid (IsMe (.agg #[.string m.n, .int .i64 m.g, .bool m.wh, .int .i64 m.f, .int .i64 m.l, .slice ta m.ts.length tc]) m w11) := hid_intro ⟨ta, tc, rfl, hTi⟩
  have HM1 := hid_intro hmn
  have HM2 := hid_intro hmt
  clear hTi hmn hmt
  generalize htl : m.ts.length = tl at *
  have HTL := hid_intro htl
  clear htl
  clear hb11
  obtain ⟨w12, hw12⟩ : ∃ z, z = w11.alloc (.cells #[.string m.n, .int .i64 m.g, .bool m.wh, .int .i64 m.f, .int .i64 m.l, .slice ta tl tc] 37) := ⟨_, rfl⟩
  obtain ⟨b13, hb13⟩ : ∃ z, z = w11.heap.size := ⟨_, rfl⟩
  have al : Below w11.heap.size w11 w12 := by rw [hw12]; exact (Below.refl _ _).alloc (Nat.le_refl _) _
  have HX13 : Hid (Blk b13 [.string m.n, .int .i64 m.g, .bool m.wh, .int .i64 m.f, .int .i64 m.l, .slice ta tl tc] w12) := hid_intro (by rw [hw12, hb13]; exact Blk.new w11 [.string m.n, .int .i64 m.g, .bool m.wh, .int .i64 m.f, .int .i64 m.l, .slice ta tl tc] 37)
  replace HB := hid_intro (HB.out.trans (al.mono HB.out.size))
  replace HL := hid_intro (HL.out.below al)
  replace Y0 := hid_intro (Y0.out.below al)
  replace Y1 := hid_intro (Y1.out.below al)
  replace HI5 := hid_intro (HI5.out.below al)
  replace HX5 := hid_intro (HX5.out.below al)
  replace HI8 := hid_intro (HI8.out.below al)
  replace HX8 := hid_intro (HX8.out.below al)
  replace HI9 := hid_intro (HI9.out.below al)
  replace HX9 := hid_intro (HX9.out.below al)
  replace HI11 := hid_intro (HI11.out.below al)
  replace HX11 := hid_intro (HX11.out.below al)
  replace HI13 := hid_intro (HI13.out.below al)
  have HW := hid_intro hw12
  have HBB := hid_intro hb13
  clear al hw12 hb13
  go_wp2_with fail
  rw [← HW.out, ← HBB.out]
  clear HW HBB
  have HS10 : Hid (∀ W, Blk b5 [.slice ma5 nm5 mc5, .slice ca5 nc5 cc5] W → Blk b8 [.slice ma8 nm8 mc8, .slice ca8 nc8 cc8, .int .i64 cd8] W → (fun (W : World) => b5 < W.heap.size ∧ W.cell? ⟨b5, 0, none⟩ = some (.slice ma5 nm5 mc5) ∧ W.cell? ⟨b5, 1, none⟩ = some (.slice ca5 nc5 cc5) ∧ b8 < W.heap.size ∧ W.cell? ⟨b8, 0, none⟩ = some (.slice ma8 nm8 mc8) ∧ W.cell? ⟨b8, 1, none⟩ = some (.slice ca8 nc8 cc8) ∧ W.cell? ⟨b8, 2, none⟩ = some (.int .i64 cd8)) W) := hid_intro (fun W h1 h2 => ⟨h1.1, h1.2 0 (by simp), h1.2 1 (by simp), h2.1, h2.2 0 (by simp), h2.2 1 (by simp), h2.2 2 (by simp)⟩)
  have hfld0 : ∀ x y z w, (Instr.field 31 (.agg #[x, y, z]) 0).run Tryd.prog w = .ok (.agg #[x, y]) w := fun x y z w => by kernel_rfl
  have hfld1 : ∀ x y z w, (Instr.field 31 (.agg #[x, y, z]) 1).run Tryd.prog w = .ok z w := fun x y z w => by kernel_rfl
  have HS12 : Hid (∀ W, Blk b5 [.slice ma5 nm5 mc5, .slice ca5 nc5 cc5] W → Blk b9 [.slice ma9 nm9 mc9, .slice ca9 nc9 cc9] W → Blk b11 [.slice ma11 nm11 mc11, .slice ca11 nc11 cc11] W → Blk b13 [.string m.n, .int .i64 m.g, .bool m.wh, .int .i64 m.f, .int .i64 m.l, .slice ta tl tc] W → (fun (W : World) => b5 < W.heap.size ∧ W.cell? ⟨b5, 0, none⟩ = some (.slice ma5 nm5 mc5) ∧ W.cell? ⟨b5, 1, none⟩ = some (.slice ca5 nc5 cc5) ∧ b9 < W.heap.size ∧ W.cell? ⟨b9, 0, none⟩ = some (.slice ma9 nm9 mc9) ∧ W.cell? ⟨b9, 1, none⟩ = some (.slice ca9 nc9 cc9) ∧ b11 < W.heap.size ∧ W.cell? ⟨b11, 0, none⟩ = some (.slice ma11 nm11 mc11) ∧ W.cell? ⟨b11, 1, none⟩ = some (.slice ca11 nc11 cc11) ∧ b13 < W.heap.size ∧ W.cell? ⟨b13, 0, none⟩ = some (.string m.n) ∧ W.cell? ⟨b13, 1, none⟩ = some (.int .i64 m.g) ∧ W.cell? ⟨b13, 2, none⟩ = some (.bool m.wh) ∧ W.cell? ⟨b13, 3, none⟩ = some (.int .i64 m.f) ∧ W.cell? ⟨b13, 4, none⟩ = some (.int .i64 m.l) ∧ W.cell? ⟨b13, 5, none⟩ = some (.slice ta tl tc)) W) := hid_intro (fun W h1 h2 h3 h4 => ⟨h1.1, h1.2 0 (by simp), h1.2 1 (by simp), h2.1, h2.2 0 (by simp), h2.2 1 (by simp), h3.1, h3.2 0 (by simp), h3.2 1 (by simp), h4.1, h4.2 0 (by simp), h4.2 1 (by simp), h4.2 2 (by simp), h4.2 3 (by simp), h4.2 4 (by simp), h4.2 5 (by simp)⟩)
  obtain ⟨M, hMe⟩ : ∃ M, M = mO c9 T9 := ⟨_, rfl⟩
  have HMO := hid_intro hMe
  have HMS : Hid M.Small := hid_intro (by rw [hMe]; exact mO_small HS9.out T9)
  clear hMe
  cases hcb : caB c5
  · have HCB := hid_intro hcb
    have hte : t = ⟨#[]⟩ := by rw [HT.out]; unfold caBy; rw [if_neg (by rw [hcb]; decide)]
    subst hte
    clear hcb
    by_cases hcd : cd8 = 0
    · subst hcd
      have hb0 := (Below.refl w12.heap.size w12).drew
      have HB_0 := HB.out.trans (hb0.mono HB.out.size)
      have HL_0 := HL.out.below hb0
      have HI5_0 := HI5.out.below hb0
      have HX5_0 := HX5.out.below hb0
      have HI8_0 := HI8.out.below hb0
      have HX8_0 := HX8.out.below hb0
      have HI9_0 := HI9.out.below hb0
      have HX9_0 := HX9.out.below hb0
      have HI11_0 := HI11.out.below hb0
      have HX11_0 := HX11.out.below hb0
      have HI13_0 := HI13.out.below hb0
      have HX13_0 := HX13.out.below hb0
      clear hb0 HB HL HI5 HX5 HI8 HX8 HI9 HX9 HI11 HX11 HI13 HX13
      refine wp_region_held_drew (S := (fun (W : World) => b5 < W.heap.size ∧ W.cell? ⟨b5, 0, none⟩ = some (.slice ma5 nm5 mc5) ∧ W.cell? ⟨b5, 1, none⟩ = some (.slice ca5 nc5 cc5) ∧ b8 < W.heap.size ∧ W.cell? ⟨b8, 0, none⟩ = some (.slice ma8 nm8 mc8) ∧ W.cell? ⟨b8, 1, none⟩ = some (.slice ca8 nc8 cc8) ∧ W.cell? ⟨b8, 2, none⟩ = some (.int .i64 0))) (by kernel_rfl) (HS10.out _ HX5_0 HX8_0) (fun hHeld => ?_)
      generalize w12.drew = kd at *
      refine wpAnyH_take (i := 0) (oi := { dst := some 43, op := Op.move (Operand.tmp 6), type := 9, pos := "laws.go:268", after := #[], guard := none }) (v := ?_) rfl (by kernel_rfl) (by kernel_rfl) (by kernel_rfl) (fun _ _ _ h => h) (Or.inl ⟨by rfl, ?_⟩) (by assumption) ?_
      rotate_left
      · (intro w hSw; (try dsimp only at hSw); go_simp) <;> with_reducible rfl
      try simp only [Act.put, List.setIfInBounds_toArray, List.set_cons_zero, List.set_cons_succ]
      refine wpAnyH_take (i := 1) (oi := { dst := some 44, op := Op.load 26 (Operand.tmp 5), type := 26, pos := "laws.go:268", after := #[], guard := none }) (v := ?_) rfl (by kernel_rfl) (by kernel_rfl) (by kernel_rfl) (fun _ _ _ h => h) (Or.inl ⟨by rfl, ?_⟩) (by assumption) ?_
      rotate_left
      · (intro w hSw; (try dsimp only at hSw); go_simp) <;> with_reducible rfl
      try simp only [Act.put, List.setIfInBounds_toArray, List.set_cons_zero, List.set_cons_succ]
      refine wpAnyH_ready (rs := [2]) (by kernel_rfl) (by simp) ?_
      refine AllReadyH.cons (o := { dst := some 45, op := Op.call { callee := Callee.value (Operand.func 11), args := #[Operand.tmp 44], argTypes := #[26] }, type := 9, pos := "laws.go:268", after := #[{ on := 1, ground := Ground.data }], guard := none }) rfl (fun K hK => ?_) AllReadyH.nil
      go_simp
      go_at_call 11
      refine (CatR.spec_cab _ c5 _ HS5.out HI5_0).mono ?_
      rintro e q1 ⟨he, hq1⟩
      have HB_1 := HB_0.trans (hq1.mono HB_0.size)
      have HL_1 := HL_0.below hq1
      have HI5_1 := HI5_0.below hq1
      have HX5_1 := HX5_0.below hq1
      have HI8_1 := HI8_0.below hq1
      have HX8_1 := HX8_0.below hq1
      have HI9_1 := HI9_0.below hq1
      have HX9_1 := HX9_0.below hq1
      have HI11_1 := HI11_0.below hq1
      have HX11_1 := HX11_0.below hq1
      have HI13_1 := HI13_0.below hq1
      have HX13_1 := HX13_0.below hq1
      rw [← HT.out] at he
      subst he
      try go_wp2_with fail
      have hk1 := HS10.out _ HX5_1 HX8_1
      refine hK.out _ _ hk1 (fun _ => ?_)
      clear hK K
      try simp only [Act.put, List.setIfInBounds_toArray, List.set_cons_zero, List.set_cons_succ]
      refine wpAnyH_take (i := 3) (oi := { dst := some 46, op := Op.binOp BinOp.neq 9 (Operand.tmp 43) (Operand.tmp 45) 9, type := 4, pos := "laws.go:268", after := #[{ on := 0, ground := Ground.data }, { on := 2, ground := Ground.data }], guard := none }) (v := ?_) rfl (by kernel_rfl) (by kernel_rfl) (by kernel_rfl) (fun _ _ _ h => h) (Or.inl ⟨by rfl, ?_⟩) (by assumption) ?_
      rotate_left
      · (intro w hSw; (try dsimp only at hSw); go_simp) <;> with_reducible rfl
      try simp only [Act.put, List.setIfInBounds_toArray, List.set_cons_zero, List.set_cons_succ]
      refine wpAnyH_take (i := 4) (oi := { dst := some 47, op := Op.move (Operand.tmp 46), type := 4, pos := "laws.go:268", after := #[{ on := 3, ground := Ground.data }, { on := 2, ground := Ground.chain }], guard := none }) (v := ?_) rfl (by kernel_rfl) (by kernel_rfl) (by kernel_rfl) (fun _ _ _ h => h) (Or.inl ⟨by rfl, ?_⟩) (by assumption) ?_
      rotate_left
      · (intro w hSw; (try dsimp only at hSw); go_simp) <;> with_reducible rfl
      try simp only [Act.put, List.setIfInBounds_toArray, List.set_cons_zero, List.set_cons_succ]
      refine wpAnyH_take (i := 5) (oi := { dst := some 48, op := Op.move (Operand.tmp 6), type := 9, pos := "laws.go:268", after := #[{ on := 4, ground := Ground.guard }], guard := some (4, false) }) (v := ?_) rfl (by kernel_rfl) (by kernel_rfl) (by kernel_rfl) (fun _ _ _ h => h) (Or.inl ⟨by rfl, ?_⟩) (by assumption) ?_
      rotate_left
      · (intro w hSw; (try dsimp only at hSw); go_simp) <;> with_reducible rfl
      try simp only [Act.put, List.setIfInBounds_toArray, List.set_cons_zero, List.set_cons_succ]
      refine wpAnyH_take (i := 6) (oi := { dst := some 49, op := Op.binOp BinOp.neq 9 (Operand.tmp 48) (Operand.const (Value.string { data := #[] })) 9, type := 4, pos := "laws.go:268", after := #[{ on := 5, ground := Ground.data }, { on := 4, ground := Ground.guard }], guard := some (4, false) }) (v := ?_) rfl (by kernel_rfl) (by kernel_rfl) (by kernel_rfl) (fun _ _ _ h => h) (Or.inl ⟨by rfl, ?_⟩) (by assumption) ?_
      rotate_left
      · (intro w hSw; (try dsimp only at hSw); go_simp) <;> with_reducible rfl
      try simp only [Act.put, List.setIfInBounds_toArray, List.set_cons_zero, List.set_cons_succ]
      refine wpAnyH_take (i := 7) (oi := { dst := some 50, op := Op.move (Operand.tmp 49), type := 4, pos := "laws.go:268", after := #[{ on := 6, ground := Ground.data }, { on := 4, ground := Ground.chain }, { on := 4, ground := Ground.guard }], guard := some (4, false) }) (v := ?_) rfl (by kernel_rfl) (by kernel_rfl) (by kernel_rfl) (fun _ _ _ h => h) (Or.inl ⟨by rfl, ?_⟩) (by assumption) ?_
      rotate_left
      · (intro w hSw; (try dsimp only at hSw); go_simp) <;> with_reducible rfl
      try simp only [Act.put, List.setIfInBounds_toArray, List.set_cons_zero, List.set_cons_succ]
      refine wpAnyH_take (i := 8) (oi := { dst := some 51, op := Op.move (Operand.tmp 6), type := 9, pos := "laws.go:268", after := #[{ on := 7, ground := Ground.guard }], guard := some (7, true) }) (v := undef) rfl (by kernel_rfl) (by kernel_rfl) (by kernel_rfl) (fun _ _ _ h => h) (Or.inr ⟨by rfl, rfl⟩) (by assumption) ?_
      try simp only [Act.put, List.setIfInBounds_toArray, List.set_cons_zero, List.set_cons_succ]
      refine wpAnyH_take (i := 9) (oi := { dst := some 52, op := Op.call { callee := Callee.value (Operand.func 7), args := #[Operand.tmp 51], argTypes := #[9] }, type := 31, pos := "laws.go:268", after := #[{ on := 8, ground := Ground.data }, { on := 7, ground := Ground.chain }, { on := 7, ground := Ground.guard }], guard := some (7, true) }) (v := undef) rfl (by kernel_rfl) (by kernel_rfl) (by kernel_rfl) (fun _ _ _ h => h) (Or.inr ⟨by rfl, rfl⟩) (by assumption) ?_
      try simp only [Act.put, List.setIfInBounds_toArray, List.set_cons_zero, List.set_cons_succ]
      refine wpAnyH_take (i := 10) (oi := { dst := some 53, op := Op.field 31 (Operand.tmp 52) 0, type := 26, pos := "laws.go:268", after := #[{ on := 9, ground := Ground.data }, { on := 7, ground := Ground.guard }], guard := some (7, true) }) (v := undef) rfl (by kernel_rfl) (by kernel_rfl) (by kernel_rfl) (fun _ _ _ h => h) (Or.inr ⟨by rfl, rfl⟩) (by assumption) ?_
      try simp only [Act.put, List.setIfInBounds_toArray, List.set_cons_zero, List.set_cons_succ]
      refine wpAnyH_take (i := 11) (oi := { dst := some 54, op := Op.load 26 (Operand.tmp 5), type := 26, pos := "laws.go:268", after := #[{ on := 7, ground := Ground.guard }], guard := some (7, true) }) (v := undef) rfl (by kernel_rfl) (by kernel_rfl) (by kernel_rfl) (fun _ _ _ h => h) (Or.inr ⟨by rfl, rfl⟩) (by assumption) ?_
      try simp only [Act.put, List.setIfInBounds_toArray, List.set_cons_zero, List.set_cons_succ]
      refine wpAnyH_take (i := 12) (oi := { dst := some 55, op := Op.call { callee := Callee.value (Operand.func 12), args := #[Operand.tmp 53, Operand.tmp 54], argTypes := #[26, 26] }, type := 4, pos := "laws.go:268", after := #[{ on := 10, ground := Ground.data }, { on := 11, ground := Ground.data }, { on := 9, ground := Ground.chain }, { on := 7, ground := Ground.guard }], guard := some (7, true) }) (v := undef) rfl (by kernel_rfl) (by kernel_rfl) (by kernel_rfl) (fun _ _ _ h => h) (Or.inr ⟨by rfl, rfl⟩) (by assumption) ?_
      try simp only [Act.put, List.setIfInBounds_toArray, List.set_cons_zero, List.set_cons_succ]
      refine wpAnyH_take (i := 13) (oi := { dst := some 56, op := Op.unOp UnOp.not 4 (Operand.tmp 55), type := 4, pos := "laws.go:268", after := #[{ on := 12, ground := Ground.data }, { on := 7, ground := Ground.guard }], guard := some (7, true) }) (v := undef) rfl (by kernel_rfl) (by kernel_rfl) (by kernel_rfl) (fun _ _ _ h => h) (Or.inr ⟨by rfl, rfl⟩) (by assumption) ?_
      try simp only [Act.put, List.setIfInBounds_toArray, List.set_cons_zero, List.set_cons_succ]
      refine wpAnyH_take (i := 14) (oi := { dst := some 57, op := Op.pick (Operand.tmp 50) (Operand.tmp 56) (Operand.const (Value.bool false)), type := 4, pos := "laws.go:268", after := #[{ on := 7, ground := Ground.data }, { on := 13, ground := Ground.data }, { on := 4, ground := Ground.guard }], guard := some (4, false) }) (v := ?_) rfl (by kernel_rfl) (by kernel_rfl) (by kernel_rfl) (fun _ _ _ h => h) (Or.inl ⟨by rfl, ?_⟩) (by assumption) ?_
      rotate_left
      · (intro w hSw; (try dsimp only at hSw); go_simp) <;> with_reducible rfl
      try simp only [Act.put, List.setIfInBounds_toArray, List.set_cons_zero, List.set_cons_succ]
      refine wpAnyH_take (i := 15) (oi := { dst := some 58, op := Op.pick (Operand.tmp 47) (Operand.const (Value.bool true)) (Operand.tmp 57), type := 4, pos := "laws.go:268", after := #[{ on := 4, ground := Ground.data }, { on := 14, ground := Ground.data }], guard := none }) (v := ?_) rfl (by kernel_rfl) (by kernel_rfl) (by kernel_rfl) (fun _ _ _ h => h) (Or.inl ⟨by rfl, ?_⟩) (by assumption) ?_
      rotate_left
      · (intro w hSw; (try dsimp only at hSw); go_simp) <;> with_reducible rfl
      try simp only [Act.put, List.setIfInBounds_toArray, List.set_cons_zero, List.set_cons_succ]
      refine wpAnyH_take (i := 16) (oi := { dst := some 59, op := Op.move (Operand.tmp 58), type := 4, pos := "laws.go:268", after := #[{ on := 15, ground := Ground.data }, { on := 12, ground := Ground.chain }], guard := none }) (v := ?_) rfl (by kernel_rfl) (by kernel_rfl) (by kernel_rfl) (fun _ _ _ h => h) (Or.inl ⟨by rfl, ?_⟩) (by assumption) ?_
      rotate_left
      · (intro w hSw; (try dsimp only at hSw); go_simp) <;> with_reducible rfl
      try simp only [Act.put, List.setIfInBounds_toArray, List.set_cons_zero, List.set_cons_succ]
      refine wpAnyH_take (i := 17) (oi := { dst := some 60, op := Op.fieldAddr 31 (Operand.tmp 8) 1, type := 0, pos := "laws.go:268", after := #[{ on := 16, ground := Ground.guard }], guard := some (16, false) }) (v := ?_) rfl (by kernel_rfl) (by kernel_rfl) (by kernel_rfl) (fun _ _ _ h => h) (Or.inl ⟨by rfl, ?_⟩) (by assumption) ?_
      rotate_left
      · (intro w hSw; (try dsimp only at hSw); go_simp) <;> with_reducible rfl
      try simp only [Act.put, List.setIfInBounds_toArray, List.set_cons_zero, List.set_cons_succ]
      refine wpAnyH_take (i := 18) (oi := { dst := some 61, op := Op.load 2 (Operand.tmp 60), type := 2, pos := "laws.go:268", after := #[{ on := 17, ground := Ground.data }, { on := 16, ground := Ground.guard }], guard := some (16, false) }) (v := ?_) rfl (by kernel_rfl) (by kernel_rfl) (by kernel_rfl) (fun _ _ _ h => h) (Or.inl ⟨by rfl, ?_⟩) (by assumption) ?_
      rotate_left
      · (intro w hSw; (try dsimp only at hSw); go_simp) <;> with_reducible rfl
      try simp only [Act.put, List.setIfInBounds_toArray, List.set_cons_zero, List.set_cons_succ]
      refine wpAnyH_take (i := 19) (oi := { dst := some 62, op := Op.move (Operand.tmp 7), type := 9, pos := "laws.go:268", after := #[{ on := 16, ground := Ground.guard }], guard := some (16, false) }) (v := ?_) rfl (by kernel_rfl) (by kernel_rfl) (by kernel_rfl) (fun _ _ _ h => h) (Or.inl ⟨by rfl, ?_⟩) (by assumption) ?_
      rotate_left
      · (intro w hSw; (try dsimp only at hSw); go_simp) <;> with_reducible rfl
      try simp only [Act.put, List.setIfInBounds_toArray, List.set_cons_zero, List.set_cons_succ]
      refine wpAnyH_ready (rs := [20]) (by kernel_rfl) (by simp) ?_
      refine AllReadyH.cons (o := { dst := some 63, op := Op.call { callee := Callee.value (Operand.func 13), args := #[Operand.tmp 62], argTypes := #[9] }, type := 31, pos := "laws.go:268", after := #[{ on := 19, ground := Ground.data }, { on := 16, ground := Ground.chain }, { on := 16, ground := Ground.guard }], guard := some (16, false) }) rfl (fun K hK => ?_) AllReadyH.nil
      go_simp
      go_at_call 13
      refine (HRS.out _).mono ?_
      rintro e q2 ⟨v, rfl, hv, hq2⟩
      have HB_2 := HB_1.trans (hq2.mono HB_1.size)
      have HL_2 := HL_1.below hq2
      have HI5_2 := HI5_1.below hq2
      have HX5_2 := HX5_1.below hq2
      have HI8_2 := HI8_1.below hq2
      have HX8_2 := HX8_1.below hq2
      have HI9_2 := HI9_1.below hq2
      have HX9_2 := HX9_1.below hq2
      have HI11_2 := HI11_1.below hq2
      have HX11_2 := HX11_1.below hq2
      have HI13_2 := HI13_1.below hq2
      have HX13_2 := HX13_1.below hq2
      obtain ⟨ma', mc', ca', cc', rfl, hM', hC'⟩ := hv.reads
      have hI'2 : IsCa (.agg #[.slice ma' c8.ms.length mc', .slice ca' c8.cs.length cc']) c8 q2 := ⟨ma', mc', ca', cc', rfl, hM', hC'⟩
      rw [HNM8.out, HNC8.out] at hI'2 ⊢
      clear hM' hC' hv
      try go_wp2_with fail
      have hk2 := HS10.out _ HX5_2 HX8_2
      refine hK.out _ _ hk2 (fun _ => ?_)
      clear hK K
      try simp only [Act.put, List.setIfInBounds_toArray, List.set_cons_zero, List.set_cons_succ]
      refine wpAnyH_take (i := 21) (oi := { dst := some 64, op := Op.field 31 (Operand.tmp 63) 1, type := 2, pos := "laws.go:268", after := #[{ on := 20, ground := Ground.data }, { on := 16, ground := Ground.guard }], guard := some (16, false) }) (v := ?_) rfl (by kernel_rfl) (by kernel_rfl) (by kernel_rfl) (fun _ _ _ h => h) (Or.inl ⟨by rfl, ?_⟩) (by assumption) ?_
      rotate_left
      · (intro w hSw; (try dsimp only at hSw); go_simp) <;> with_reducible rfl
      try simp only [Act.put, List.setIfInBounds_toArray, List.set_cons_zero, List.set_cons_succ]
      refine wpAnyH_take (i := 22) (oi := { dst := some 65, op := Op.binOp BinOp.neq 2 (Operand.tmp 61) (Operand.tmp 64) 2, type := 4, pos := "laws.go:268", after := #[{ on := 18, ground := Ground.data }, { on := 21, ground := Ground.data }, { on := 16, ground := Ground.guard }], guard := some (16, false) }) (v := ?_) rfl (by kernel_rfl) (by kernel_rfl) (by kernel_rfl) (fun _ _ _ h => h) (Or.inl ⟨by rfl, ?_⟩) (by assumption) ?_
      rotate_left
      · (intro w hSw; (try dsimp only at hSw); go_simp) <;> with_reducible rfl
      try simp only [Act.put, List.setIfInBounds_toArray, List.set_cons_zero, List.set_cons_succ]
      refine wpAnyH_take (i := 23) (oi := { dst := some 66, op := Op.pick (Operand.tmp 59) (Operand.const (Value.bool true)) (Operand.tmp 65), type := 4, pos := "laws.go:268", after := #[{ on := 16, ground := Ground.data }, { on := 22, ground := Ground.data }], guard := none }) (v := ?_) rfl (by kernel_rfl) (by kernel_rfl) (by kernel_rfl) (fun _ _ _ h => h) (Or.inl ⟨by rfl, ?_⟩) (by assumption) ?_
      rotate_left
      · (intro w hSw; (try dsimp only at hSw); go_simp) <;> with_reducible rfl
      try simp only [Act.put, List.setIfInBounds_toArray, List.set_cons_zero, List.set_cons_succ]
      refine wpAnyH_take (i := 24) (oi := { dst := some 67, op := Op.move (Operand.tmp 66), type := 4, pos := "laws.go:268", after := #[{ on := 23, ground := Ground.data }, { on := 20, ground := Ground.chain }], guard := none }) (v := ?_) rfl (by kernel_rfl) (by kernel_rfl) (by kernel_rfl) (fun _ _ _ h => h) (Or.inl ⟨by rfl, ?_⟩) (by assumption) ?_
      rotate_left
      · (intro w hSw; (try dsimp only at hSw); go_simp) <;> with_reducible rfl
      try simp only [Act.put, List.setIfInBounds_toArray, List.set_cons_zero, List.set_cons_succ]
      refine wpAnyH_take (i := 25) (oi := { dst := some 68, op := Op.fieldAddr 31 (Operand.tmp 8) 0, type := 0, pos := "laws.go:268", after := #[{ on := 24, ground := Ground.guard }], guard := some (24, false) }) (v := ?_) rfl (by kernel_rfl) (by kernel_rfl) (by kernel_rfl) (fun _ _ _ h => h) (Or.inl ⟨by rfl, ?_⟩) (by assumption) ?_
      rotate_left
      · (intro w hSw; (try dsimp only at hSw); go_simp) <;> with_reducible rfl
      try simp only [Act.put, List.setIfInBounds_toArray, List.set_cons_zero, List.set_cons_succ]
      refine wpAnyH_take (i := 26) (oi := { dst := some 69, op := Op.load 26 (Operand.tmp 68), type := 26, pos := "laws.go:268", after := #[{ on := 25, ground := Ground.data }, { on := 24, ground := Ground.guard }], guard := some (24, false) }) (v := ?_) rfl (by kernel_rfl) (by kernel_rfl) (by kernel_rfl) (fun _ _ _ h => h) (Or.inl ⟨by rfl, ?_⟩) (by assumption) ?_
      rotate_left
      · (intro w hSw; (try dsimp only at hSw); go_simp) <;> with_reducible rfl
      try simp only [Act.put, List.setIfInBounds_toArray, List.set_cons_zero, List.set_cons_succ]
      refine wpAnyH_take (i := 27) (oi := { dst := some 70, op := Op.move (Operand.tmp 7), type := 9, pos := "laws.go:268", after := #[{ on := 24, ground := Ground.guard }], guard := some (24, false) }) (v := ?_) rfl (by kernel_rfl) (by kernel_rfl) (by kernel_rfl) (fun _ _ _ h => h) (Or.inl ⟨by rfl, ?_⟩) (by assumption) ?_
      rotate_left
      · (intro w hSw; (try dsimp only at hSw); go_simp) <;> with_reducible rfl
      try simp only [Act.put, List.setIfInBounds_toArray, List.set_cons_zero, List.set_cons_succ]
      refine wpAnyH_ready (rs := [28]) (by kernel_rfl) (by simp) ?_
      refine AllReadyH.cons (o := { dst := some 71, op := Op.call { callee := Callee.value (Operand.func 13), args := #[Operand.tmp 70], argTypes := #[9] }, type := 31, pos := "laws.go:268", after := #[{ on := 27, ground := Ground.data }, { on := 24, ground := Ground.chain }, { on := 24, ground := Ground.guard }], guard := some (24, false) }) rfl (fun K hK => ?_) AllReadyH.nil
      go_simp
      go_at_call 13
      refine (HRS.out _).mono ?_
      rintro e q3 ⟨v, rfl, hv, hq3⟩
      have HB_3 := HB_2.trans (hq3.mono HB_2.size)
      have HL_3 := HL_2.below hq3
      have HI5_3 := HI5_2.below hq3
      have HX5_3 := HX5_2.below hq3
      have HI8_3 := HI8_2.below hq3
      have HX8_3 := HX8_2.below hq3
      have HI9_3 := HI9_2.below hq3
      have HX9_3 := HX9_2.below hq3
      have HI11_3 := HI11_2.below hq3
      have HX11_3 := HX11_2.below hq3
      have HI13_3 := HI13_2.below hq3
      have HX13_3 := HX13_2.below hq3
      have I'_3 := hI'2.below hq3
      obtain ⟨ma', mc', ca', cc', rfl, hM', hC'⟩ := hv.reads
      have hI'3 : IsCa (.agg #[.slice ma' c8.ms.length mc', .slice ca' c8.cs.length cc']) c8 q3 := ⟨ma', mc', ca', cc', rfl, hM', hC'⟩
      rw [HNM8.out, HNC8.out] at hI'3 ⊢
      clear hM' hC' hv
      try go_wp2_with fail
      have hk3 := HS10.out _ HX5_3 HX8_3
      refine hK.out _ _ hk3 (fun _ => ?_)
      clear hK K
      try simp only [Act.put, List.setIfInBounds_toArray, List.set_cons_zero, List.set_cons_succ]
      refine wpAnyH_take (i := 29) (oi := { dst := some 72, op := Op.field 31 (Operand.tmp 71) 0, type := 26, pos := "laws.go:268", after := #[{ on := 28, ground := Ground.data }, { on := 24, ground := Ground.guard }], guard := some (24, false) }) (v := ?_) rfl (by kernel_rfl) (by kernel_rfl) (by kernel_rfl) (fun _ _ _ h => h) (Or.inl ⟨by rfl, ?_⟩) (by assumption) ?_
      rotate_left
      · (intro w hSw; (try dsimp only at hSw); go_simp) <;> with_reducible rfl
      try simp only [Act.put, List.setIfInBounds_toArray, List.set_cons_zero, List.set_cons_succ]
      refine wpAnyH_ready (rs := [30]) (by kernel_rfl) (by simp) ?_
      refine AllReadyH.cons (o := { dst := some 73, op := Op.call { callee := Callee.value (Operand.func 12), args := #[Operand.tmp 69, Operand.tmp 72], argTypes := #[26, 26] }, type := 4, pos := "laws.go:268", after := #[{ on := 26, ground := Ground.data }, { on := 29, ground := Ground.data }, { on := 28, ground := Ground.chain }, { on := 24, ground := Ground.guard }], guard := some (24, false) }) rfl (fun K hK => ?_) AllReadyH.nil
      go_simp
      go_at_call 12
      refine (CatR.lwCa_any _ _ c8 _ HS8.out HI8_3 hI'3).mono ?_
      rintro e q4 ⟨rfl, hq4⟩
      have HB_4 := HB_3.trans (hq4.mono HB_3.size)
      have HL_4 := HL_3.below hq4
      have HI5_4 := HI5_3.below hq4
      have HX5_4 := HX5_3.below hq4
      have HI8_4 := HI8_3.below hq4
      have HX8_4 := HX8_3.below hq4
      have HI9_4 := HI9_3.below hq4
      have HX9_4 := HX9_3.below hq4
      have HI11_4 := HI11_3.below hq4
      have HX11_4 := HX11_3.below hq4
      have HI13_4 := HI13_3.below hq4
      have HX13_4 := HX13_3.below hq4
      have I'_4 := hI'3.below hq4
      try go_wp2_with fail
      have hk4 := HS10.out _ HX5_4 HX8_4
      refine hK.out _ _ hk4 (fun _ => ?_)
      clear hK K
      try simp only [Act.put, List.setIfInBounds_toArray, List.set_cons_zero, List.set_cons_succ]
      refine wpAnyH_take (i := 31) (oi := { dst := some 74, op := Op.unOp UnOp.not 4 (Operand.tmp 73), type := 4, pos := "laws.go:268", after := #[{ on := 30, ground := Ground.data }, { on := 24, ground := Ground.guard }], guard := some (24, false) }) (v := ?_) rfl (by kernel_rfl) (by kernel_rfl) (by kernel_rfl) (fun _ _ _ h => h) (Or.inl ⟨by rfl, ?_⟩) (by assumption) ?_
      rotate_left
      · (intro w hSw; (try dsimp only at hSw); go_simp) <;> with_reducible rfl
      try simp only [Act.put, List.setIfInBounds_toArray, List.set_cons_zero, List.set_cons_succ]
      refine wpAnyH_take (i := 32) (oi := { dst := some 75, op := Op.pick (Operand.tmp 67) (Operand.const (Value.bool true)) (Operand.tmp 74), type := 4, pos := "laws.go:268", after := #[{ on := 24, ground := Ground.data }, { on := 31, ground := Ground.data }], guard := none }) (v := ?_) rfl (by kernel_rfl) (by kernel_rfl) (by kernel_rfl) (fun _ _ _ h => h) (Or.inl ⟨by rfl, ?_⟩) (by assumption) ?_
      rotate_left
      · (intro w hSw; (try dsimp only at hSw); go_simp) <;> with_reducible rfl
      try simp only [Act.put, List.setIfInBounds_toArray, List.set_cons_zero, List.set_cons_succ]
      refine wpAnyH_take (i := 33) (oi := { dst := some 76, op := Op.move (Operand.tmp 75), type := 4, pos := "laws.go:268", after := #[{ on := 32, ground := Ground.data }, { on := 30, ground := Ground.chain }], guard := none }) (v := ?_) rfl (by kernel_rfl) (by kernel_rfl) (by kernel_rfl) (fun _ _ _ h => h) (Or.inl ⟨by rfl, ?_⟩) (by assumption) ?_
      rotate_left
      · (intro w hSw; (try dsimp only at hSw); go_simp) <;> with_reducible rfl
      try simp only [Act.put, List.setIfInBounds_toArray, List.set_cons_zero, List.set_cons_succ]
      refine wpAnyH_take (i := 34) (oi := { dst := some 77, op := Op.fieldAddr 31 (Operand.tmp 8) 1, type := 0, pos := "laws.go:268", after := #[{ on := 33, ground := Ground.guard }], guard := some (33, false) }) (v := ?_) rfl (by kernel_rfl) (by kernel_rfl) (by kernel_rfl) (fun _ _ _ h => h) (Or.inl ⟨by rfl, ?_⟩) (by assumption) ?_
      rotate_left
      · (intro w hSw; (try dsimp only at hSw); go_simp) <;> with_reducible rfl
      try simp only [Act.put, List.setIfInBounds_toArray, List.set_cons_zero, List.set_cons_succ]
      refine wpAnyH_take (i := 35) (oi := { dst := some 78, op := Op.load 2 (Operand.tmp 77), type := 2, pos := "laws.go:268", after := #[{ on := 34, ground := Ground.data }, { on := 33, ground := Ground.guard }], guard := some (33, false) }) (v := ?_) rfl (by kernel_rfl) (by kernel_rfl) (by kernel_rfl) (fun _ _ _ h => h) (Or.inl ⟨by rfl, ?_⟩) (by assumption) ?_
      rotate_left
      · (intro w hSw; (try dsimp only at hSw); go_simp) <;> with_reducible rfl
      try simp only [Act.put, List.setIfInBounds_toArray, List.set_cons_zero, List.set_cons_succ]
      refine wpAnyH_take (i := 36) (oi := { dst := some 79, op := Op.binOp BinOp.eql 2 (Operand.tmp 78) (Operand.const (Value.int IntKind.i64 0)) 2, type := 4, pos := "laws.go:268", after := #[{ on := 35, ground := Ground.data }, { on := 33, ground := Ground.guard }], guard := some (33, false) }) (v := ?_) rfl (by kernel_rfl) (by kernel_rfl) (by kernel_rfl) (fun _ _ _ h => h) (Or.inl ⟨by rfl, ?_⟩) (by assumption) ?_
      rotate_left
      · (intro w hSw; (try dsimp only at hSw); go_simp) <;> with_reducible rfl
      try simp only [Act.put, List.setIfInBounds_toArray, List.set_cons_zero, List.set_cons_succ]
      refine wpAnyH_take (i := 37) (oi := { dst := some 80, op := Op.move (Operand.tmp 79), type := 4, pos := "laws.go:268", after := #[{ on := 36, ground := Ground.data }, { on := 33, ground := Ground.chain }, { on := 33, ground := Ground.guard }], guard := some (33, false) }) (v := ?_) rfl (by kernel_rfl) (by kernel_rfl) (by kernel_rfl) (fun _ _ _ h => h) (Or.inl ⟨by rfl, ?_⟩) (by assumption) ?_
      rotate_left
      · (intro w hSw; (try dsimp only at hSw); go_simp) <;> with_reducible rfl
      try simp only [Act.put, List.setIfInBounds_toArray, List.set_cons_zero, List.set_cons_succ]
      refine wpAnyH_take (i := 38) (oi := { dst := some 81, op := Op.fieldAddr 31 (Operand.tmp 8) 0, type := 0, pos := "laws.go:268", after := #[{ on := 37, ground := Ground.guard }], guard := some (37, true) }) (v := ?_) rfl (by kernel_rfl) (by kernel_rfl) (by kernel_rfl) (fun _ _ _ h => h) (Or.inl ⟨by rfl, ?_⟩) (by assumption) ?_
      rotate_left
      · (intro w hSw; (try dsimp only at hSw); go_simp) <;> with_reducible rfl
      try simp only [Act.put, List.setIfInBounds_toArray, List.set_cons_zero, List.set_cons_succ]
      refine wpAnyH_take (i := 39) (oi := { dst := some 82, op := Op.load 26 (Operand.tmp 81), type := 26, pos := "laws.go:268", after := #[{ on := 38, ground := Ground.data }, { on := 37, ground := Ground.guard }], guard := some (37, true) }) (v := ?_) rfl (by kernel_rfl) (by kernel_rfl) (by kernel_rfl) (fun _ _ _ h => h) (Or.inl ⟨by rfl, ?_⟩) (by assumption) ?_
      rotate_left
      · (intro w hSw; (try dsimp only at hSw); go_simp) <;> with_reducible rfl
      try simp only [Act.put, List.setIfInBounds_toArray, List.set_cons_zero, List.set_cons_succ]
      refine wpAnyH_take (i := 41) (oi := { dst := some 84, op := Op.move (Operand.tmp 7), type := 9, pos := "laws.go:268", after := #[{ on := 37, ground := Ground.guard }], guard := some (37, true) }) (v := ?_) rfl (by kernel_rfl) (by kernel_rfl) (by kernel_rfl) (fun _ _ _ h => h) (Or.inl ⟨by rfl, ?_⟩) (by assumption) ?_
      rotate_left
      · (intro w hSw; (try dsimp only at hSw); go_simp) <;> with_reducible rfl
      try simp only [Act.put, List.setIfInBounds_toArray, List.set_cons_zero, List.set_cons_succ]
      refine wpAnyH_ready (rs := [40]) (by kernel_rfl) (by simp) ?_
      refine AllReadyH.cons (o := { dst := some 83, op := Op.call { callee := Callee.value (Operand.func 5), args := #[Operand.tmp 82], argTypes := #[26] }, type := 9, pos := "laws.go:268", after := #[{ on := 39, ground := Ground.data }, { on := 37, ground := Ground.chain }, { on := 37, ground := Ground.guard }], guard := some (37, true) }) rfl (fun K hK => ?_) AllReadyH.nil
      go_simp
      go_at_call 5
      refine (CatR.impl_cab _ c8 _ HS8.out HI8_4 HL_4).mono ?_
      rintro e q5 ⟨he, hq5⟩
      have HB_5 := HB_4.trans (hq5.mono HB_4.size)
      have HL_5 := HL_4.below hq5
      have HI5_5 := HI5_4.below hq5
      have HX5_5 := HX5_4.below hq5
      have HI8_5 := HI8_4.below hq5
      have HX8_5 := HX8_4.below hq5
      have HI9_5 := HI9_4.below hq5
      have HX9_5 := HX9_4.below hq5
      have HI11_5 := HI11_4.below hq5
      have HX11_5 := HX11_4.below hq5
      have HI13_5 := HI13_4.below hq5
      have HX13_5 := HX13_4.below hq5
      have I'_5 := I'_4.below hq5
      rw [HOK.out.1 rfl] at he
      subst he
      try go_wp2_with fail
      have hk5 := HS10.out _ HX5_5 HX8_5
      refine hK.out _ _ hk5 (fun _ => ?_)
      clear hK K
      try simp only [Act.put, List.setIfInBounds_toArray, List.set_cons_zero, List.set_cons_succ]
      refine wpAnyH_take (i := 42) (oi := { dst := some 85, op := Op.binOp BinOp.neq 9 (Operand.tmp 83) (Operand.tmp 84) 9, type := 4, pos := "laws.go:268", after := #[{ on := 40, ground := Ground.data }, { on := 41, ground := Ground.data }, { on := 37, ground := Ground.guard }], guard := some (37, true) }) (v := ?_) rfl (by kernel_rfl) (by kernel_rfl) (by kernel_rfl) (fun _ _ _ h => h) (Or.inl ⟨by rfl, ?_⟩) (by assumption) ?_
      rotate_left
      · (intro w hSw; (try dsimp only at hSw); go_simp) <;> with_reducible rfl
      try simp only [Act.put, List.setIfInBounds_toArray, List.set_cons_zero, List.set_cons_succ]
      refine wpAnyH_take (i := 43) (oi := { dst := some 86, op := Op.pick (Operand.tmp 80) (Operand.tmp 85) (Operand.const (Value.bool false)), type := 4, pos := "laws.go:268", after := #[{ on := 37, ground := Ground.data }, { on := 42, ground := Ground.data }, { on := 33, ground := Ground.guard }], guard := some (33, false) }) (v := ?_) rfl (by kernel_rfl) (by kernel_rfl) (by kernel_rfl) (fun _ _ _ h => h) (Or.inl ⟨by rfl, ?_⟩) (by assumption) ?_
      rotate_left
      · (intro w hSw; (try dsimp only at hSw); go_simp) <;> with_reducible rfl
      try simp only [Act.put, List.setIfInBounds_toArray, List.set_cons_zero, List.set_cons_succ]
      refine wpAnyH_take (i := 44) (oi := { dst := some 87, op := Op.pick (Operand.tmp 76) (Operand.const (Value.bool true)) (Operand.tmp 86), type := 4, pos := "laws.go:268", after := #[{ on := 33, ground := Ground.data }, { on := 43, ground := Ground.data }], guard := none }) (v := ?_) rfl (by kernel_rfl) (by kernel_rfl) (by kernel_rfl) (fun _ _ _ h => h) (Or.inl ⟨by rfl, ?_⟩) (by assumption) ?_
      rotate_left
      · (intro w hSw; (try dsimp only at hSw); go_simp) <;> with_reducible rfl
      try simp only [Act.put, List.setIfInBounds_toArray, List.set_cons_zero, List.set_cons_succ]
      refine wpAnyH_done (by kernel_rfl) ?_ _
      clear HB_0 HB_1 HB_2 HB_3 HB_4 HL_0 HL_1 HL_2 HL_3 HL_4 HI5_0 HI5_1 HI5_2 HI5_3 HI5_4 HX5_0 HX5_1 HX5_2 HX5_3 HX5_4 HI8_0 HI8_1 HI8_2 HI8_3 HI8_4 HX8_0 HX8_1 HX8_2 HX8_3 HX8_4 HI9_0 HI9_1 HI9_2 HI9_3 HI9_4 HX9_0 HX9_1 HX9_2 HX9_3 HX9_4 HI11_0 HI11_1 HI11_2 HI11_3 HI11_4 HX11_0 HX11_1 HX11_2 HX11_3 HX11_4 HI13_0 HI13_1 HI13_2 HI13_3 HI13_4 HX13_0 HX13_1 HX13_2 HX13_3 HX13_4
      have hbz := (Below.refl q5.heap.size q5).drew
      have HB_z := HB_5.trans (hbz.mono HB_5.size)
      have HL_z := HL_5.below hbz
      have HI5_z := HI5_5.below hbz
      have HX5_z := HX5_5.below hbz
      have HI8_z := HI8_5.below hbz
      have HX8_z := HX8_5.below hbz
      have HI9_z := HI9_5.below hbz
      have HX9_z := HX9_5.below hbz
      have HI11_z := HI11_5.below hbz
      have HX11_z := HX11_5.below hbz
      have HI13_z := HI13_5.below hbz
      have HX13_z := HX13_5.below hbz
      clear hbz
      go_wp2_with fail
      refine wp_region_held_drew (S := (fun (W : World) => b5 < W.heap.size ∧ W.cell? ⟨b5, 0, none⟩ = some (.slice ma5 nm5 mc5) ∧ W.cell? ⟨b5, 1, none⟩ = some (.slice ca5 nc5 cc5) ∧ b9 < W.heap.size ∧ W.cell? ⟨b9, 0, none⟩ = some (.slice ma9 nm9 mc9) ∧ W.cell? ⟨b9, 1, none⟩ = some (.slice ca9 nc9 cc9) ∧ b11 < W.heap.size ∧ W.cell? ⟨b11, 0, none⟩ = some (.slice ma11 nm11 mc11) ∧ W.cell? ⟨b11, 1, none⟩ = some (.slice ca11 nc11 cc11) ∧ b13 < W.heap.size ∧ W.cell? ⟨b13, 0, none⟩ = some (.string m.n) ∧ W.cell? ⟨b13, 1, none⟩ = some (.int .i64 m.g) ∧ W.cell? ⟨b13, 2, none⟩ = some (.bool m.wh) ∧ W.cell? ⟨b13, 3, none⟩ = some (.int .i64 m.f) ∧ W.cell? ⟨b13, 4, none⟩ = some (.int .i64 m.l) ∧ W.cell? ⟨b13, 5, none⟩ = some (.slice ta tl tc))) (by kernel_rfl) (HS12.out _ HX5_z HX9_z HX11_z HX13_z) (fun hHeld => ?_)
      generalize q5.drew = kz at *
      refine wpAnyH_take (i := 0) (oi := { dst := some 88, op := Op.load 26 (Operand.tmp 9), type := 26, pos := "laws.go:271", after := #[], guard := none }) (v := ?_) rfl (by kernel_rfl) (by kernel_rfl) (by kernel_rfl) (fun _ _ _ h => h) (Or.inl ⟨by rfl, ?_⟩) (by assumption) ?_
      rotate_left
      · (intro w hSw; (try dsimp only at hSw); go_simp) <;> with_reducible rfl
      try simp only [Act.put, List.setIfInBounds_toArray, List.set_cons_zero, List.set_cons_succ]
      refine wpAnyH_take (i := 1) (oi := { dst := some 89, op := Op.move (Operand.tmp 10), type := 9, pos := "laws.go:271", after := #[], guard := none }) (v := ?_) rfl (by kernel_rfl) (by kernel_rfl) (by kernel_rfl) (fun _ _ _ h => h) (Or.inl ⟨by rfl, ?_⟩) (by assumption) ?_
      rotate_left
      · (intro w hSw; (try dsimp only at hSw); go_simp) <;> with_reducible rfl
      try simp only [Act.put, List.setIfInBounds_toArray, List.set_cons_zero, List.set_cons_succ]
      refine wpAnyH_take (i := 3) (oi := { dst := some 91, op := Op.load 26 (Operand.tmp 9), type := 26, pos := "laws.go:271", after := #[], guard := none }) (v := ?_) rfl (by kernel_rfl) (by kernel_rfl) (by kernel_rfl) (fun _ _ _ h => h) (Or.inl ⟨by rfl, ?_⟩) (by assumption) ?_
      rotate_left
      · (intro w hSw; (try dsimp only at hSw); go_simp) <;> with_reducible rfl
      try simp only [Act.put, List.setIfInBounds_toArray, List.set_cons_zero, List.set_cons_succ]
      refine wpAnyH_take (i := 4) (oi := { dst := some 92, op := Op.move (Operand.tmp 10), type := 9, pos := "laws.go:271", after := #[], guard := none }) (v := ?_) rfl (by kernel_rfl) (by kernel_rfl) (by kernel_rfl) (fun _ _ _ h => h) (Or.inl ⟨by rfl, ?_⟩) (by assumption) ?_
      rotate_left
      · (intro w hSw; (try dsimp only at hSw); go_simp) <;> with_reducible rfl
      try simp only [Act.put, List.setIfInBounds_toArray, List.set_cons_zero, List.set_cons_succ]
      refine wpAnyH_ready (rs := [2]) (by kernel_rfl) (by simp) ?_
      refine AllReadyH.cons (o := { dst := some 90, op := Op.call { callee := Callee.value (Operand.func 15), args := #[Operand.tmp 88, Operand.tmp 89], argTypes := #[26, 9] }, type := 37, pos := "laws.go:271", after := #[{ on := 0, ground := Ground.data }, { on := 1, ground := Ground.data }], guard := none }) rfl (fun K hK => ?_) AllReadyH.nil
      go_simp
      go_at_call 15
      refine (impl_mo _ c9 T9 _ (by have := HTz9.out; omega) HS9.out HI9_z HL_z).mono ?_
      rintro e q50 ⟨ta1, tc1, he, hT0, -, hq50⟩
      have HB_50 := HB_z.trans (hq50.mono HB_z.size)
      have HL_50 := HL_z.below hq50
      have HI5_50 := HI5_z.below hq50
      have HX5_50 := HX5_z.below hq50
      have HI8_50 := HI8_z.below hq50
      have HX8_50 := HX8_z.below hq50
      have HI9_50 := HI9_z.below hq50
      have HX9_50 := HX9_z.below hq50
      have HI11_50 := HI11_z.below hq50
      have HX11_50 := HX11_z.below hq50
      have HI13_50 := HI13_z.below hq50
      have HX13_50 := HX13_z.below hq50
      rw [← HMO.out] at he hT0
      subst he
      have hT150 := hT0
      try go_wp2_with fail
      have hk50 := HS12.out _ HX5_50 HX9_50 HX11_50 HX13_50
      refine hK.out _ _ hk50 (fun _ => ?_)
      clear hK K
      try simp only [Act.put, List.setIfInBounds_toArray, List.set_cons_zero, List.set_cons_succ]
      refine wpAnyH_ready (rs := [5]) (by kernel_rfl) (by simp) ?_
      refine AllReadyH.cons (o := { dst := some 93, op := Op.call { callee := Callee.value (Operand.func 16), args := #[Operand.tmp 91, Operand.tmp 92], argTypes := #[26, 9] }, type := 37, pos := "laws.go:271", after := #[{ on := 3, ground := Ground.data }, { on := 4, ground := Ground.data }, { on := 2, ground := Ground.chain }], guard := none }) rfl (fun K hK => ?_) AllReadyH.nil
      go_simp
      go_at_call 16
      refine (spec_mo _ c9 T9 _ (by have := HTz9.out; omega) HS9.out HI9_50).mono ?_
      rintro e q51 ⟨ta2, tc2, he, hT2, -, hq51⟩
      have HB_51 := HB_50.trans (hq51.mono HB_50.size)
      have HL_51 := HL_50.below hq51
      have HI5_51 := HI5_50.below hq51
      have HX5_51 := HX5_50.below hq51
      have HI8_51 := HI8_50.below hq51
      have HX8_51 := HX8_50.below hq51
      have HI9_51 := HI9_50.below hq51
      have HX9_51 := HX9_50.below hq51
      have HI11_51 := HI11_50.below hq51
      have HX11_51 := HX11_50.below hq51
      have HI13_51 := HI13_50.below hq51
      have HX13_51 := HX13_50.below hq51
      have T1_51 := hT150.below hq51
      rw [← HMO.out] at he hT2
      subst he
      try go_wp2_with fail
      have hk51 := HS12.out _ HX5_51 HX9_51 HX11_51 HX13_51
      refine hK.out _ _ hk51 (fun _ => ?_)
      clear hK K
      try simp only [Act.put, List.setIfInBounds_toArray, List.set_cons_zero, List.set_cons_succ]
      refine wpAnyH_ready (rs := [6]) (by kernel_rfl) (by simp) ?_
      refine AllReadyH.cons (o := { dst := some 94, op := Op.call { callee := Callee.value (Operand.func 14), args := #[Operand.tmp 90, Operand.tmp 93], argTypes := #[37, 37] }, type := 4, pos := "laws.go:271", after := #[{ on := 2, ground := Ground.data }, { on := 5, ground := Ground.data }, { on := 5, ground := Ground.chain }], guard := none }) rfl (fun K hK => ?_) AllReadyH.nil
      go_simp
      go_at_call 14
      refine (lwMe_any _ _ M _ HMS.out.2 ⟨ta1, tc1, rfl, T1_51⟩ ⟨ta2, tc2, rfl, hT2⟩).mono ?_
      rintro e q52 ⟨rfl, hq52⟩
      have HB_52 := HB_51.trans (hq52.mono HB_51.size)
      have HL_52 := HL_51.below hq52
      have HI5_52 := HI5_51.below hq52
      have HX5_52 := HX5_51.below hq52
      have HI8_52 := HI8_51.below hq52
      have HX8_52 := HX8_51.below hq52
      have HI9_52 := HI9_51.below hq52
      have HX9_52 := HX9_51.below hq52
      have HI11_52 := HI11_51.below hq52
      have HX11_52 := HX11_51.below hq52
      have HI13_52 := HI13_51.below hq52
      have HX13_52 := HX13_51.below hq52
      have T1_52 := T1_51.below hq52
      try go_wp2_with fail
      have hk52 := HS12.out _ HX5_52 HX9_52 HX11_52 HX13_52
      refine hK.out _ _ hk52 (fun _ => ?_)
      clear hK K
      try simp only [Act.put, List.setIfInBounds_toArray, List.set_cons_zero, List.set_cons_succ]
      refine wpAnyH_take (i := 7) (oi := { dst := some 95, op := Op.unOp UnOp.not 4 (Operand.tmp 94), type := 4, pos := "laws.go:271", after := #[{ on := 6, ground := Ground.data }], guard := none }) (v := ?_) rfl (by kernel_rfl) (by kernel_rfl) (by kernel_rfl) (fun _ _ _ h => h) (Or.inl ⟨by rfl, ?_⟩) (by assumption) ?_
      rotate_left
      · (intro w hSw; (try dsimp only at hSw); go_simp) <;> with_reducible rfl
      try simp only [Act.put, List.setIfInBounds_toArray, List.set_cons_zero, List.set_cons_succ]
      refine wpAnyH_take (i := 8) (oi := { dst := some 96, op := Op.move (Operand.tmp 95), type := 4, pos := "laws.go:271", after := #[{ on := 7, ground := Ground.data }, { on := 6, ground := Ground.chain }], guard := none }) (v := ?_) rfl (by kernel_rfl) (by kernel_rfl) (by kernel_rfl) (fun _ _ _ h => h) (Or.inl ⟨by rfl, ?_⟩) (by assumption) ?_
      rotate_left
      · (intro w hSw; (try dsimp only at hSw); go_simp) <;> with_reducible rfl
      try simp only [Act.put, List.setIfInBounds_toArray, List.set_cons_zero, List.set_cons_succ]
      refine wpAnyH_take (i := 9) (oi := { dst := some 97, op := Op.load 26 (Operand.tmp 11), type := 26, pos := "laws.go:271", after := #[{ on := 8, ground := Ground.guard }], guard := some (8, false) }) (v := ?_) rfl (by kernel_rfl) (by kernel_rfl) (by kernel_rfl) (fun _ _ _ h => h) (Or.inl ⟨by rfl, ?_⟩) (by assumption) ?_
      rotate_left
      · (intro w hSw; (try dsimp only at hSw); go_simp) <;> with_reducible rfl
      try simp only [Act.put, List.setIfInBounds_toArray, List.set_cons_zero, List.set_cons_succ]
      refine wpAnyH_take (i := 10) (oi := { dst := some 98, op := Op.move (Operand.tmp 12), type := 9, pos := "laws.go:271", after := #[{ on := 8, ground := Ground.guard }], guard := some (8, false) }) (v := ?_) rfl (by kernel_rfl) (by kernel_rfl) (by kernel_rfl) (fun _ _ _ h => h) (Or.inl ⟨by rfl, ?_⟩) (by assumption) ?_
      rotate_left
      · (intro w hSw; (try dsimp only at hSw); go_simp) <;> with_reducible rfl
      try simp only [Act.put, List.setIfInBounds_toArray, List.set_cons_zero, List.set_cons_succ]
      refine wpAnyH_take (i := 12) (oi := { dst := some 100, op := Op.load 26 (Operand.tmp 11), type := 26, pos := "laws.go:271", after := #[{ on := 8, ground := Ground.guard }], guard := some (8, false) }) (v := ?_) rfl (by kernel_rfl) (by kernel_rfl) (by kernel_rfl) (fun _ _ _ h => h) (Or.inl ⟨by rfl, ?_⟩) (by assumption) ?_
      rotate_left
      · (intro w hSw; (try dsimp only at hSw); go_simp) <;> with_reducible rfl
      try simp only [Act.put, List.setIfInBounds_toArray, List.set_cons_zero, List.set_cons_succ]
      refine wpAnyH_take (i := 13) (oi := { dst := some 101, op := Op.move (Operand.tmp 12), type := 9, pos := "laws.go:271", after := #[{ on := 8, ground := Ground.guard }], guard := some (8, false) }) (v := ?_) rfl (by kernel_rfl) (by kernel_rfl) (by kernel_rfl) (fun _ _ _ h => h) (Or.inl ⟨by rfl, ?_⟩) (by assumption) ?_
      rotate_left
      · (intro w hSw; (try dsimp only at hSw); go_simp) <;> with_reducible rfl
      try simp only [Act.put, List.setIfInBounds_toArray, List.set_cons_zero, List.set_cons_succ]
      refine wpAnyH_ready (rs := [11]) (by kernel_rfl) (by simp) ?_
      refine AllReadyH.cons (o := { dst := some 99, op := Op.call { callee := Callee.value (Operand.func 17), args := #[Operand.tmp 97, Operand.tmp 98], argTypes := #[26, 9] }, type := 2, pos := "laws.go:271", after := #[{ on := 9, ground := Ground.data }, { on := 10, ground := Ground.data }, { on := 8, ground := Ground.chain }, { on := 8, ground := Ground.guard }], guard := some (8, false) }) rfl (fun K hK => ?_) AllReadyH.nil
      go_simp
      go_at_call 17
      refine (impl_cr _ c11 T11 _ HS11.out HI11_52 HL_52).mono ?_
      rintro e q53 ⟨rfl, hq53⟩
      have HB_53 := HB_52.trans (hq53.mono HB_52.size)
      have HL_53 := HL_52.below hq53
      have HI5_53 := HI5_52.below hq53
      have HX5_53 := HX5_52.below hq53
      have HI8_53 := HI8_52.below hq53
      have HX8_53 := HX8_52.below hq53
      have HI9_53 := HI9_52.below hq53
      have HX9_53 := HX9_52.below hq53
      have HI11_53 := HI11_52.below hq53
      have HX11_53 := HX11_52.below hq53
      have HI13_53 := HI13_52.below hq53
      have HX13_53 := HX13_52.below hq53
      have T1_53 := T1_52.below hq53
      try go_wp2_with fail
      have hk53 := HS12.out _ HX5_53 HX9_53 HX11_53 HX13_53
      refine hK.out _ _ hk53 (fun _ => ?_)
      clear hK K
      try simp only [Act.put, List.setIfInBounds_toArray, List.set_cons_zero, List.set_cons_succ]
      refine wpAnyH_ready (rs := [14]) (by kernel_rfl) (by simp) ?_
      refine AllReadyH.cons (o := { dst := some 102, op := Op.call { callee := Callee.value (Operand.func 18), args := #[Operand.tmp 100, Operand.tmp 101], argTypes := #[26, 9] }, type := 2, pos := "laws.go:271", after := #[{ on := 12, ground := Ground.data }, { on := 13, ground := Ground.data }, { on := 11, ground := Ground.chain }, { on := 8, ground := Ground.guard }], guard := some (8, false) }) rfl (fun K hK => ?_) AllReadyH.nil
      go_simp
      go_at_call 18
      refine (spec_cr _ c11 T11 _ (by have := HTz11.out; omega) HS11.out HI11_53).mono ?_
      rintro e q54 ⟨rfl, hq54⟩
      have HB_54 := HB_53.trans (hq54.mono HB_53.size)
      have HL_54 := HL_53.below hq54
      have HI5_54 := HI5_53.below hq54
      have HX5_54 := HX5_53.below hq54
      have HI8_54 := HI8_53.below hq54
      have HX8_54 := HX8_53.below hq54
      have HI9_54 := HI9_53.below hq54
      have HX9_54 := HX9_53.below hq54
      have HI11_54 := HI11_53.below hq54
      have HX11_54 := HX11_53.below hq54
      have HI13_54 := HI13_53.below hq54
      have HX13_54 := HX13_53.below hq54
      have T1_54 := T1_53.below hq54
      try go_wp2_with fail
      have hk54 := HS12.out _ HX5_54 HX9_54 HX11_54 HX13_54
      refine hK.out _ _ hk54 (fun _ => ?_)
      clear hK K
      try simp only [Act.put, List.setIfInBounds_toArray, List.set_cons_zero, List.set_cons_succ]
      refine wpAnyH_take (i := 15) (oi := { dst := some 103, op := Op.binOp BinOp.neq 2 (Operand.tmp 99) (Operand.tmp 102) 2, type := 4, pos := "laws.go:271", after := #[{ on := 11, ground := Ground.data }, { on := 14, ground := Ground.data }, { on := 8, ground := Ground.guard }], guard := some (8, false) }) (v := ?_) rfl (by kernel_rfl) (by kernel_rfl) (by kernel_rfl) (fun _ _ _ h => h) (Or.inl ⟨by rfl, ?_⟩) (by assumption) ?_
      rotate_left
      · (intro w hSw; (try dsimp only at hSw); go_simp) <;> with_reducible rfl
      try simp only [Act.put, List.setIfInBounds_toArray, List.set_cons_zero, List.set_cons_succ]
      refine wpAnyH_take (i := 16) (oi := { dst := some 104, op := Op.pick (Operand.tmp 96) (Operand.const (Value.bool true)) (Operand.tmp 103), type := 4, pos := "laws.go:271", after := #[{ on := 8, ground := Ground.data }, { on := 15, ground := Ground.data }], guard := none }) (v := ?_) rfl (by kernel_rfl) (by kernel_rfl) (by kernel_rfl) (fun _ _ _ h => h) (Or.inl ⟨by rfl, ?_⟩) (by assumption) ?_
      rotate_left
      · (intro w hSw; (try dsimp only at hSw); go_simp) <;> with_reducible rfl
      try simp only [Act.put, List.setIfInBounds_toArray, List.set_cons_zero, List.set_cons_succ]
      refine wpAnyH_take (i := 17) (oi := { dst := some 105, op := Op.move (Operand.tmp 104), type := 4, pos := "laws.go:271", after := #[{ on := 16, ground := Ground.data }, { on := 14, ground := Ground.chain }], guard := none }) (v := ?_) rfl (by kernel_rfl) (by kernel_rfl) (by kernel_rfl) (fun _ _ _ h => h) (Or.inl ⟨by rfl, ?_⟩) (by assumption) ?_
      rotate_left
      · (intro w hSw; (try dsimp only at hSw); go_simp) <;> with_reducible rfl
      try simp only [Act.put, List.setIfInBounds_toArray, List.set_cons_zero, List.set_cons_succ]
      refine wpAnyH_take (i := 18) (oi := { dst := some 106, op := Op.load 37 (Operand.tmp 13), type := 37, pos := "laws.go:271", after := #[{ on := 17, ground := Ground.guard }], guard := some (17, false) }) (v := ?_) rfl (by kernel_rfl) (by kernel_rfl) (by kernel_rfl) (fun _ _ _ h => h) (Or.inl ⟨by rfl, ?_⟩) (by assumption) ?_
      rotate_left
      · (intro w hSw; (try dsimp only at hSw); go_simp) <;> with_reducible rfl
      try simp only [Act.put, List.setIfInBounds_toArray, List.set_cons_zero, List.set_cons_succ]
      refine wpAnyH_take (i := 20) (oi := { dst := some 108, op := Op.load 37 (Operand.tmp 13), type := 37, pos := "laws.go:271", after := #[{ on := 17, ground := Ground.guard }], guard := some (17, false) }) (v := ?_) rfl (by kernel_rfl) (by kernel_rfl) (by kernel_rfl) (fun _ _ _ h => h) (Or.inl ⟨by rfl, ?_⟩) (by assumption) ?_
      rotate_left
      · (intro w hSw; (try dsimp only at hSw); go_simp) <;> with_reducible rfl
      try simp only [Act.put, List.setIfInBounds_toArray, List.set_cons_zero, List.set_cons_succ]
      refine wpAnyH_ready (rs := [19]) (by kernel_rfl) (by simp) ?_
      refine AllReadyH.cons (o := { dst := some 107, op := Op.call { callee := Callee.value (Operand.func 19), args := #[Operand.tmp 106], argTypes := #[37] }, type := 4, pos := "laws.go:271", after := #[{ on := 18, ground := Ground.data }, { on := 17, ground := Ground.chain }, { on := 17, ground := Ground.guard }], guard := some (17, false) }) rfl (fun K hK => ?_) AllReadyH.nil
      go_simp
      go_at_call 19
      refine (impl_meter _ m _ (by have := HM1.out; omega) (by have := HM2.out; have := HTL.out; omega) HI13_54).mono ?_
      rintro e q55 ⟨rfl, hq55⟩
      have HB_55 := HB_54.trans (hq55.mono HB_54.size)
      have HL_55 := HL_54.below hq55
      have HI5_55 := HI5_54.below hq55
      have HX5_55 := HX5_54.below hq55
      have HI8_55 := HI8_54.below hq55
      have HX8_55 := HX8_54.below hq55
      have HI9_55 := HI9_54.below hq55
      have HX9_55 := HX9_54.below hq55
      have HI11_55 := HI11_54.below hq55
      have HX11_55 := HX11_54.below hq55
      have HI13_55 := HI13_54.below hq55
      have HX13_55 := HX13_54.below hq55
      have T1_55 := T1_54.below hq55
      try go_wp2_with fail
      have hk55 := HS12.out _ HX5_55 HX9_55 HX11_55 HX13_55
      refine hK.out _ _ hk55 (fun _ => ?_)
      clear hK K
      try simp only [Act.put, List.setIfInBounds_toArray, List.set_cons_zero, List.set_cons_succ]
      refine wpAnyH_ready (rs := [21]) (by kernel_rfl) (by simp) ?_
      refine AllReadyH.cons (o := { dst := some 109, op := Op.call { callee := Callee.value (Operand.func 20), args := #[Operand.tmp 108], argTypes := #[37] }, type := 4, pos := "laws.go:271", after := #[{ on := 20, ground := Ground.data }, { on := 19, ground := Ground.chain }, { on := 17, ground := Ground.guard }], guard := some (17, false) }) rfl (fun K hK => ?_) AllReadyH.nil
      go_simp
      go_at_call 20
      refine (spec_meter _ m _ (by have := HM1.out; omega) (by have := HM2.out; have := HTL.out; omega) HI13_55).mono ?_
      rintro e q56 ⟨rfl, hq56⟩
      have HB_56 := HB_55.trans (hq56.mono HB_55.size)
      have HL_56 := HL_55.below hq56
      have HI5_56 := HI5_55.below hq56
      have HX5_56 := HX5_55.below hq56
      have HI8_56 := HI8_55.below hq56
      have HX8_56 := HX8_55.below hq56
      have HI9_56 := HI9_55.below hq56
      have HX9_56 := HX9_55.below hq56
      have HI11_56 := HI11_55.below hq56
      have HX11_56 := HX11_55.below hq56
      have HI13_56 := HI13_55.below hq56
      have HX13_56 := HX13_55.below hq56
      have T1_56 := T1_55.below hq56
      try go_wp2_with fail
      have hk56 := HS12.out _ HX5_56 HX9_56 HX11_56 HX13_56
      refine hK.out _ _ hk56 (fun _ => ?_)
      clear hK K
      try simp only [Act.put, List.setIfInBounds_toArray, List.set_cons_zero, List.set_cons_succ]
      refine wpAnyH_take (i := 22) (oi := { dst := some 110, op := Op.binOp BinOp.neq 4 (Operand.tmp 107) (Operand.tmp 109) 4, type := 4, pos := "laws.go:271", after := #[{ on := 19, ground := Ground.data }, { on := 21, ground := Ground.data }, { on := 17, ground := Ground.guard }], guard := some (17, false) }) (v := ?_) rfl (by kernel_rfl) (by kernel_rfl) (by kernel_rfl) (fun _ _ _ h => h) (Or.inl ⟨by rfl, ?_⟩) (by assumption) ?_
      rotate_left
      · (intro w hSw; (try dsimp only at hSw); go_simp) <;> with_reducible rfl
      try simp only [Act.put, List.setIfInBounds_toArray, List.set_cons_zero, List.set_cons_succ]
      refine wpAnyH_take (i := 23) (oi := { dst := some 111, op := Op.pick (Operand.tmp 105) (Operand.const (Value.bool true)) (Operand.tmp 110), type := 4, pos := "laws.go:271", after := #[{ on := 17, ground := Ground.data }, { on := 22, ground := Ground.data }], guard := none }) (v := ?_) rfl (by kernel_rfl) (by kernel_rfl) (by kernel_rfl) (fun _ _ _ h => h) (Or.inl ⟨by rfl, ?_⟩) (by assumption) ?_
      rotate_left
      · (intro w hSw; (try dsimp only at hSw); go_simp) <;> with_reducible rfl
      try simp only [Act.put, List.setIfInBounds_toArray, List.set_cons_zero, List.set_cons_succ]
      refine wpAnyH_take (i := 24) (oi := { dst := some 112, op := Op.move (Operand.tmp 111), type := 4, pos := "laws.go:271", after := #[{ on := 23, ground := Ground.data }, { on := 21, ground := Ground.chain }], guard := none }) (v := ?_) rfl (by kernel_rfl) (by kernel_rfl) (by kernel_rfl) (fun _ _ _ h => h) (Or.inl ⟨by rfl, ?_⟩) (by assumption) ?_
      rotate_left
      · (intro w hSw; (try dsimp only at hSw); go_simp) <;> with_reducible rfl
      try simp only [Act.put, List.setIfInBounds_toArray, List.set_cons_zero, List.set_cons_succ]
      refine wpAnyH_take (i := 25) (oi := { dst := some 113, op := Op.load 26 (Operand.tmp 5), type := 26, pos := "laws.go:271", after := #[{ on := 24, ground := Ground.guard }], guard := some (24, false) }) (v := ?_) rfl (by kernel_rfl) (by kernel_rfl) (by kernel_rfl) (fun _ _ _ h => h) (Or.inl ⟨by rfl, ?_⟩) (by assumption) ?_
      rotate_left
      · (intro w hSw; (try dsimp only at hSw); go_simp) <;> with_reducible rfl
      try simp only [Act.put, List.setIfInBounds_toArray, List.set_cons_zero, List.set_cons_succ]
      refine wpAnyH_take (i := 27) (oi := { dst := some 115, op := Op.load 26 (Operand.tmp 5), type := 26, pos := "laws.go:271", after := #[{ on := 24, ground := Ground.guard }], guard := some (24, false) }) (v := ?_) rfl (by kernel_rfl) (by kernel_rfl) (by kernel_rfl) (fun _ _ _ h => h) (Or.inl ⟨by rfl, ?_⟩) (by assumption) ?_
      rotate_left
      · (intro w hSw; (try dsimp only at hSw); go_simp) <;> with_reducible rfl
      try simp only [Act.put, List.setIfInBounds_toArray, List.set_cons_zero, List.set_cons_succ]
      refine wpAnyH_ready (rs := [26]) (by kernel_rfl) (by simp) ?_
      refine AllReadyH.cons (o := { dst := some 114, op := Op.call { callee := Callee.value (Operand.func 21), args := #[Operand.tmp 113], argTypes := #[26] }, type := 4, pos := "laws.go:271", after := #[{ on := 25, ground := Ground.data }, { on := 24, ground := Ground.chain }, { on := 24, ground := Ground.guard }], guard := some (24, false) }) rfl (fun K hK => ?_) AllReadyH.nil
      go_simp
      go_at_call 21
      refine (impl_ca _ c5 _ HS5.out HI5_56 HL_56).mono ?_
      rintro e q57 ⟨rfl, hq57⟩
      have HB_57 := HB_56.trans (hq57.mono HB_56.size)
      have HL_57 := HL_56.below hq57
      have HI5_57 := HI5_56.below hq57
      have HX5_57 := HX5_56.below hq57
      have HI8_57 := HI8_56.below hq57
      have HX8_57 := HX8_56.below hq57
      have HI9_57 := HI9_56.below hq57
      have HX9_57 := HX9_56.below hq57
      have HI11_57 := HI11_56.below hq57
      have HX11_57 := HX11_56.below hq57
      have HI13_57 := HI13_56.below hq57
      have HX13_57 := HX13_56.below hq57
      have T1_57 := T1_56.below hq57
      try go_wp2_with fail
      have hk57 := HS12.out _ HX5_57 HX9_57 HX11_57 HX13_57
      refine hK.out _ _ hk57 (fun _ => ?_)
      clear hK K
      try simp only [Act.put, List.setIfInBounds_toArray, List.set_cons_zero, List.set_cons_succ]
      refine wpAnyH_ready (rs := [28]) (by kernel_rfl) (by simp) ?_
      refine AllReadyH.cons (o := { dst := some 116, op := Op.call { callee := Callee.value (Operand.func 22), args := #[Operand.tmp 115], argTypes := #[26] }, type := 4, pos := "laws.go:271", after := #[{ on := 27, ground := Ground.data }, { on := 26, ground := Ground.chain }, { on := 24, ground := Ground.guard }], guard := some (24, false) }) rfl (fun K hK => ?_) AllReadyH.nil
      go_simp
      go_at_call 22
      refine (spec_ca _ c5 _ HS5.out HI5_57).mono ?_
      rintro e q58 ⟨rfl, hq58⟩
      have HB_58 := HB_57.trans (hq58.mono HB_57.size)
      have HL_58 := HL_57.below hq58
      have HI5_58 := HI5_57.below hq58
      have HX5_58 := HX5_57.below hq58
      have HI8_58 := HI8_57.below hq58
      have HX8_58 := HX8_57.below hq58
      have HI9_58 := HI9_57.below hq58
      have HX9_58 := HX9_57.below hq58
      have HI11_58 := HI11_57.below hq58
      have HX11_58 := HX11_57.below hq58
      have HI13_58 := HI13_57.below hq58
      have HX13_58 := HX13_57.below hq58
      have T1_58 := T1_57.below hq58
      try go_wp2_with fail
      have hk58 := HS12.out _ HX5_58 HX9_58 HX11_58 HX13_58
      refine hK.out _ _ hk58 (fun _ => ?_)
      clear hK K
      try simp only [Act.put, List.setIfInBounds_toArray, List.set_cons_zero, List.set_cons_succ]
      refine wpAnyH_take (i := 29) (oi := { dst := some 117, op := Op.binOp BinOp.neq 4 (Operand.tmp 114) (Operand.tmp 116) 4, type := 4, pos := "laws.go:271", after := #[{ on := 26, ground := Ground.data }, { on := 28, ground := Ground.data }, { on := 24, ground := Ground.guard }], guard := some (24, false) }) (v := ?_) rfl (by kernel_rfl) (by kernel_rfl) (by kernel_rfl) (fun _ _ _ h => h) (Or.inl ⟨by rfl, ?_⟩) (by assumption) ?_
      rotate_left
      · (intro w hSw; (try dsimp only at hSw); go_simp) <;> with_reducible rfl
      try simp only [Act.put, List.setIfInBounds_toArray, List.set_cons_zero, List.set_cons_succ]
      refine wpAnyH_take (i := 30) (oi := { dst := some 118, op := Op.pick (Operand.tmp 112) (Operand.const (Value.bool true)) (Operand.tmp 117), type := 4, pos := "laws.go:271", after := #[{ on := 24, ground := Ground.data }, { on := 29, ground := Ground.data }], guard := none }) (v := ?_) rfl (by kernel_rfl) (by kernel_rfl) (by kernel_rfl) (fun _ _ _ h => h) (Or.inl ⟨by rfl, ?_⟩) (by assumption) ?_
      rotate_left
      · (intro w hSw; (try dsimp only at hSw); go_simp) <;> with_reducible rfl
      try simp only [Act.put, List.setIfInBounds_toArray, List.set_cons_zero, List.set_cons_succ]
      refine wpAnyH_done (by kernel_rfl) ?_ _
      have ZHB := hid_intro HB_58
      have ZHL := hid_intro HL_58
      have ZHI5 := hid_intro HI5_58
      have ZHX5 := hid_intro HX5_58
      clear HB_50 HB_51 HB_52 HB_53 HB_54 HB_55 HB_56 HB_57 HB_58 HL_50 HL_51 HL_52 HL_53 HL_54 HL_55 HL_56 HL_57 HL_58 HI5_50 HI5_51 HI5_52 HI5_53 HI5_54 HI5_55 HI5_56 HI5_57 HI5_58 HX5_50 HX5_51 HX5_52 HX5_53 HX5_54 HX5_55 HX5_56 HX5_57 HX5_58 HI8_50 HI8_51 HI8_52 HI8_53 HI8_54 HI8_55 HI8_56 HI8_57 HI8_58 HX8_50 HX8_51 HX8_52 HX8_53 HX8_54 HX8_55 HX8_56 HX8_57 HX8_58 HI9_50 HI9_51 HI9_52 HI9_53 HI9_54 HI9_55 HI9_56 HI9_57 HI9_58 HX9_50 HX9_51 HX9_52 HX9_53 HX9_54 HX9_55 HX9_56 HX9_57 HX9_58 HI11_50 HI11_51 HI11_52 HI11_53 HI11_54 HI11_55 HI11_56 HI11_57 HI11_58 HX11_50 HX11_51 HX11_52 HX11_53 HX11_54 HX11_55 HX11_56 HX11_57 HX11_58 HI13_50 HI13_51 HI13_52 HI13_53 HI13_54 HI13_55 HI13_56 HI13_57 HI13_58 HX13_50 HX13_51 HX13_52 HX13_53 HX13_54 HX13_55 HX13_56 HX13_57 HX13_58
      have x5_0 : q58.cell? ⟨b5, 0, none⟩ = some (.slice ma5 nm5 mc5) := ZHX5.out.2 0 (by simp)
      have xl5 := ZHX5.out.1
      go_wp2_with fail
      clear x5_0 xl5
      go_loopw [14] (fun z wr => ∃ k : Nat, k ≤ nm5 ∧ z = .int .i64 k ∧ Hid (Below w.heap.size w wr) ∧ Hid (Laid wr) ∧ Hid (IsCa (.agg #[.slice ma5 nm5 mc5, .slice ca5 nc5 cc5]) c5 wr) ∧ Hid (Blk b5 [.slice ma5 nm5 mc5, .slice ca5 nc5 cc5] wr)) (fun z _ => nm5 - (intOf z).toNat)
      case atStart => exact ⟨0, by omega, rfl, ZHB, ZHL, ZHI5, ZHX5⟩
      case round =>
        obtain ⟨k, hk, rfl, HB, HL, HI5, HX5⟩ := hrel
        clear ZHB ZHL ZHI5 ZHX5
        have x5_0 : wr.cell? ⟨b5, 0, none⟩ = some (.slice ma5 nm5 mc5) := HX5.out.2 0 (by simp)
        have x5_1 : wr.cell? ⟨b5, 1, none⟩ = some (.slice ca5 nc5 cc5) := HX5.out.2 1 (by simp)
        have xl5 := HX5.out.1
        have hnm5 : nm5 ≤ 1048576 := by rw [← HNM5.out]; exact HS5.out.ml
        by_cases hlt : k < nm5
        · have hlt2 : (k : Int) < (nm5 : Int) := by omega
          go_wp2_with fail
          refine (spec_ca _ c5 _ HS5.out HI5.out).mono ?_
          rintro e w1 ⟨rfl, hb⟩
          replace HB := hid_intro (HB.out.trans (hb.mono HB.out.size))
          replace HL := hid_intro (HL.out.below hb)
          replace HI5 := hid_intro (HI5.out.below hb)
          replace HX5 := hid_intro (HX5.out.below hb)
          clear hb x5_0 x5_1 xl5
          rw [HCB.out]
          have x5_0 : w1.cell? ⟨b5, 0, none⟩ = some (.slice ma5 nm5 mc5) := HX5.out.2 0 (by simp)
          have x5_1 : w1.cell? ⟨b5, 1, none⟩ = some (.slice ca5 nc5 cc5) := HX5.out.2 1 (by simp)
          have xl5 := HX5.out.1
          go_wp2_with fail
          go_ret
          exact ⟨rfl, HB.out⟩
        · have hlt2 : ¬ (k : Int) < (nm5 : Int) := by omega
          go_wp2_with fail
          go_ret
          exact ⟨rfl, HB.out⟩
    · have hcdb : (cd8 == 0) = false := by simpa using hcd
      have hb0 := (Below.refl w12.heap.size w12).drew
      have HB_0 := HB.out.trans (hb0.mono HB.out.size)
      have HL_0 := HL.out.below hb0
      have HI5_0 := HI5.out.below hb0
      have HX5_0 := HX5.out.below hb0
      have HI8_0 := HI8.out.below hb0
      have HX8_0 := HX8.out.below hb0
      have HI9_0 := HI9.out.below hb0
      have HX9_0 := HX9.out.below hb0
      have HI11_0 := HI11.out.below hb0
      have HX11_0 := HX11.out.below hb0
      have HI13_0 := HI13.out.below hb0
      have HX13_0 := HX13.out.below hb0
      clear hb0 HB HL HI5 HX5 HI8 HX8 HI9 HX9 HI11 HX11 HI13 HX13
      refine wp_region_held_drew (S := (fun (W : World) => b5 < W.heap.size ∧ W.cell? ⟨b5, 0, none⟩ = some (.slice ma5 nm5 mc5) ∧ W.cell? ⟨b5, 1, none⟩ = some (.slice ca5 nc5 cc5) ∧ b8 < W.heap.size ∧ W.cell? ⟨b8, 0, none⟩ = some (.slice ma8 nm8 mc8) ∧ W.cell? ⟨b8, 1, none⟩ = some (.slice ca8 nc8 cc8) ∧ W.cell? ⟨b8, 2, none⟩ = some (.int .i64 cd8))) (by kernel_rfl) (HS10.out _ HX5_0 HX8_0) (fun hHeld => ?_)
      generalize w12.drew = kd at *
      refine wpAnyH_take (i := 0) (oi := { dst := some 43, op := Op.move (Operand.tmp 6), type := 9, pos := "laws.go:268", after := #[], guard := none }) (v := ?_) rfl (by kernel_rfl) (by kernel_rfl) (by kernel_rfl) (fun _ _ _ h => h) (Or.inl ⟨by rfl, ?_⟩) (by assumption) ?_
      rotate_left
      · (intro w hSw; (try dsimp only at hSw); go_simp) <;> with_reducible rfl
      try simp only [Act.put, List.setIfInBounds_toArray, List.set_cons_zero, List.set_cons_succ]
      refine wpAnyH_take (i := 1) (oi := { dst := some 44, op := Op.load 26 (Operand.tmp 5), type := 26, pos := "laws.go:268", after := #[], guard := none }) (v := ?_) rfl (by kernel_rfl) (by kernel_rfl) (by kernel_rfl) (fun _ _ _ h => h) (Or.inl ⟨by rfl, ?_⟩) (by assumption) ?_
      rotate_left
      · (intro w hSw; (try dsimp only at hSw); go_simp) <;> with_reducible rfl
      try simp only [Act.put, List.setIfInBounds_toArray, List.set_cons_zero, List.set_cons_succ]
      refine wpAnyH_ready (rs := [2]) (by kernel_rfl) (by simp) ?_
      refine AllReadyH.cons (o := { dst := some 45, op := Op.call { callee := Callee.value (Operand.func 11), args := #[Operand.tmp 44], argTypes := #[26] }, type := 9, pos := "laws.go:268", after := #[{ on := 1, ground := Ground.data }], guard := none }) rfl (fun K hK => ?_) AllReadyH.nil
      go_simp
      go_at_call 11
      refine (CatR.spec_cab _ c5 _ HS5.out HI5_0).mono ?_
      rintro e q1 ⟨he, hq1⟩
      have HB_1 := HB_0.trans (hq1.mono HB_0.size)
      have HL_1 := HL_0.below hq1
      have HI5_1 := HI5_0.below hq1
      have HX5_1 := HX5_0.below hq1
      have HI8_1 := HI8_0.below hq1
      have HX8_1 := HX8_0.below hq1
      have HI9_1 := HI9_0.below hq1
      have HX9_1 := HX9_0.below hq1
      have HI11_1 := HI11_0.below hq1
      have HX11_1 := HX11_0.below hq1
      have HI13_1 := HI13_0.below hq1
      have HX13_1 := HX13_0.below hq1
      rw [← HT.out] at he
      subst he
      try go_wp2_with fail
      have hk1 := HS10.out _ HX5_1 HX8_1
      refine hK.out _ _ hk1 (fun _ => ?_)
      clear hK K
      try simp only [Act.put, List.setIfInBounds_toArray, List.set_cons_zero, List.set_cons_succ]
      refine wpAnyH_take (i := 3) (oi := { dst := some 46, op := Op.binOp BinOp.neq 9 (Operand.tmp 43) (Operand.tmp 45) 9, type := 4, pos := "laws.go:268", after := #[{ on := 0, ground := Ground.data }, { on := 2, ground := Ground.data }], guard := none }) (v := ?_) rfl (by kernel_rfl) (by kernel_rfl) (by kernel_rfl) (fun _ _ _ h => h) (Or.inl ⟨by rfl, ?_⟩) (by assumption) ?_
      rotate_left
      · (intro w hSw; (try dsimp only at hSw); go_simp) <;> with_reducible rfl
      try simp only [Act.put, List.setIfInBounds_toArray, List.set_cons_zero, List.set_cons_succ]
      refine wpAnyH_take (i := 4) (oi := { dst := some 47, op := Op.move (Operand.tmp 46), type := 4, pos := "laws.go:268", after := #[{ on := 3, ground := Ground.data }, { on := 2, ground := Ground.chain }], guard := none }) (v := ?_) rfl (by kernel_rfl) (by kernel_rfl) (by kernel_rfl) (fun _ _ _ h => h) (Or.inl ⟨by rfl, ?_⟩) (by assumption) ?_
      rotate_left
      · (intro w hSw; (try dsimp only at hSw); go_simp) <;> with_reducible rfl
      try simp only [Act.put, List.setIfInBounds_toArray, List.set_cons_zero, List.set_cons_succ]
      refine wpAnyH_take (i := 5) (oi := { dst := some 48, op := Op.move (Operand.tmp 6), type := 9, pos := "laws.go:268", after := #[{ on := 4, ground := Ground.guard }], guard := some (4, false) }) (v := ?_) rfl (by kernel_rfl) (by kernel_rfl) (by kernel_rfl) (fun _ _ _ h => h) (Or.inl ⟨by rfl, ?_⟩) (by assumption) ?_
      rotate_left
      · (intro w hSw; (try dsimp only at hSw); go_simp) <;> with_reducible rfl
      try simp only [Act.put, List.setIfInBounds_toArray, List.set_cons_zero, List.set_cons_succ]
      refine wpAnyH_take (i := 6) (oi := { dst := some 49, op := Op.binOp BinOp.neq 9 (Operand.tmp 48) (Operand.const (Value.string { data := #[] })) 9, type := 4, pos := "laws.go:268", after := #[{ on := 5, ground := Ground.data }, { on := 4, ground := Ground.guard }], guard := some (4, false) }) (v := ?_) rfl (by kernel_rfl) (by kernel_rfl) (by kernel_rfl) (fun _ _ _ h => h) (Or.inl ⟨by rfl, ?_⟩) (by assumption) ?_
      rotate_left
      · (intro w hSw; (try dsimp only at hSw); go_simp) <;> with_reducible rfl
      try simp only [Act.put, List.setIfInBounds_toArray, List.set_cons_zero, List.set_cons_succ]
      refine wpAnyH_take (i := 7) (oi := { dst := some 50, op := Op.move (Operand.tmp 49), type := 4, pos := "laws.go:268", after := #[{ on := 6, ground := Ground.data }, { on := 4, ground := Ground.chain }, { on := 4, ground := Ground.guard }], guard := some (4, false) }) (v := ?_) rfl (by kernel_rfl) (by kernel_rfl) (by kernel_rfl) (fun _ _ _ h => h) (Or.inl ⟨by rfl, ?_⟩) (by assumption) ?_
      rotate_left
      · (intro w hSw; (try dsimp only at hSw); go_simp) <;> with_reducible rfl
      try simp only [Act.put, List.setIfInBounds_toArray, List.set_cons_zero, List.set_cons_succ]
      refine wpAnyH_take (i := 8) (oi := { dst := some 51, op := Op.move (Operand.tmp 6), type := 9, pos := "laws.go:268", after := #[{ on := 7, ground := Ground.guard }], guard := some (7, true) }) (v := undef) rfl (by kernel_rfl) (by kernel_rfl) (by kernel_rfl) (fun _ _ _ h => h) (Or.inr ⟨by rfl, rfl⟩) (by assumption) ?_
      try simp only [Act.put, List.setIfInBounds_toArray, List.set_cons_zero, List.set_cons_succ]
      refine wpAnyH_take (i := 9) (oi := { dst := some 52, op := Op.call { callee := Callee.value (Operand.func 7), args := #[Operand.tmp 51], argTypes := #[9] }, type := 31, pos := "laws.go:268", after := #[{ on := 8, ground := Ground.data }, { on := 7, ground := Ground.chain }, { on := 7, ground := Ground.guard }], guard := some (7, true) }) (v := undef) rfl (by kernel_rfl) (by kernel_rfl) (by kernel_rfl) (fun _ _ _ h => h) (Or.inr ⟨by rfl, rfl⟩) (by assumption) ?_
      try simp only [Act.put, List.setIfInBounds_toArray, List.set_cons_zero, List.set_cons_succ]
      refine wpAnyH_take (i := 10) (oi := { dst := some 53, op := Op.field 31 (Operand.tmp 52) 0, type := 26, pos := "laws.go:268", after := #[{ on := 9, ground := Ground.data }, { on := 7, ground := Ground.guard }], guard := some (7, true) }) (v := undef) rfl (by kernel_rfl) (by kernel_rfl) (by kernel_rfl) (fun _ _ _ h => h) (Or.inr ⟨by rfl, rfl⟩) (by assumption) ?_
      try simp only [Act.put, List.setIfInBounds_toArray, List.set_cons_zero, List.set_cons_succ]
      refine wpAnyH_take (i := 11) (oi := { dst := some 54, op := Op.load 26 (Operand.tmp 5), type := 26, pos := "laws.go:268", after := #[{ on := 7, ground := Ground.guard }], guard := some (7, true) }) (v := undef) rfl (by kernel_rfl) (by kernel_rfl) (by kernel_rfl) (fun _ _ _ h => h) (Or.inr ⟨by rfl, rfl⟩) (by assumption) ?_
      try simp only [Act.put, List.setIfInBounds_toArray, List.set_cons_zero, List.set_cons_succ]
      refine wpAnyH_take (i := 12) (oi := { dst := some 55, op := Op.call { callee := Callee.value (Operand.func 12), args := #[Operand.tmp 53, Operand.tmp 54], argTypes := #[26, 26] }, type := 4, pos := "laws.go:268", after := #[{ on := 10, ground := Ground.data }, { on := 11, ground := Ground.data }, { on := 9, ground := Ground.chain }, { on := 7, ground := Ground.guard }], guard := some (7, true) }) (v := undef) rfl (by kernel_rfl) (by kernel_rfl) (by kernel_rfl) (fun _ _ _ h => h) (Or.inr ⟨by rfl, rfl⟩) (by assumption) ?_
      try simp only [Act.put, List.setIfInBounds_toArray, List.set_cons_zero, List.set_cons_succ]
      refine wpAnyH_take (i := 13) (oi := { dst := some 56, op := Op.unOp UnOp.not 4 (Operand.tmp 55), type := 4, pos := "laws.go:268", after := #[{ on := 12, ground := Ground.data }, { on := 7, ground := Ground.guard }], guard := some (7, true) }) (v := undef) rfl (by kernel_rfl) (by kernel_rfl) (by kernel_rfl) (fun _ _ _ h => h) (Or.inr ⟨by rfl, rfl⟩) (by assumption) ?_
      try simp only [Act.put, List.setIfInBounds_toArray, List.set_cons_zero, List.set_cons_succ]
      refine wpAnyH_take (i := 14) (oi := { dst := some 57, op := Op.pick (Operand.tmp 50) (Operand.tmp 56) (Operand.const (Value.bool false)), type := 4, pos := "laws.go:268", after := #[{ on := 7, ground := Ground.data }, { on := 13, ground := Ground.data }, { on := 4, ground := Ground.guard }], guard := some (4, false) }) (v := ?_) rfl (by kernel_rfl) (by kernel_rfl) (by kernel_rfl) (fun _ _ _ h => h) (Or.inl ⟨by rfl, ?_⟩) (by assumption) ?_
      rotate_left
      · (intro w hSw; (try dsimp only at hSw); go_simp) <;> with_reducible rfl
      try simp only [Act.put, List.setIfInBounds_toArray, List.set_cons_zero, List.set_cons_succ]
      refine wpAnyH_take (i := 15) (oi := { dst := some 58, op := Op.pick (Operand.tmp 47) (Operand.const (Value.bool true)) (Operand.tmp 57), type := 4, pos := "laws.go:268", after := #[{ on := 4, ground := Ground.data }, { on := 14, ground := Ground.data }], guard := none }) (v := ?_) rfl (by kernel_rfl) (by kernel_rfl) (by kernel_rfl) (fun _ _ _ h => h) (Or.inl ⟨by rfl, ?_⟩) (by assumption) ?_
      rotate_left
      · (intro w hSw; (try dsimp only at hSw); go_simp) <;> with_reducible rfl
      try simp only [Act.put, List.setIfInBounds_toArray, List.set_cons_zero, List.set_cons_succ]
      refine wpAnyH_take (i := 16) (oi := { dst := some 59, op := Op.move (Operand.tmp 58), type := 4, pos := "laws.go:268", after := #[{ on := 15, ground := Ground.data }, { on := 12, ground := Ground.chain }], guard := none }) (v := ?_) rfl (by kernel_rfl) (by kernel_rfl) (by kernel_rfl) (fun _ _ _ h => h) (Or.inl ⟨by rfl, ?_⟩) (by assumption) ?_
      rotate_left
      · (intro w hSw; (try dsimp only at hSw); go_simp) <;> with_reducible rfl
      try simp only [Act.put, List.setIfInBounds_toArray, List.set_cons_zero, List.set_cons_succ]
      refine wpAnyH_take (i := 17) (oi := { dst := some 60, op := Op.fieldAddr 31 (Operand.tmp 8) 1, type := 0, pos := "laws.go:268", after := #[{ on := 16, ground := Ground.guard }], guard := some (16, false) }) (v := ?_) rfl (by kernel_rfl) (by kernel_rfl) (by kernel_rfl) (fun _ _ _ h => h) (Or.inl ⟨by rfl, ?_⟩) (by assumption) ?_
      rotate_left
      · (intro w hSw; (try dsimp only at hSw); go_simp) <;> with_reducible rfl
      try simp only [Act.put, List.setIfInBounds_toArray, List.set_cons_zero, List.set_cons_succ]
      refine wpAnyH_take (i := 18) (oi := { dst := some 61, op := Op.load 2 (Operand.tmp 60), type := 2, pos := "laws.go:268", after := #[{ on := 17, ground := Ground.data }, { on := 16, ground := Ground.guard }], guard := some (16, false) }) (v := ?_) rfl (by kernel_rfl) (by kernel_rfl) (by kernel_rfl) (fun _ _ _ h => h) (Or.inl ⟨by rfl, ?_⟩) (by assumption) ?_
      rotate_left
      · (intro w hSw; (try dsimp only at hSw); go_simp) <;> with_reducible rfl
      try simp only [Act.put, List.setIfInBounds_toArray, List.set_cons_zero, List.set_cons_succ]
      refine wpAnyH_take (i := 19) (oi := { dst := some 62, op := Op.move (Operand.tmp 7), type := 9, pos := "laws.go:268", after := #[{ on := 16, ground := Ground.guard }], guard := some (16, false) }) (v := ?_) rfl (by kernel_rfl) (by kernel_rfl) (by kernel_rfl) (fun _ _ _ h => h) (Or.inl ⟨by rfl, ?_⟩) (by assumption) ?_
      rotate_left
      · (intro w hSw; (try dsimp only at hSw); go_simp) <;> with_reducible rfl
      try simp only [Act.put, List.setIfInBounds_toArray, List.set_cons_zero, List.set_cons_succ]
      refine wpAnyH_ready (rs := [20]) (by kernel_rfl) (by simp) ?_
      refine AllReadyH.cons (o := { dst := some 63, op := Op.call { callee := Callee.value (Operand.func 13), args := #[Operand.tmp 62], argTypes := #[9] }, type := 31, pos := "laws.go:268", after := #[{ on := 19, ground := Ground.data }, { on := 16, ground := Ground.chain }, { on := 16, ground := Ground.guard }], guard := some (16, false) }) rfl (fun K hK => ?_) AllReadyH.nil
      go_simp
      go_at_call 13
      refine (HRS.out _).mono ?_
      rintro e q2 ⟨v, rfl, hv, hq2⟩
      have HB_2 := HB_1.trans (hq2.mono HB_1.size)
      have HL_2 := HL_1.below hq2
      have HI5_2 := HI5_1.below hq2
      have HX5_2 := HX5_1.below hq2
      have HI8_2 := HI8_1.below hq2
      have HX8_2 := HX8_1.below hq2
      have HI9_2 := HI9_1.below hq2
      have HX9_2 := HX9_1.below hq2
      have HI11_2 := HI11_1.below hq2
      have HX11_2 := HX11_1.below hq2
      have HI13_2 := HI13_1.below hq2
      have HX13_2 := HX13_1.below hq2
      obtain ⟨ma', mc', ca', cc', rfl, hM', hC'⟩ := hv.reads
      have hI'2 : IsCa (.agg #[.slice ma' c8.ms.length mc', .slice ca' c8.cs.length cc']) c8 q2 := ⟨ma', mc', ca', cc', rfl, hM', hC'⟩
      rw [HNM8.out, HNC8.out] at hI'2 ⊢
      clear hM' hC' hv
      try go_wp2_with fail
      have hk2 := HS10.out _ HX5_2 HX8_2
      refine hK.out _ _ hk2 (fun _ => ?_)
      clear hK K
      try simp only [Act.put, List.setIfInBounds_toArray, List.set_cons_zero, List.set_cons_succ]
      refine wpAnyH_take (i := 21) (oi := { dst := some 64, op := Op.field 31 (Operand.tmp 63) 1, type := 2, pos := "laws.go:268", after := #[{ on := 20, ground := Ground.data }, { on := 16, ground := Ground.guard }], guard := some (16, false) }) (v := ?_) rfl (by kernel_rfl) (by kernel_rfl) (by kernel_rfl) (fun _ _ _ h => h) (Or.inl ⟨by rfl, ?_⟩) (by assumption) ?_
      rotate_left
      · (intro w hSw; (try dsimp only at hSw); go_simp) <;> with_reducible rfl
      try simp only [Act.put, List.setIfInBounds_toArray, List.set_cons_zero, List.set_cons_succ]
      refine wpAnyH_take (i := 22) (oi := { dst := some 65, op := Op.binOp BinOp.neq 2 (Operand.tmp 61) (Operand.tmp 64) 2, type := 4, pos := "laws.go:268", after := #[{ on := 18, ground := Ground.data }, { on := 21, ground := Ground.data }, { on := 16, ground := Ground.guard }], guard := some (16, false) }) (v := ?_) rfl (by kernel_rfl) (by kernel_rfl) (by kernel_rfl) (fun _ _ _ h => h) (Or.inl ⟨by rfl, ?_⟩) (by assumption) ?_
      rotate_left
      · (intro w hSw; (try dsimp only at hSw); go_simp) <;> with_reducible rfl
      try simp only [Act.put, List.setIfInBounds_toArray, List.set_cons_zero, List.set_cons_succ]
      refine wpAnyH_take (i := 23) (oi := { dst := some 66, op := Op.pick (Operand.tmp 59) (Operand.const (Value.bool true)) (Operand.tmp 65), type := 4, pos := "laws.go:268", after := #[{ on := 16, ground := Ground.data }, { on := 22, ground := Ground.data }], guard := none }) (v := ?_) rfl (by kernel_rfl) (by kernel_rfl) (by kernel_rfl) (fun _ _ _ h => h) (Or.inl ⟨by rfl, ?_⟩) (by assumption) ?_
      rotate_left
      · (intro w hSw; (try dsimp only at hSw); go_simp) <;> with_reducible rfl
      try simp only [Act.put, List.setIfInBounds_toArray, List.set_cons_zero, List.set_cons_succ]
      refine wpAnyH_take (i := 24) (oi := { dst := some 67, op := Op.move (Operand.tmp 66), type := 4, pos := "laws.go:268", after := #[{ on := 23, ground := Ground.data }, { on := 20, ground := Ground.chain }], guard := none }) (v := ?_) rfl (by kernel_rfl) (by kernel_rfl) (by kernel_rfl) (fun _ _ _ h => h) (Or.inl ⟨by rfl, ?_⟩) (by assumption) ?_
      rotate_left
      · (intro w hSw; (try dsimp only at hSw); go_simp) <;> with_reducible rfl
      try simp only [Act.put, List.setIfInBounds_toArray, List.set_cons_zero, List.set_cons_succ]
      refine wpAnyH_take (i := 25) (oi := { dst := some 68, op := Op.fieldAddr 31 (Operand.tmp 8) 0, type := 0, pos := "laws.go:268", after := #[{ on := 24, ground := Ground.guard }], guard := some (24, false) }) (v := ?_) rfl (by kernel_rfl) (by kernel_rfl) (by kernel_rfl) (fun _ _ _ h => h) (Or.inl ⟨by rfl, ?_⟩) (by assumption) ?_
      rotate_left
      · (intro w hSw; (try dsimp only at hSw); go_simp) <;> with_reducible rfl
      try simp only [Act.put, List.setIfInBounds_toArray, List.set_cons_zero, List.set_cons_succ]
      refine wpAnyH_take (i := 26) (oi := { dst := some 69, op := Op.load 26 (Operand.tmp 68), type := 26, pos := "laws.go:268", after := #[{ on := 25, ground := Ground.data }, { on := 24, ground := Ground.guard }], guard := some (24, false) }) (v := ?_) rfl (by kernel_rfl) (by kernel_rfl) (by kernel_rfl) (fun _ _ _ h => h) (Or.inl ⟨by rfl, ?_⟩) (by assumption) ?_
      rotate_left
      · (intro w hSw; (try dsimp only at hSw); go_simp) <;> with_reducible rfl
      try simp only [Act.put, List.setIfInBounds_toArray, List.set_cons_zero, List.set_cons_succ]
      refine wpAnyH_take (i := 27) (oi := { dst := some 70, op := Op.move (Operand.tmp 7), type := 9, pos := "laws.go:268", after := #[{ on := 24, ground := Ground.guard }], guard := some (24, false) }) (v := ?_) rfl (by kernel_rfl) (by kernel_rfl) (by kernel_rfl) (fun _ _ _ h => h) (Or.inl ⟨by rfl, ?_⟩) (by assumption) ?_
      rotate_left
      · (intro w hSw; (try dsimp only at hSw); go_simp) <;> with_reducible rfl
      try simp only [Act.put, List.setIfInBounds_toArray, List.set_cons_zero, List.set_cons_succ]
      refine wpAnyH_ready (rs := [28]) (by kernel_rfl) (by simp) ?_
      refine AllReadyH.cons (o := { dst := some 71, op := Op.call { callee := Callee.value (Operand.func 13), args := #[Operand.tmp 70], argTypes := #[9] }, type := 31, pos := "laws.go:268", after := #[{ on := 27, ground := Ground.data }, { on := 24, ground := Ground.chain }, { on := 24, ground := Ground.guard }], guard := some (24, false) }) rfl (fun K hK => ?_) AllReadyH.nil
      go_simp
      go_at_call 13
      refine (HRS.out _).mono ?_
      rintro e q3 ⟨v, rfl, hv, hq3⟩
      have HB_3 := HB_2.trans (hq3.mono HB_2.size)
      have HL_3 := HL_2.below hq3
      have HI5_3 := HI5_2.below hq3
      have HX5_3 := HX5_2.below hq3
      have HI8_3 := HI8_2.below hq3
      have HX8_3 := HX8_2.below hq3
      have HI9_3 := HI9_2.below hq3
      have HX9_3 := HX9_2.below hq3
      have HI11_3 := HI11_2.below hq3
      have HX11_3 := HX11_2.below hq3
      have HI13_3 := HI13_2.below hq3
      have HX13_3 := HX13_2.below hq3
      have I'_3 := hI'2.below hq3
      obtain ⟨ma', mc', ca', cc', rfl, hM', hC'⟩ := hv.reads
      have hI'3 : IsCa (.agg #[.slice ma' c8.ms.length mc', .slice ca' c8.cs.length cc']) c8 q3 := ⟨ma', mc', ca', cc', rfl, hM', hC'⟩
      rw [HNM8.out, HNC8.out] at hI'3 ⊢
      clear hM' hC' hv
      try go_wp2_with fail
      have hk3 := HS10.out _ HX5_3 HX8_3
      refine hK.out _ _ hk3 (fun _ => ?_)
      clear hK K
      try simp only [Act.put, List.setIfInBounds_toArray, List.set_cons_zero, List.set_cons_succ]
      refine wpAnyH_take (i := 29) (oi := { dst := some 72, op := Op.field 31 (Operand.tmp 71) 0, type := 26, pos := "laws.go:268", after := #[{ on := 28, ground := Ground.data }, { on := 24, ground := Ground.guard }], guard := some (24, false) }) (v := ?_) rfl (by kernel_rfl) (by kernel_rfl) (by kernel_rfl) (fun _ _ _ h => h) (Or.inl ⟨by rfl, ?_⟩) (by assumption) ?_
      rotate_left
      · (intro w hSw; (try dsimp only at hSw); go_simp) <;> with_reducible rfl
      try simp only [Act.put, List.setIfInBounds_toArray, List.set_cons_zero, List.set_cons_succ]
      refine wpAnyH_ready (rs := [30]) (by kernel_rfl) (by simp) ?_
      refine AllReadyH.cons (o := { dst := some 73, op := Op.call { callee := Callee.value (Operand.func 12), args := #[Operand.tmp 69, Operand.tmp 72], argTypes := #[26, 26] }, type := 4, pos := "laws.go:268", after := #[{ on := 26, ground := Ground.data }, { on := 29, ground := Ground.data }, { on := 28, ground := Ground.chain }, { on := 24, ground := Ground.guard }], guard := some (24, false) }) rfl (fun K hK => ?_) AllReadyH.nil
      go_simp
      go_at_call 12
      refine (CatR.lwCa_any _ _ c8 _ HS8.out HI8_3 hI'3).mono ?_
      rintro e q4 ⟨rfl, hq4⟩
      have HB_4 := HB_3.trans (hq4.mono HB_3.size)
      have HL_4 := HL_3.below hq4
      have HI5_4 := HI5_3.below hq4
      have HX5_4 := HX5_3.below hq4
      have HI8_4 := HI8_3.below hq4
      have HX8_4 := HX8_3.below hq4
      have HI9_4 := HI9_3.below hq4
      have HX9_4 := HX9_3.below hq4
      have HI11_4 := HI11_3.below hq4
      have HX11_4 := HX11_3.below hq4
      have HI13_4 := HI13_3.below hq4
      have HX13_4 := HX13_3.below hq4
      have I'_4 := hI'3.below hq4
      try go_wp2_with fail
      have hk4 := HS10.out _ HX5_4 HX8_4
      refine hK.out _ _ hk4 (fun _ => ?_)
      clear hK K
      try simp only [Act.put, List.setIfInBounds_toArray, List.set_cons_zero, List.set_cons_succ]
      refine wpAnyH_take (i := 31) (oi := { dst := some 74, op := Op.unOp UnOp.not 4 (Operand.tmp 73), type := 4, pos := "laws.go:268", after := #[{ on := 30, ground := Ground.data }, { on := 24, ground := Ground.guard }], guard := some (24, false) }) (v := ?_) rfl (by kernel_rfl) (by kernel_rfl) (by kernel_rfl) (fun _ _ _ h => h) (Or.inl ⟨by rfl, ?_⟩) (by assumption) ?_
      rotate_left
      · (intro w hSw; (try dsimp only at hSw); go_simp) <;> with_reducible rfl
      try simp only [Act.put, List.setIfInBounds_toArray, List.set_cons_zero, List.set_cons_succ]
      refine wpAnyH_take (i := 32) (oi := { dst := some 75, op := Op.pick (Operand.tmp 67) (Operand.const (Value.bool true)) (Operand.tmp 74), type := 4, pos := "laws.go:268", after := #[{ on := 24, ground := Ground.data }, { on := 31, ground := Ground.data }], guard := none }) (v := ?_) rfl (by kernel_rfl) (by kernel_rfl) (by kernel_rfl) (fun _ _ _ h => h) (Or.inl ⟨by rfl, ?_⟩) (by assumption) ?_
      rotate_left
      · (intro w hSw; (try dsimp only at hSw); go_simp) <;> with_reducible rfl
      try simp only [Act.put, List.setIfInBounds_toArray, List.set_cons_zero, List.set_cons_succ]
      refine wpAnyH_take (i := 33) (oi := { dst := some 76, op := Op.move (Operand.tmp 75), type := 4, pos := "laws.go:268", after := #[{ on := 32, ground := Ground.data }, { on := 30, ground := Ground.chain }], guard := none }) (v := ?_) rfl (by kernel_rfl) (by kernel_rfl) (by kernel_rfl) (fun _ _ _ h => h) (Or.inl ⟨by rfl, ?_⟩) (by assumption) ?_
      rotate_left
      · (intro w hSw; (try dsimp only at hSw); go_simp) <;> with_reducible rfl
      try simp only [Act.put, List.setIfInBounds_toArray, List.set_cons_zero, List.set_cons_succ]
      refine wpAnyH_take (i := 34) (oi := { dst := some 77, op := Op.fieldAddr 31 (Operand.tmp 8) 1, type := 0, pos := "laws.go:268", after := #[{ on := 33, ground := Ground.guard }], guard := some (33, false) }) (v := ?_) rfl (by kernel_rfl) (by kernel_rfl) (by kernel_rfl) (fun _ _ _ h => h) (Or.inl ⟨by rfl, ?_⟩) (by assumption) ?_
      rotate_left
      · (intro w hSw; (try dsimp only at hSw); go_simp) <;> with_reducible rfl
      try simp only [Act.put, List.setIfInBounds_toArray, List.set_cons_zero, List.set_cons_succ]
      refine wpAnyH_take (i := 35) (oi := { dst := some 78, op := Op.load 2 (Operand.tmp 77), type := 2, pos := "laws.go:268", after := #[{ on := 34, ground := Ground.data }, { on := 33, ground := Ground.guard }], guard := some (33, false) }) (v := ?_) rfl (by kernel_rfl) (by kernel_rfl) (by kernel_rfl) (fun _ _ _ h => h) (Or.inl ⟨by rfl, ?_⟩) (by assumption) ?_
      rotate_left
      · (intro w hSw; (try dsimp only at hSw); go_simp) <;> with_reducible rfl
      try simp only [Act.put, List.setIfInBounds_toArray, List.set_cons_zero, List.set_cons_succ]
      refine wpAnyH_take (i := 36) (oi := { dst := some 79, op := Op.binOp BinOp.eql 2 (Operand.tmp 78) (Operand.const (Value.int IntKind.i64 0)) 2, type := 4, pos := "laws.go:268", after := #[{ on := 35, ground := Ground.data }, { on := 33, ground := Ground.guard }], guard := some (33, false) }) (v := ?_) rfl (by kernel_rfl) (by kernel_rfl) (by kernel_rfl) (fun _ _ _ h => h) (Or.inl ⟨by rfl, ?_⟩) (by assumption) ?_
      rotate_left
      · (intro w hSw; (try dsimp only at hSw); go_simp) <;> with_reducible rfl
      try simp only [Act.put, List.setIfInBounds_toArray, List.set_cons_zero, List.set_cons_succ]
      refine wpAnyH_take (i := 37) (oi := { dst := some 80, op := Op.move (Operand.tmp 79), type := 4, pos := "laws.go:268", after := #[{ on := 36, ground := Ground.data }, { on := 33, ground := Ground.chain }, { on := 33, ground := Ground.guard }], guard := some (33, false) }) (v := ?_) rfl (by kernel_rfl) (by kernel_rfl) (by kernel_rfl) (fun _ _ _ h => h) (Or.inl ⟨by rfl, ?_⟩) (by assumption) ?_
      rotate_left
      · (intro w hSw; (try dsimp only at hSw); go_simp) <;> with_reducible rfl
      try simp only [Act.put, List.setIfInBounds_toArray, List.set_cons_zero, List.set_cons_succ]
      refine wpAnyH_take (i := 38) (oi := { dst := some 81, op := Op.fieldAddr 31 (Operand.tmp 8) 0, type := 0, pos := "laws.go:268", after := #[{ on := 37, ground := Ground.guard }], guard := some (37, true) }) (v := undef) rfl (by kernel_rfl) (by kernel_rfl) (by kernel_rfl) (fun _ _ _ h => h) (Or.inr ⟨by rfl, rfl⟩) (by assumption) ?_
      try simp only [Act.put, List.setIfInBounds_toArray, List.set_cons_zero, List.set_cons_succ]
      refine wpAnyH_take (i := 39) (oi := { dst := some 82, op := Op.load 26 (Operand.tmp 81), type := 26, pos := "laws.go:268", after := #[{ on := 38, ground := Ground.data }, { on := 37, ground := Ground.guard }], guard := some (37, true) }) (v := undef) rfl (by kernel_rfl) (by kernel_rfl) (by kernel_rfl) (fun _ _ _ h => h) (Or.inr ⟨by rfl, rfl⟩) (by assumption) ?_
      try simp only [Act.put, List.setIfInBounds_toArray, List.set_cons_zero, List.set_cons_succ]
      refine wpAnyH_take (i := 40) (oi := { dst := some 83, op := Op.call { callee := Callee.value (Operand.func 5), args := #[Operand.tmp 82], argTypes := #[26] }, type := 9, pos := "laws.go:268", after := #[{ on := 39, ground := Ground.data }, { on := 37, ground := Ground.chain }, { on := 37, ground := Ground.guard }], guard := some (37, true) }) (v := undef) rfl (by kernel_rfl) (by kernel_rfl) (by kernel_rfl) (fun _ _ _ h => h) (Or.inr ⟨by rfl, rfl⟩) (by assumption) ?_
      try simp only [Act.put, List.setIfInBounds_toArray, List.set_cons_zero, List.set_cons_succ]
      refine wpAnyH_take (i := 41) (oi := { dst := some 84, op := Op.move (Operand.tmp 7), type := 9, pos := "laws.go:268", after := #[{ on := 37, ground := Ground.guard }], guard := some (37, true) }) (v := undef) rfl (by kernel_rfl) (by kernel_rfl) (by kernel_rfl) (fun _ _ _ h => h) (Or.inr ⟨by rfl, rfl⟩) (by assumption) ?_
      try simp only [Act.put, List.setIfInBounds_toArray, List.set_cons_zero, List.set_cons_succ]
      refine wpAnyH_take (i := 42) (oi := { dst := some 85, op := Op.binOp BinOp.neq 9 (Operand.tmp 83) (Operand.tmp 84) 9, type := 4, pos := "laws.go:268", after := #[{ on := 40, ground := Ground.data }, { on := 41, ground := Ground.data }, { on := 37, ground := Ground.guard }], guard := some (37, true) }) (v := undef) rfl (by kernel_rfl) (by kernel_rfl) (by kernel_rfl) (fun _ _ _ h => h) (Or.inr ⟨by rfl, rfl⟩) (by assumption) ?_
      try simp only [Act.put, List.setIfInBounds_toArray, List.set_cons_zero, List.set_cons_succ]
      refine wpAnyH_take (i := 43) (oi := { dst := some 86, op := Op.pick (Operand.tmp 80) (Operand.tmp 85) (Operand.const (Value.bool false)), type := 4, pos := "laws.go:268", after := #[{ on := 37, ground := Ground.data }, { on := 42, ground := Ground.data }, { on := 33, ground := Ground.guard }], guard := some (33, false) }) (v := ?_) rfl (by kernel_rfl) (by kernel_rfl) (by kernel_rfl) (fun _ _ _ h => h) (Or.inl ⟨by rfl, ?_⟩) (by assumption) ?_
      rotate_left
      · (intro w hSw; (try dsimp only at hSw); go_simp) <;> with_reducible rfl
      try simp only [Act.put, List.setIfInBounds_toArray, List.set_cons_zero, List.set_cons_succ]
      refine wpAnyH_take (i := 44) (oi := { dst := some 87, op := Op.pick (Operand.tmp 76) (Operand.const (Value.bool true)) (Operand.tmp 86), type := 4, pos := "laws.go:268", after := #[{ on := 33, ground := Ground.data }, { on := 43, ground := Ground.data }], guard := none }) (v := ?_) rfl (by kernel_rfl) (by kernel_rfl) (by kernel_rfl) (fun _ _ _ h => h) (Or.inl ⟨by rfl, ?_⟩) (by assumption) ?_
      rotate_left
      · (intro w hSw; (try dsimp only at hSw); go_simp) <;> with_reducible rfl
      try simp only [Act.put, List.setIfInBounds_toArray, List.set_cons_zero, List.set_cons_succ]
      refine wpAnyH_done (by kernel_rfl) ?_ _
      clear HB_0 HB_1 HB_2 HB_3 HL_0 HL_1 HL_2 HL_3 HI5_0 HI5_1 HI5_2 HI5_3 HX5_0 HX5_1 HX5_2 HX5_3 HI8_0 HI8_1 HI8_2 HI8_3 HX8_0 HX8_1 HX8_2 HX8_3 HI9_0 HI9_1 HI9_2 HI9_3 HX9_0 HX9_1 HX9_2 HX9_3 HI11_0 HI11_1 HI11_2 HI11_3 HX11_0 HX11_1 HX11_2 HX11_3 HI13_0 HI13_1 HI13_2 HI13_3 HX13_0 HX13_1 HX13_2 HX13_3
      have hbz := (Below.refl q4.heap.size q4).drew
      have HB_z := HB_4.trans (hbz.mono HB_4.size)
      have HL_z := HL_4.below hbz
      have HI5_z := HI5_4.below hbz
      have HX5_z := HX5_4.below hbz
      have HI8_z := HI8_4.below hbz
      have HX8_z := HX8_4.below hbz
      have HI9_z := HI9_4.below hbz
      have HX9_z := HX9_4.below hbz
      have HI11_z := HI11_4.below hbz
      have HX11_z := HX11_4.below hbz
      have HI13_z := HI13_4.below hbz
      have HX13_z := HX13_4.below hbz
      clear hbz
      go_wp2_with fail
      refine wp_region_held_drew (S := (fun (W : World) => b5 < W.heap.size ∧ W.cell? ⟨b5, 0, none⟩ = some (.slice ma5 nm5 mc5) ∧ W.cell? ⟨b5, 1, none⟩ = some (.slice ca5 nc5 cc5) ∧ b9 < W.heap.size ∧ W.cell? ⟨b9, 0, none⟩ = some (.slice ma9 nm9 mc9) ∧ W.cell? ⟨b9, 1, none⟩ = some (.slice ca9 nc9 cc9) ∧ b11 < W.heap.size ∧ W.cell? ⟨b11, 0, none⟩ = some (.slice ma11 nm11 mc11) ∧ W.cell? ⟨b11, 1, none⟩ = some (.slice ca11 nc11 cc11) ∧ b13 < W.heap.size ∧ W.cell? ⟨b13, 0, none⟩ = some (.string m.n) ∧ W.cell? ⟨b13, 1, none⟩ = some (.int .i64 m.g) ∧ W.cell? ⟨b13, 2, none⟩ = some (.bool m.wh) ∧ W.cell? ⟨b13, 3, none⟩ = some (.int .i64 m.f) ∧ W.cell? ⟨b13, 4, none⟩ = some (.int .i64 m.l) ∧ W.cell? ⟨b13, 5, none⟩ = some (.slice ta tl tc))) (by kernel_rfl) (HS12.out _ HX5_z HX9_z HX11_z HX13_z) (fun hHeld => ?_)
      generalize q4.drew = kz at *
      refine wpAnyH_take (i := 0) (oi := { dst := some 88, op := Op.load 26 (Operand.tmp 9), type := 26, pos := "laws.go:271", after := #[], guard := none }) (v := ?_) rfl (by kernel_rfl) (by kernel_rfl) (by kernel_rfl) (fun _ _ _ h => h) (Or.inl ⟨by rfl, ?_⟩) (by assumption) ?_
      rotate_left
      · (intro w hSw; (try dsimp only at hSw); go_simp) <;> with_reducible rfl
      try simp only [Act.put, List.setIfInBounds_toArray, List.set_cons_zero, List.set_cons_succ]
      refine wpAnyH_take (i := 1) (oi := { dst := some 89, op := Op.move (Operand.tmp 10), type := 9, pos := "laws.go:271", after := #[], guard := none }) (v := ?_) rfl (by kernel_rfl) (by kernel_rfl) (by kernel_rfl) (fun _ _ _ h => h) (Or.inl ⟨by rfl, ?_⟩) (by assumption) ?_
      rotate_left
      · (intro w hSw; (try dsimp only at hSw); go_simp) <;> with_reducible rfl
      try simp only [Act.put, List.setIfInBounds_toArray, List.set_cons_zero, List.set_cons_succ]
      refine wpAnyH_take (i := 3) (oi := { dst := some 91, op := Op.load 26 (Operand.tmp 9), type := 26, pos := "laws.go:271", after := #[], guard := none }) (v := ?_) rfl (by kernel_rfl) (by kernel_rfl) (by kernel_rfl) (fun _ _ _ h => h) (Or.inl ⟨by rfl, ?_⟩) (by assumption) ?_
      rotate_left
      · (intro w hSw; (try dsimp only at hSw); go_simp) <;> with_reducible rfl
      try simp only [Act.put, List.setIfInBounds_toArray, List.set_cons_zero, List.set_cons_succ]
      refine wpAnyH_take (i := 4) (oi := { dst := some 92, op := Op.move (Operand.tmp 10), type := 9, pos := "laws.go:271", after := #[], guard := none }) (v := ?_) rfl (by kernel_rfl) (by kernel_rfl) (by kernel_rfl) (fun _ _ _ h => h) (Or.inl ⟨by rfl, ?_⟩) (by assumption) ?_
      rotate_left
      · (intro w hSw; (try dsimp only at hSw); go_simp) <;> with_reducible rfl
      try simp only [Act.put, List.setIfInBounds_toArray, List.set_cons_zero, List.set_cons_succ]
      refine wpAnyH_ready (rs := [2]) (by kernel_rfl) (by simp) ?_
      refine AllReadyH.cons (o := { dst := some 90, op := Op.call { callee := Callee.value (Operand.func 15), args := #[Operand.tmp 88, Operand.tmp 89], argTypes := #[26, 9] }, type := 37, pos := "laws.go:271", after := #[{ on := 0, ground := Ground.data }, { on := 1, ground := Ground.data }], guard := none }) rfl (fun K hK => ?_) AllReadyH.nil
      go_simp
      go_at_call 15
      refine (impl_mo _ c9 T9 _ (by have := HTz9.out; omega) HS9.out HI9_z HL_z).mono ?_
      rintro e q50 ⟨ta1, tc1, he, hT0, -, hq50⟩
      have HB_50 := HB_z.trans (hq50.mono HB_z.size)
      have HL_50 := HL_z.below hq50
      have HI5_50 := HI5_z.below hq50
      have HX5_50 := HX5_z.below hq50
      have HI8_50 := HI8_z.below hq50
      have HX8_50 := HX8_z.below hq50
      have HI9_50 := HI9_z.below hq50
      have HX9_50 := HX9_z.below hq50
      have HI11_50 := HI11_z.below hq50
      have HX11_50 := HX11_z.below hq50
      have HI13_50 := HI13_z.below hq50
      have HX13_50 := HX13_z.below hq50
      rw [← HMO.out] at he hT0
      subst he
      have hT150 := hT0
      try go_wp2_with fail
      have hk50 := HS12.out _ HX5_50 HX9_50 HX11_50 HX13_50
      refine hK.out _ _ hk50 (fun _ => ?_)
      clear hK K
      try simp only [Act.put, List.setIfInBounds_toArray, List.set_cons_zero, List.set_cons_succ]
      refine wpAnyH_ready (rs := [5]) (by kernel_rfl) (by simp) ?_
      refine AllReadyH.cons (o := { dst := some 93, op := Op.call { callee := Callee.value (Operand.func 16), args := #[Operand.tmp 91, Operand.tmp 92], argTypes := #[26, 9] }, type := 37, pos := "laws.go:271", after := #[{ on := 3, ground := Ground.data }, { on := 4, ground := Ground.data }, { on := 2, ground := Ground.chain }], guard := none }) rfl (fun K hK => ?_) AllReadyH.nil
      go_simp
      go_at_call 16
      refine (spec_mo _ c9 T9 _ (by have := HTz9.out; omega) HS9.out HI9_50).mono ?_
      rintro e q51 ⟨ta2, tc2, he, hT2, -, hq51⟩
      have HB_51 := HB_50.trans (hq51.mono HB_50.size)
      have HL_51 := HL_50.below hq51
      have HI5_51 := HI5_50.below hq51
      have HX5_51 := HX5_50.below hq51
      have HI8_51 := HI8_50.below hq51
      have HX8_51 := HX8_50.below hq51
      have HI9_51 := HI9_50.below hq51
      have HX9_51 := HX9_50.below hq51
      have HI11_51 := HI11_50.below hq51
      have HX11_51 := HX11_50.below hq51
      have HI13_51 := HI13_50.below hq51
      have HX13_51 := HX13_50.below hq51
      have T1_51 := hT150.below hq51
      rw [← HMO.out] at he hT2
      subst he
      try go_wp2_with fail
      have hk51 := HS12.out _ HX5_51 HX9_51 HX11_51 HX13_51
      refine hK.out _ _ hk51 (fun _ => ?_)
      clear hK K
      try simp only [Act.put, List.setIfInBounds_toArray, List.set_cons_zero, List.set_cons_succ]
      refine wpAnyH_ready (rs := [6]) (by kernel_rfl) (by simp) ?_
      refine AllReadyH.cons (o := { dst := some 94, op := Op.call { callee := Callee.value (Operand.func 14), args := #[Operand.tmp 90, Operand.tmp 93], argTypes := #[37, 37] }, type := 4, pos := "laws.go:271", after := #[{ on := 2, ground := Ground.data }, { on := 5, ground := Ground.data }, { on := 5, ground := Ground.chain }], guard := none }) rfl (fun K hK => ?_) AllReadyH.nil
      go_simp
      go_at_call 14
      refine (lwMe_any _ _ M _ HMS.out.2 ⟨ta1, tc1, rfl, T1_51⟩ ⟨ta2, tc2, rfl, hT2⟩).mono ?_
      rintro e q52 ⟨rfl, hq52⟩
      have HB_52 := HB_51.trans (hq52.mono HB_51.size)
      have HL_52 := HL_51.below hq52
      have HI5_52 := HI5_51.below hq52
      have HX5_52 := HX5_51.below hq52
      have HI8_52 := HI8_51.below hq52
      have HX8_52 := HX8_51.below hq52
      have HI9_52 := HI9_51.below hq52
      have HX9_52 := HX9_51.below hq52
      have HI11_52 := HI11_51.below hq52
      have HX11_52 := HX11_51.below hq52
      have HI13_52 := HI13_51.below hq52
      have HX13_52 := HX13_51.below hq52
      have T1_52 := T1_51.below hq52
      try go_wp2_with fail
      have hk52 := HS12.out _ HX5_52 HX9_52 HX11_52 HX13_52
      refine hK.out _ _ hk52 (fun _ => ?_)
      clear hK K
      try simp only [Act.put, List.setIfInBounds_toArray, List.set_cons_zero, List.set_cons_succ]
      refine wpAnyH_take (i := 7) (oi := { dst := some 95, op := Op.unOp UnOp.not 4 (Operand.tmp 94), type := 4, pos := "laws.go:271", after := #[{ on := 6, ground := Ground.data }], guard := none }) (v := ?_) rfl (by kernel_rfl) (by kernel_rfl) (by kernel_rfl) (fun _ _ _ h => h) (Or.inl ⟨by rfl, ?_⟩) (by assumption) ?_
      rotate_left
      · (intro w hSw; (try dsimp only at hSw); go_simp) <;> with_reducible rfl
      try simp only [Act.put, List.setIfInBounds_toArray, List.set_cons_zero, List.set_cons_succ]
      refine wpAnyH_take (i := 8) (oi := { dst := some 96, op := Op.move (Operand.tmp 95), type := 4, pos := "laws.go:271", after := #[{ on := 7, ground := Ground.data }, { on := 6, ground := Ground.chain }], guard := none }) (v := ?_) rfl (by kernel_rfl) (by kernel_rfl) (by kernel_rfl) (fun _ _ _ h => h) (Or.inl ⟨by rfl, ?_⟩) (by assumption) ?_
      rotate_left
      · (intro w hSw; (try dsimp only at hSw); go_simp) <;> with_reducible rfl
      try simp only [Act.put, List.setIfInBounds_toArray, List.set_cons_zero, List.set_cons_succ]
      refine wpAnyH_take (i := 9) (oi := { dst := some 97, op := Op.load 26 (Operand.tmp 11), type := 26, pos := "laws.go:271", after := #[{ on := 8, ground := Ground.guard }], guard := some (8, false) }) (v := ?_) rfl (by kernel_rfl) (by kernel_rfl) (by kernel_rfl) (fun _ _ _ h => h) (Or.inl ⟨by rfl, ?_⟩) (by assumption) ?_
      rotate_left
      · (intro w hSw; (try dsimp only at hSw); go_simp) <;> with_reducible rfl
      try simp only [Act.put, List.setIfInBounds_toArray, List.set_cons_zero, List.set_cons_succ]
      refine wpAnyH_take (i := 10) (oi := { dst := some 98, op := Op.move (Operand.tmp 12), type := 9, pos := "laws.go:271", after := #[{ on := 8, ground := Ground.guard }], guard := some (8, false) }) (v := ?_) rfl (by kernel_rfl) (by kernel_rfl) (by kernel_rfl) (fun _ _ _ h => h) (Or.inl ⟨by rfl, ?_⟩) (by assumption) ?_
      rotate_left
      · (intro w hSw; (try dsimp only at hSw); go_simp) <;> with_reducible rfl
      try simp only [Act.put, List.setIfInBounds_toArray, List.set_cons_zero, List.set_cons_succ]
      refine wpAnyH_take (i := 12) (oi := { dst := some 100, op := Op.load 26 (Operand.tmp 11), type := 26, pos := "laws.go:271", after := #[{ on := 8, ground := Ground.guard }], guard := some (8, false) }) (v := ?_) rfl (by kernel_rfl) (by kernel_rfl) (by kernel_rfl) (fun _ _ _ h => h) (Or.inl ⟨by rfl, ?_⟩) (by assumption) ?_
      rotate_left
      · (intro w hSw; (try dsimp only at hSw); go_simp) <;> with_reducible rfl
      try simp only [Act.put, List.setIfInBounds_toArray, List.set_cons_zero, List.set_cons_succ]
      refine wpAnyH_take (i := 13) (oi := { dst := some 101, op := Op.move (Operand.tmp 12), type := 9, pos := "laws.go:271", after := #[{ on := 8, ground := Ground.guard }], guard := some (8, false) }) (v := ?_) rfl (by kernel_rfl) (by kernel_rfl) (by kernel_rfl) (fun _ _ _ h => h) (Or.inl ⟨by rfl, ?_⟩) (by assumption) ?_
      rotate_left
      · (intro w hSw; (try dsimp only at hSw); go_simp) <;> with_reducible rfl
      try simp only [Act.put, List.setIfInBounds_toArray, List.set_cons_zero, List.set_cons_succ]
      refine wpAnyH_ready (rs := [11]) (by kernel_rfl) (by simp) ?_
      refine AllReadyH.cons (o := { dst := some 99, op := Op.call { callee := Callee.value (Operand.func 17), args := #[Operand.tmp 97, Operand.tmp 98], argTypes := #[26, 9] }, type := 2, pos := "laws.go:271", after := #[{ on := 9, ground := Ground.data }, { on := 10, ground := Ground.data }, { on := 8, ground := Ground.chain }, { on := 8, ground := Ground.guard }], guard := some (8, false) }) rfl (fun K hK => ?_) AllReadyH.nil
      go_simp
      go_at_call 17
      refine (impl_cr _ c11 T11 _ HS11.out HI11_52 HL_52).mono ?_
      rintro e q53 ⟨rfl, hq53⟩
      have HB_53 := HB_52.trans (hq53.mono HB_52.size)
      have HL_53 := HL_52.below hq53
      have HI5_53 := HI5_52.below hq53
      have HX5_53 := HX5_52.below hq53
      have HI8_53 := HI8_52.below hq53
      have HX8_53 := HX8_52.below hq53
      have HI9_53 := HI9_52.below hq53
      have HX9_53 := HX9_52.below hq53
      have HI11_53 := HI11_52.below hq53
      have HX11_53 := HX11_52.below hq53
      have HI13_53 := HI13_52.below hq53
      have HX13_53 := HX13_52.below hq53
      have T1_53 := T1_52.below hq53
      try go_wp2_with fail
      have hk53 := HS12.out _ HX5_53 HX9_53 HX11_53 HX13_53
      refine hK.out _ _ hk53 (fun _ => ?_)
      clear hK K
      try simp only [Act.put, List.setIfInBounds_toArray, List.set_cons_zero, List.set_cons_succ]
      refine wpAnyH_ready (rs := [14]) (by kernel_rfl) (by simp) ?_
      refine AllReadyH.cons (o := { dst := some 102, op := Op.call { callee := Callee.value (Operand.func 18), args := #[Operand.tmp 100, Operand.tmp 101], argTypes := #[26, 9] }, type := 2, pos := "laws.go:271", after := #[{ on := 12, ground := Ground.data }, { on := 13, ground := Ground.data }, { on := 11, ground := Ground.chain }, { on := 8, ground := Ground.guard }], guard := some (8, false) }) rfl (fun K hK => ?_) AllReadyH.nil
      go_simp
      go_at_call 18
      refine (spec_cr _ c11 T11 _ (by have := HTz11.out; omega) HS11.out HI11_53).mono ?_
      rintro e q54 ⟨rfl, hq54⟩
      have HB_54 := HB_53.trans (hq54.mono HB_53.size)
      have HL_54 := HL_53.below hq54
      have HI5_54 := HI5_53.below hq54
      have HX5_54 := HX5_53.below hq54
      have HI8_54 := HI8_53.below hq54
      have HX8_54 := HX8_53.below hq54
      have HI9_54 := HI9_53.below hq54
      have HX9_54 := HX9_53.below hq54
      have HI11_54 := HI11_53.below hq54
      have HX11_54 := HX11_53.below hq54
      have HI13_54 := HI13_53.below hq54
      have HX13_54 := HX13_53.below hq54
      have T1_54 := T1_53.below hq54
      try go_wp2_with fail
      have hk54 := HS12.out _ HX5_54 HX9_54 HX11_54 HX13_54
      refine hK.out _ _ hk54 (fun _ => ?_)
      clear hK K
      try simp only [Act.put, List.setIfInBounds_toArray, List.set_cons_zero, List.set_cons_succ]
      refine wpAnyH_take (i := 15) (oi := { dst := some 103, op := Op.binOp BinOp.neq 2 (Operand.tmp 99) (Operand.tmp 102) 2, type := 4, pos := "laws.go:271", after := #[{ on := 11, ground := Ground.data }, { on := 14, ground := Ground.data }, { on := 8, ground := Ground.guard }], guard := some (8, false) }) (v := ?_) rfl (by kernel_rfl) (by kernel_rfl) (by kernel_rfl) (fun _ _ _ h => h) (Or.inl ⟨by rfl, ?_⟩) (by assumption) ?_
      rotate_left
      · (intro w hSw; (try dsimp only at hSw); go_simp) <;> with_reducible rfl
      try simp only [Act.put, List.setIfInBounds_toArray, List.set_cons_zero, List.set_cons_succ]
      refine wpAnyH_take (i := 16) (oi := { dst := some 104, op := Op.pick (Operand.tmp 96) (Operand.const (Value.bool true)) (Operand.tmp 103), type := 4, pos := "laws.go:271", after := #[{ on := 8, ground := Ground.data }, { on := 15, ground := Ground.data }], guard := none }) (v := ?_) rfl (by kernel_rfl) (by kernel_rfl) (by kernel_rfl) (fun _ _ _ h => h) (Or.inl ⟨by rfl, ?_⟩) (by assumption) ?_
      rotate_left
      · (intro w hSw; (try dsimp only at hSw); go_simp) <;> with_reducible rfl
      try simp only [Act.put, List.setIfInBounds_toArray, List.set_cons_zero, List.set_cons_succ]
      refine wpAnyH_take (i := 17) (oi := { dst := some 105, op := Op.move (Operand.tmp 104), type := 4, pos := "laws.go:271", after := #[{ on := 16, ground := Ground.data }, { on := 14, ground := Ground.chain }], guard := none }) (v := ?_) rfl (by kernel_rfl) (by kernel_rfl) (by kernel_rfl) (fun _ _ _ h => h) (Or.inl ⟨by rfl, ?_⟩) (by assumption) ?_
      rotate_left
      · (intro w hSw; (try dsimp only at hSw); go_simp) <;> with_reducible rfl
      try simp only [Act.put, List.setIfInBounds_toArray, List.set_cons_zero, List.set_cons_succ]
      refine wpAnyH_take (i := 18) (oi := { dst := some 106, op := Op.load 37 (Operand.tmp 13), type := 37, pos := "laws.go:271", after := #[{ on := 17, ground := Ground.guard }], guard := some (17, false) }) (v := ?_) rfl (by kernel_rfl) (by kernel_rfl) (by kernel_rfl) (fun _ _ _ h => h) (Or.inl ⟨by rfl, ?_⟩) (by assumption) ?_
      rotate_left
      · (intro w hSw; (try dsimp only at hSw); go_simp) <;> with_reducible rfl
      try simp only [Act.put, List.setIfInBounds_toArray, List.set_cons_zero, List.set_cons_succ]
      refine wpAnyH_take (i := 20) (oi := { dst := some 108, op := Op.load 37 (Operand.tmp 13), type := 37, pos := "laws.go:271", after := #[{ on := 17, ground := Ground.guard }], guard := some (17, false) }) (v := ?_) rfl (by kernel_rfl) (by kernel_rfl) (by kernel_rfl) (fun _ _ _ h => h) (Or.inl ⟨by rfl, ?_⟩) (by assumption) ?_
      rotate_left
      · (intro w hSw; (try dsimp only at hSw); go_simp) <;> with_reducible rfl
      try simp only [Act.put, List.setIfInBounds_toArray, List.set_cons_zero, List.set_cons_succ]
      refine wpAnyH_ready (rs := [19]) (by kernel_rfl) (by simp) ?_
      refine AllReadyH.cons (o := { dst := some 107, op := Op.call { callee := Callee.value (Operand.func 19), args := #[Operand.tmp 106], argTypes := #[37] }, type := 4, pos := "laws.go:271", after := #[{ on := 18, ground := Ground.data }, { on := 17, ground := Ground.chain }, { on := 17, ground := Ground.guard }], guard := some (17, false) }) rfl (fun K hK => ?_) AllReadyH.nil
      go_simp
      go_at_call 19
      refine (impl_meter _ m _ (by have := HM1.out; omega) (by have := HM2.out; have := HTL.out; omega) HI13_54).mono ?_
      rintro e q55 ⟨rfl, hq55⟩
      have HB_55 := HB_54.trans (hq55.mono HB_54.size)
      have HL_55 := HL_54.below hq55
      have HI5_55 := HI5_54.below hq55
      have HX5_55 := HX5_54.below hq55
      have HI8_55 := HI8_54.below hq55
      have HX8_55 := HX8_54.below hq55
      have HI9_55 := HI9_54.below hq55
      have HX9_55 := HX9_54.below hq55
      have HI11_55 := HI11_54.below hq55
      have HX11_55 := HX11_54.below hq55
      have HI13_55 := HI13_54.below hq55
      have HX13_55 := HX13_54.below hq55
      have T1_55 := T1_54.below hq55
      try go_wp2_with fail
      have hk55 := HS12.out _ HX5_55 HX9_55 HX11_55 HX13_55
      refine hK.out _ _ hk55 (fun _ => ?_)
      clear hK K
      try simp only [Act.put, List.setIfInBounds_toArray, List.set_cons_zero, List.set_cons_succ]
      refine wpAnyH_ready (rs := [21]) (by kernel_rfl) (by simp) ?_
      refine AllReadyH.cons (o := { dst := some 109, op := Op.call { callee := Callee.value (Operand.func 20), args := #[Operand.tmp 108], argTypes := #[37] }, type := 4, pos := "laws.go:271", after := #[{ on := 20, ground := Ground.data }, { on := 19, ground := Ground.chain }, { on := 17, ground := Ground.guard }], guard := some (17, false) }) rfl (fun K hK => ?_) AllReadyH.nil
      go_simp
      go_at_call 20
      refine (spec_meter _ m _ (by have := HM1.out; omega) (by have := HM2.out; have := HTL.out; omega) HI13_55).mono ?_
      rintro e q56 ⟨rfl, hq56⟩
      have HB_56 := HB_55.trans (hq56.mono HB_55.size)
      have HL_56 := HL_55.below hq56
      have HI5_56 := HI5_55.below hq56
      have HX5_56 := HX5_55.below hq56
      have HI8_56 := HI8_55.below hq56
      have HX8_56 := HX8_55.below hq56
      have HI9_56 := HI9_55.below hq56
      have HX9_56 := HX9_55.below hq56
      have HI11_56 := HI11_55.below hq56
      have HX11_56 := HX11_55.below hq56
      have HI13_56 := HI13_55.below hq56
      have HX13_56 := HX13_55.below hq56
      have T1_56 := T1_55.below hq56
      try go_wp2_with fail
      have hk56 := HS12.out _ HX5_56 HX9_56 HX11_56 HX13_56
      refine hK.out _ _ hk56 (fun _ => ?_)
      clear hK K
      try simp only [Act.put, List.setIfInBounds_toArray, List.set_cons_zero, List.set_cons_succ]
      refine wpAnyH_take (i := 22) (oi := { dst := some 110, op := Op.binOp BinOp.neq 4 (Operand.tmp 107) (Operand.tmp 109) 4, type := 4, pos := "laws.go:271", after := #[{ on := 19, ground := Ground.data }, { on := 21, ground := Ground.data }, { on := 17, ground := Ground.guard }], guard := some (17, false) }) (v := ?_) rfl (by kernel_rfl) (by kernel_rfl) (by kernel_rfl) (fun _ _ _ h => h) (Or.inl ⟨by rfl, ?_⟩) (by assumption) ?_
      rotate_left
      · (intro w hSw; (try dsimp only at hSw); go_simp) <;> with_reducible rfl
      try simp only [Act.put, List.setIfInBounds_toArray, List.set_cons_zero, List.set_cons_succ]
      refine wpAnyH_take (i := 23) (oi := { dst := some 111, op := Op.pick (Operand.tmp 105) (Operand.const (Value.bool true)) (Operand.tmp 110), type := 4, pos := "laws.go:271", after := #[{ on := 17, ground := Ground.data }, { on := 22, ground := Ground.data }], guard := none }) (v := ?_) rfl (by kernel_rfl) (by kernel_rfl) (by kernel_rfl) (fun _ _ _ h => h) (Or.inl ⟨by rfl, ?_⟩) (by assumption) ?_
      rotate_left
      · (intro w hSw; (try dsimp only at hSw); go_simp) <;> with_reducible rfl
      try simp only [Act.put, List.setIfInBounds_toArray, List.set_cons_zero, List.set_cons_succ]
      refine wpAnyH_take (i := 24) (oi := { dst := some 112, op := Op.move (Operand.tmp 111), type := 4, pos := "laws.go:271", after := #[{ on := 23, ground := Ground.data }, { on := 21, ground := Ground.chain }], guard := none }) (v := ?_) rfl (by kernel_rfl) (by kernel_rfl) (by kernel_rfl) (fun _ _ _ h => h) (Or.inl ⟨by rfl, ?_⟩) (by assumption) ?_
      rotate_left
      · (intro w hSw; (try dsimp only at hSw); go_simp) <;> with_reducible rfl
      try simp only [Act.put, List.setIfInBounds_toArray, List.set_cons_zero, List.set_cons_succ]
      refine wpAnyH_take (i := 25) (oi := { dst := some 113, op := Op.load 26 (Operand.tmp 5), type := 26, pos := "laws.go:271", after := #[{ on := 24, ground := Ground.guard }], guard := some (24, false) }) (v := ?_) rfl (by kernel_rfl) (by kernel_rfl) (by kernel_rfl) (fun _ _ _ h => h) (Or.inl ⟨by rfl, ?_⟩) (by assumption) ?_
      rotate_left
      · (intro w hSw; (try dsimp only at hSw); go_simp) <;> with_reducible rfl
      try simp only [Act.put, List.setIfInBounds_toArray, List.set_cons_zero, List.set_cons_succ]
      refine wpAnyH_take (i := 27) (oi := { dst := some 115, op := Op.load 26 (Operand.tmp 5), type := 26, pos := "laws.go:271", after := #[{ on := 24, ground := Ground.guard }], guard := some (24, false) }) (v := ?_) rfl (by kernel_rfl) (by kernel_rfl) (by kernel_rfl) (fun _ _ _ h => h) (Or.inl ⟨by rfl, ?_⟩) (by assumption) ?_
      rotate_left
      · (intro w hSw; (try dsimp only at hSw); go_simp) <;> with_reducible rfl
      try simp only [Act.put, List.setIfInBounds_toArray, List.set_cons_zero, List.set_cons_succ]
      refine wpAnyH_ready (rs := [26]) (by kernel_rfl) (by simp) ?_
      refine AllReadyH.cons (o := { dst := some 114, op := Op.call { callee := Callee.value (Operand.func 21), args := #[Operand.tmp 113], argTypes := #[26] }, type := 4, pos := "laws.go:271", after := #[{ on := 25, ground := Ground.data }, { on := 24, ground := Ground.chain }, { on := 24, ground := Ground.guard }], guard := some (24, false) }) rfl (fun K hK => ?_) AllReadyH.nil
      go_simp
      go_at_call 21
      refine (impl_ca _ c5 _ HS5.out HI5_56 HL_56).mono ?_
      rintro e q57 ⟨rfl, hq57⟩
      have HB_57 := HB_56.trans (hq57.mono HB_56.size)
      have HL_57 := HL_56.below hq57
      have HI5_57 := HI5_56.below hq57
      have HX5_57 := HX5_56.below hq57
      have HI8_57 := HI8_56.below hq57
      have HX8_57 := HX8_56.below hq57
      have HI9_57 := HI9_56.below hq57
      have HX9_57 := HX9_56.below hq57
      have HI11_57 := HI11_56.below hq57
      have HX11_57 := HX11_56.below hq57
      have HI13_57 := HI13_56.below hq57
      have HX13_57 := HX13_56.below hq57
      have T1_57 := T1_56.below hq57
      try go_wp2_with fail
      have hk57 := HS12.out _ HX5_57 HX9_57 HX11_57 HX13_57
      refine hK.out _ _ hk57 (fun _ => ?_)
      clear hK K
      try simp only [Act.put, List.setIfInBounds_toArray, List.set_cons_zero, List.set_cons_succ]
      refine wpAnyH_ready (rs := [28]) (by kernel_rfl) (by simp) ?_
      refine AllReadyH.cons (o := { dst := some 116, op := Op.call { callee := Callee.value (Operand.func 22), args := #[Operand.tmp 115], argTypes := #[26] }, type := 4, pos := "laws.go:271", after := #[{ on := 27, ground := Ground.data }, { on := 26, ground := Ground.chain }, { on := 24, ground := Ground.guard }], guard := some (24, false) }) rfl (fun K hK => ?_) AllReadyH.nil
      go_simp
      go_at_call 22
      refine (spec_ca _ c5 _ HS5.out HI5_57).mono ?_
      rintro e q58 ⟨rfl, hq58⟩
      have HB_58 := HB_57.trans (hq58.mono HB_57.size)
      have HL_58 := HL_57.below hq58
      have HI5_58 := HI5_57.below hq58
      have HX5_58 := HX5_57.below hq58
      have HI8_58 := HI8_57.below hq58
      have HX8_58 := HX8_57.below hq58
      have HI9_58 := HI9_57.below hq58
      have HX9_58 := HX9_57.below hq58
      have HI11_58 := HI11_57.below hq58
      have HX11_58 := HX11_57.below hq58
      have HI13_58 := HI13_57.below hq58
      have HX13_58 := HX13_57.below hq58
      have T1_58 := T1_57.below hq58
      try go_wp2_with fail
      have hk58 := HS12.out _ HX5_58 HX9_58 HX11_58 HX13_58
      refine hK.out _ _ hk58 (fun _ => ?_)
      clear hK K
      try simp only [Act.put, List.setIfInBounds_toArray, List.set_cons_zero, List.set_cons_succ]
      refine wpAnyH_take (i := 29) (oi := { dst := some 117, op := Op.binOp BinOp.neq 4 (Operand.tmp 114) (Operand.tmp 116) 4, type := 4, pos := "laws.go:271", after := #[{ on := 26, ground := Ground.data }, { on := 28, ground := Ground.data }, { on := 24, ground := Ground.guard }], guard := some (24, false) }) (v := ?_) rfl (by kernel_rfl) (by kernel_rfl) (by kernel_rfl) (fun _ _ _ h => h) (Or.inl ⟨by rfl, ?_⟩) (by assumption) ?_
      rotate_left
      · (intro w hSw; (try dsimp only at hSw); go_simp) <;> with_reducible rfl
      try simp only [Act.put, List.setIfInBounds_toArray, List.set_cons_zero, List.set_cons_succ]
      refine wpAnyH_take (i := 30) (oi := { dst := some 118, op := Op.pick (Operand.tmp 112) (Operand.const (Value.bool true)) (Operand.tmp 117), type := 4, pos := "laws.go:271", after := #[{ on := 24, ground := Ground.data }, { on := 29, ground := Ground.data }], guard := none }) (v := ?_) rfl (by kernel_rfl) (by kernel_rfl) (by kernel_rfl) (fun _ _ _ h => h) (Or.inl ⟨by rfl, ?_⟩) (by assumption) ?_
      rotate_left
      · (intro w hSw; (try dsimp only at hSw); go_simp) <;> with_reducible rfl
      try simp only [Act.put, List.setIfInBounds_toArray, List.set_cons_zero, List.set_cons_succ]
      refine wpAnyH_done (by kernel_rfl) ?_ _
      have ZHB := hid_intro HB_58
      have ZHL := hid_intro HL_58
      have ZHI5 := hid_intro HI5_58
      have ZHX5 := hid_intro HX5_58
      clear HB_50 HB_51 HB_52 HB_53 HB_54 HB_55 HB_56 HB_57 HB_58 HL_50 HL_51 HL_52 HL_53 HL_54 HL_55 HL_56 HL_57 HL_58 HI5_50 HI5_51 HI5_52 HI5_53 HI5_54 HI5_55 HI5_56 HI5_57 HI5_58 HX5_50 HX5_51 HX5_52 HX5_53 HX5_54 HX5_55 HX5_56 HX5_57 HX5_58 HI8_50 HI8_51 HI8_52 HI8_53 HI8_54 HI8_55 HI8_56 HI8_57 HI8_58 HX8_50 HX8_51 HX8_52 HX8_53 HX8_54 HX8_55 HX8_56 HX8_57 HX8_58 HI9_50 HI9_51 HI9_52 HI9_53 HI9_54 HI9_55 HI9_56 HI9_57 HI9_58 HX9_50 HX9_51 HX9_52 HX9_53 HX9_54 HX9_55 HX9_56 HX9_57 HX9_58 HI11_50 HI11_51 HI11_52 HI11_53 HI11_54 HI11_55 HI11_56 HI11_57 HI11_58 HX11_50 HX11_51 HX11_52 HX11_53 HX11_54 HX11_55 HX11_56 HX11_57 HX11_58 HI13_50 HI13_51 HI13_52 HI13_53 HI13_54 HI13_55 HI13_56 HI13_57 HI13_58 HX13_50 HX13_51 HX13_52 HX13_53 HX13_54 HX13_55 HX13_56 HX13_57 HX13_58
      have x5_0 : q58.cell? ⟨b5, 0, none⟩ = some (.slice ma5 nm5 mc5) := ZHX5.out.2 0 (by simp)
      have xl5 := ZHX5.out.1
      go_wp2_with fail
      clear x5_0 xl5
      go_loopw [14] (fun z wr => ∃ k : Nat, k ≤ nm5 ∧ z = .int .i64 k ∧ Hid (Below w.heap.size w wr) ∧ Hid (Laid wr) ∧ Hid (IsCa (.agg #[.slice ma5 nm5 mc5, .slice ca5 nc5 cc5]) c5 wr) ∧ Hid (Blk b5 [.slice ma5 nm5 mc5, .slice ca5 nc5 cc5] wr)) (fun z _ => nm5 - (intOf z).toNat)
      case atStart => exact ⟨0, by omega, rfl, ZHB, ZHL, ZHI5, ZHX5⟩
      case round =>
        obtain ⟨k, hk, rfl, HB, HL, HI5, HX5⟩ := hrel
        clear ZHB ZHL ZHI5 ZHX5
        have x5_0 : wr.cell? ⟨b5, 0, none⟩ = some (.slice ma5 nm5 mc5) := HX5.out.2 0 (by simp)
        have x5_1 : wr.cell? ⟨b5, 1, none⟩ = some (.slice ca5 nc5 cc5) := HX5.out.2 1 (by simp)
        have xl5 := HX5.out.1
        have hnm5 : nm5 ≤ 1048576 := by rw [← HNM5.out]; exact HS5.out.ml
        by_cases hlt : k < nm5
        · have hlt2 : (k : Int) < (nm5 : Int) := by omega
          go_wp2_with fail
          refine (spec_ca _ c5 _ HS5.out HI5.out).mono ?_
          rintro e w1 ⟨rfl, hb⟩
          replace HB := hid_intro (HB.out.trans (hb.mono HB.out.size))
          replace HL := hid_intro (HL.out.below hb)
          replace HI5 := hid_intro (HI5.out.below hb)
          replace HX5 := hid_intro (HX5.out.below hb)
          clear hb x5_0 x5_1 xl5
          rw [HCB.out]
          have x5_0 : w1.cell? ⟨b5, 0, none⟩ = some (.slice ma5 nm5 mc5) := HX5.out.2 0 (by simp)
          have x5_1 : w1.cell? ⟨b5, 1, none⟩ = some (.slice ca5 nc5 cc5) := HX5.out.2 1 (by simp)
          have xl5 := HX5.out.1
          go_wp2_with fail
          go_ret
          exact ⟨rfl, HB.out⟩
        · have hlt2 : ¬ (k : Int) < (nm5 : Int) := by omega
          go_wp2_with fail
          go_ret
          exact ⟨rfl, HB.out⟩
  · have HCB := hid_intro hcb
    obtain ⟨c', cd', hok', hs', -, -, -, hri', -⟩ := CatR.cread_all t (by rw [HT.out]; unfold caBy; rw [if_pos hcb]; have := caP_size hcb; omega)
    obtain ⟨e1, e2⟩ := hok'.2 c5 hcb HT.out
    rw [e1, e2] at hri'
    have HRT := hid_intro hri'
    have htl : t.toList ≠ [] := list_pos (by rw [HT.out]; exact caBy_pos hcb)
    have htl2 : t.toList.isEmpty = false := by cases h : t.toList; exact absurd h htl; rfl
    clear hok' hs' hri' hcb e1 e2
    by_cases hcd : cd8 = 0
    · subst hcd
      have hb0 := (Below.refl w12.heap.size w12).drew
      have HB_0 := HB.out.trans (hb0.mono HB.out.size)
      have HL_0 := HL.out.below hb0
      have HI5_0 := HI5.out.below hb0
      have HX5_0 := HX5.out.below hb0
      have HI8_0 := HI8.out.below hb0
      have HX8_0 := HX8.out.below hb0
      have HI9_0 := HI9.out.below hb0
      have HX9_0 := HX9.out.below hb0
      have HI11_0 := HI11.out.below hb0
      have HX11_0 := HX11.out.below hb0
      have HI13_0 := HI13.out.below hb0
      have HX13_0 := HX13.out.below hb0
      clear hb0 HB HL HI5 HX5 HI8 HX8 HI9 HX9 HI11 HX11 HI13 HX13
      refine wp_region_held_drew (S := (fun (W : World) => b5 < W.heap.size ∧ W.cell? ⟨b5, 0, none⟩ = some (.slice ma5 nm5 mc5) ∧ W.cell? ⟨b5, 1, none⟩ = some (.slice ca5 nc5 cc5) ∧ b8 < W.heap.size ∧ W.cell? ⟨b8, 0, none⟩ = some (.slice ma8 nm8 mc8) ∧ W.cell? ⟨b8, 1, none⟩ = some (.slice ca8 nc8 cc8) ∧ W.cell? ⟨b8, 2, none⟩ = some (.int .i64 0))) (by kernel_rfl) (HS10.out _ HX5_0 HX8_0) (fun hHeld => ?_)
      generalize w12.drew = kd at *
      refine wpAnyH_take (i := 0) (oi := { dst := some 43, op := Op.move (Operand.tmp 6), type := 9, pos := "laws.go:268", after := #[], guard := none }) (v := ?_) rfl (by kernel_rfl) (by kernel_rfl) (by kernel_rfl) (fun _ _ _ h => h) (Or.inl ⟨by rfl, ?_⟩) (by assumption) ?_
      rotate_left
      · (intro w hSw; (try dsimp only at hSw); go_simp) <;> with_reducible rfl
      try simp only [Act.put, List.setIfInBounds_toArray, List.set_cons_zero, List.set_cons_succ]
      refine wpAnyH_take (i := 1) (oi := { dst := some 44, op := Op.load 26 (Operand.tmp 5), type := 26, pos := "laws.go:268", after := #[], guard := none }) (v := ?_) rfl (by kernel_rfl) (by kernel_rfl) (by kernel_rfl) (fun _ _ _ h => h) (Or.inl ⟨by rfl, ?_⟩) (by assumption) ?_
      rotate_left
      · (intro w hSw; (try dsimp only at hSw); go_simp) <;> with_reducible rfl
      try simp only [Act.put, List.setIfInBounds_toArray, List.set_cons_zero, List.set_cons_succ]
      refine wpAnyH_ready (rs := [2]) (by kernel_rfl) (by simp) ?_
      refine AllReadyH.cons (o := { dst := some 45, op := Op.call { callee := Callee.value (Operand.func 11), args := #[Operand.tmp 44], argTypes := #[26] }, type := 9, pos := "laws.go:268", after := #[{ on := 1, ground := Ground.data }], guard := none }) rfl (fun K hK => ?_) AllReadyH.nil
      go_simp
      go_at_call 11
      refine (CatR.spec_cab _ c5 _ HS5.out HI5_0).mono ?_
      rintro e q1 ⟨he, hq1⟩
      have HB_1 := HB_0.trans (hq1.mono HB_0.size)
      have HL_1 := HL_0.below hq1
      have HI5_1 := HI5_0.below hq1
      have HX5_1 := HX5_0.below hq1
      have HI8_1 := HI8_0.below hq1
      have HX8_1 := HX8_0.below hq1
      have HI9_1 := HI9_0.below hq1
      have HX9_1 := HX9_0.below hq1
      have HI11_1 := HI11_0.below hq1
      have HX11_1 := HX11_0.below hq1
      have HI13_1 := HI13_0.below hq1
      have HX13_1 := HX13_0.below hq1
      rw [← HT.out] at he
      subst he
      try go_wp2_with fail
      have hk1 := HS10.out _ HX5_1 HX8_1
      refine hK.out _ _ hk1 (fun _ => ?_)
      clear hK K
      try simp only [Act.put, List.setIfInBounds_toArray, List.set_cons_zero, List.set_cons_succ]
      refine wpAnyH_take (i := 3) (oi := { dst := some 46, op := Op.binOp BinOp.neq 9 (Operand.tmp 43) (Operand.tmp 45) 9, type := 4, pos := "laws.go:268", after := #[{ on := 0, ground := Ground.data }, { on := 2, ground := Ground.data }], guard := none }) (v := ?_) rfl (by kernel_rfl) (by kernel_rfl) (by kernel_rfl) (fun _ _ _ h => h) (Or.inl ⟨by rfl, ?_⟩) (by assumption) ?_
      rotate_left
      · (intro w hSw; (try dsimp only at hSw); go_simp) <;> with_reducible rfl
      try simp only [Act.put, List.setIfInBounds_toArray, List.set_cons_zero, List.set_cons_succ]
      refine wpAnyH_take (i := 4) (oi := { dst := some 47, op := Op.move (Operand.tmp 46), type := 4, pos := "laws.go:268", after := #[{ on := 3, ground := Ground.data }, { on := 2, ground := Ground.chain }], guard := none }) (v := ?_) rfl (by kernel_rfl) (by kernel_rfl) (by kernel_rfl) (fun _ _ _ h => h) (Or.inl ⟨by rfl, ?_⟩) (by assumption) ?_
      rotate_left
      · (intro w hSw; (try dsimp only at hSw); go_simp) <;> with_reducible rfl
      try simp only [Act.put, List.setIfInBounds_toArray, List.set_cons_zero, List.set_cons_succ]
      refine wpAnyH_take (i := 5) (oi := { dst := some 48, op := Op.move (Operand.tmp 6), type := 9, pos := "laws.go:268", after := #[{ on := 4, ground := Ground.guard }], guard := some (4, false) }) (v := ?_) rfl (by kernel_rfl) (by kernel_rfl) (by kernel_rfl) (fun _ _ _ h => h) (Or.inl ⟨by rfl, ?_⟩) (by assumption) ?_
      rotate_left
      · (intro w hSw; (try dsimp only at hSw); go_simp) <;> with_reducible rfl
      try simp only [Act.put, List.setIfInBounds_toArray, List.set_cons_zero, List.set_cons_succ]
      refine wpAnyH_take (i := 6) (oi := { dst := some 49, op := Op.binOp BinOp.neq 9 (Operand.tmp 48) (Operand.const (Value.string { data := #[] })) 9, type := 4, pos := "laws.go:268", after := #[{ on := 5, ground := Ground.data }, { on := 4, ground := Ground.guard }], guard := some (4, false) }) (v := ?_) rfl (by kernel_rfl) (by kernel_rfl) (by kernel_rfl) (fun _ _ _ h => h) (Or.inl ⟨by rfl, ?_⟩) (by assumption) ?_
      rotate_left
      · (intro w hSw; (try dsimp only at hSw); go_simp) <;> with_reducible rfl
      try simp only [Act.put, List.setIfInBounds_toArray, List.set_cons_zero, List.set_cons_succ]
      refine wpAnyH_take (i := 7) (oi := { dst := some 50, op := Op.move (Operand.tmp 49), type := 4, pos := "laws.go:268", after := #[{ on := 6, ground := Ground.data }, { on := 4, ground := Ground.chain }, { on := 4, ground := Ground.guard }], guard := some (4, false) }) (v := ?_) rfl (by kernel_rfl) (by kernel_rfl) (by kernel_rfl) (fun _ _ _ h => h) (Or.inl ⟨by rfl, ?_⟩) (by assumption) ?_
      rotate_left
      · (intro w hSw; (try dsimp only at hSw); go_simp) <;> with_reducible rfl
      try simp only [Act.put, List.setIfInBounds_toArray, List.set_cons_zero, List.set_cons_succ]
      refine wpAnyH_take (i := 8) (oi := { dst := some 51, op := Op.move (Operand.tmp 6), type := 9, pos := "laws.go:268", after := #[{ on := 7, ground := Ground.guard }], guard := some (7, true) }) (v := ?_) rfl (by kernel_rfl) (by kernel_rfl) (by kernel_rfl) (fun _ _ _ h => h) (Or.inl ⟨by rfl, ?_⟩) (by assumption) ?_
      rotate_left
      · (intro w hSw; (try dsimp only at hSw); go_simp) <;> with_reducible rfl
      try simp only [Act.put, List.setIfInBounds_toArray, List.set_cons_zero, List.set_cons_succ]
      refine wpAnyH_take (i := 11) (oi := { dst := some 54, op := Op.load 26 (Operand.tmp 5), type := 26, pos := "laws.go:268", after := #[{ on := 7, ground := Ground.guard }], guard := some (7, true) }) (v := ?_) rfl (by kernel_rfl) (by kernel_rfl) (by kernel_rfl) (fun _ _ _ h => h) (Or.inl ⟨by rfl, ?_⟩) (by assumption) ?_
      rotate_left
      · (intro w hSw; (try dsimp only at hSw); go_simp) <;> with_reducible rfl
      try simp only [Act.put, List.setIfInBounds_toArray, List.set_cons_zero, List.set_cons_succ]
      refine wpAnyH_ready (rs := [9]) (by kernel_rfl) (by simp) ?_
      refine AllReadyH.cons (o := { dst := some 52, op := Op.call { callee := Callee.value (Operand.func 7), args := #[Operand.tmp 51], argTypes := #[9] }, type := 31, pos := "laws.go:268", after := #[{ on := 8, ground := Ground.data }, { on := 7, ground := Ground.chain }, { on := 7, ground := Ground.guard }], guard := some (7, true) }) rfl (fun K hK => ?_) AllReadyH.nil
      go_simp
      go_at_call 7
      refine (HRT.out _ HL_1).mono ?_
      rintro e q2 ⟨v, rfl, hv, hq2⟩
      have HB_2 := HB_1.trans (hq2.mono HB_1.size)
      have HL_2 := HL_1.below hq2
      have HI5_2 := HI5_1.below hq2
      have HX5_2 := HX5_1.below hq2
      have HI8_2 := HI8_1.below hq2
      have HX8_2 := HX8_1.below hq2
      have HI9_2 := HI9_1.below hq2
      have HX9_2 := HX9_1.below hq2
      have HI11_2 := HI11_1.below hq2
      have HX11_2 := HX11_1.below hq2
      have HI13_2 := HI13_1.below hq2
      have HX13_2 := HX13_1.below hq2
      obtain ⟨ma', mc', ca', cc', rfl, hM', hC'⟩ := hv.reads
      have hI'2 : IsCa (.agg #[.slice ma' c5.ms.length mc', .slice ca' c5.cs.length cc']) c5 q2 := ⟨ma', mc', ca', cc', rfl, hM', hC'⟩
      rw [HNM5.out, HNC5.out] at hI'2 ⊢
      clear hM' hC' hv
      try go_wp2_with fail
      have hk2 := HS10.out _ HX5_2 HX8_2
      refine hK.out _ _ hk2 (fun _ => ?_)
      clear hK K
      try simp only [Act.put, List.setIfInBounds_toArray, List.set_cons_zero, List.set_cons_succ]
      refine wpAnyH_take (i := 10) (oi := { dst := some 53, op := Op.field 31 (Operand.tmp 52) 0, type := 26, pos := "laws.go:268", after := #[{ on := 9, ground := Ground.data }, { on := 7, ground := Ground.guard }], guard := some (7, true) }) (v := ?_) rfl (by kernel_rfl) (by kernel_rfl) (by kernel_rfl) (fun _ _ _ h => h) (Or.inl ⟨by rfl, ?_⟩) (by assumption) ?_
      rotate_left
      · (intro w hSw; (try dsimp only at hSw); go_simp) <;> with_reducible rfl
      try simp only [Act.put, List.setIfInBounds_toArray, List.set_cons_zero, List.set_cons_succ]
      refine wpAnyH_ready (rs := [12]) (by kernel_rfl) (by simp) ?_
      refine AllReadyH.cons (o := { dst := some 55, op := Op.call { callee := Callee.value (Operand.func 12), args := #[Operand.tmp 53, Operand.tmp 54], argTypes := #[26, 26] }, type := 4, pos := "laws.go:268", after := #[{ on := 10, ground := Ground.data }, { on := 11, ground := Ground.data }, { on := 9, ground := Ground.chain }, { on := 7, ground := Ground.guard }], guard := some (7, true) }) rfl (fun K hK => ?_) AllReadyH.nil
      go_simp
      go_at_call 12
      refine (CatR.lwCa_any _ _ c5 _ HS5.out hI'2 HI5_2).mono ?_
      rintro e q3 ⟨rfl, hq3⟩
      have HB_3 := HB_2.trans (hq3.mono HB_2.size)
      have HL_3 := HL_2.below hq3
      have HI5_3 := HI5_2.below hq3
      have HX5_3 := HX5_2.below hq3
      have HI8_3 := HI8_2.below hq3
      have HX8_3 := HX8_2.below hq3
      have HI9_3 := HI9_2.below hq3
      have HX9_3 := HX9_2.below hq3
      have HI11_3 := HI11_2.below hq3
      have HX11_3 := HX11_2.below hq3
      have HI13_3 := HI13_2.below hq3
      have HX13_3 := HX13_2.below hq3
      have I'_3 := hI'2.below hq3
      try go_wp2_with fail
      have hk3 := HS10.out _ HX5_3 HX8_3
      refine hK.out _ _ hk3 (fun _ => ?_)
      clear hK K
      try simp only [Act.put, List.setIfInBounds_toArray, List.set_cons_zero, List.set_cons_succ]
      refine wpAnyH_take (i := 13) (oi := { dst := some 56, op := Op.unOp UnOp.not 4 (Operand.tmp 55), type := 4, pos := "laws.go:268", after := #[{ on := 12, ground := Ground.data }, { on := 7, ground := Ground.guard }], guard := some (7, true) }) (v := ?_) rfl (by kernel_rfl) (by kernel_rfl) (by kernel_rfl) (fun _ _ _ h => h) (Or.inl ⟨by rfl, ?_⟩) (by assumption) ?_
      rotate_left
      · (intro w hSw; (try dsimp only at hSw); go_simp) <;> with_reducible rfl
      try simp only [Act.put, List.setIfInBounds_toArray, List.set_cons_zero, List.set_cons_succ]
      refine wpAnyH_take (i := 14) (oi := { dst := some 57, op := Op.pick (Operand.tmp 50) (Operand.tmp 56) (Operand.const (Value.bool false)), type := 4, pos := "laws.go:268", after := #[{ on := 7, ground := Ground.data }, { on := 13, ground := Ground.data }, { on := 4, ground := Ground.guard }], guard := some (4, false) }) (v := ?_) rfl (by kernel_rfl) (by kernel_rfl) (by kernel_rfl) (fun _ _ _ h => h) (Or.inl ⟨by rfl, ?_⟩) (by assumption) ?_
      rotate_left
      · (intro w hSw; (try dsimp only at hSw); go_simp) <;> with_reducible rfl
      try simp only [Act.put, List.setIfInBounds_toArray, List.set_cons_zero, List.set_cons_succ]
      refine wpAnyH_take (i := 15) (oi := { dst := some 58, op := Op.pick (Operand.tmp 47) (Operand.const (Value.bool true)) (Operand.tmp 57), type := 4, pos := "laws.go:268", after := #[{ on := 4, ground := Ground.data }, { on := 14, ground := Ground.data }], guard := none }) (v := ?_) rfl (by kernel_rfl) (by kernel_rfl) (by kernel_rfl) (fun _ _ _ h => h) (Or.inl ⟨by rfl, ?_⟩) (by assumption) ?_
      rotate_left
      · (intro w hSw; (try dsimp only at hSw); go_simp) <;> with_reducible rfl
      try simp only [Act.put, List.setIfInBounds_toArray, List.set_cons_zero, List.set_cons_succ]
      refine wpAnyH_take (i := 16) (oi := { dst := some 59, op := Op.move (Operand.tmp 58), type := 4, pos := "laws.go:268", after := #[{ on := 15, ground := Ground.data }, { on := 12, ground := Ground.chain }], guard := none }) (v := ?_) rfl (by kernel_rfl) (by kernel_rfl) (by kernel_rfl) (fun _ _ _ h => h) (Or.inl ⟨by rfl, ?_⟩) (by assumption) ?_
      rotate_left
      · (intro w hSw; (try dsimp only at hSw); go_simp) <;> with_reducible rfl
      try simp only [Act.put, List.setIfInBounds_toArray, List.set_cons_zero, List.set_cons_succ]
      refine wpAnyH_take (i := 17) (oi := { dst := some 60, op := Op.fieldAddr 31 (Operand.tmp 8) 1, type := 0, pos := "laws.go:268", after := #[{ on := 16, ground := Ground.guard }], guard := some (16, false) }) (v := ?_) rfl (by kernel_rfl) (by kernel_rfl) (by kernel_rfl) (fun _ _ _ h => h) (Or.inl ⟨by rfl, ?_⟩) (by assumption) ?_
      rotate_left
      · (intro w hSw; (try dsimp only at hSw); go_simp) <;> with_reducible rfl
      try simp only [Act.put, List.setIfInBounds_toArray, List.set_cons_zero, List.set_cons_succ]
      refine wpAnyH_take (i := 18) (oi := { dst := some 61, op := Op.load 2 (Operand.tmp 60), type := 2, pos := "laws.go:268", after := #[{ on := 17, ground := Ground.data }, { on := 16, ground := Ground.guard }], guard := some (16, false) }) (v := ?_) rfl (by kernel_rfl) (by kernel_rfl) (by kernel_rfl) (fun _ _ _ h => h) (Or.inl ⟨by rfl, ?_⟩) (by assumption) ?_
      rotate_left
      · (intro w hSw; (try dsimp only at hSw); go_simp) <;> with_reducible rfl
      try simp only [Act.put, List.setIfInBounds_toArray, List.set_cons_zero, List.set_cons_succ]
      refine wpAnyH_take (i := 19) (oi := { dst := some 62, op := Op.move (Operand.tmp 7), type := 9, pos := "laws.go:268", after := #[{ on := 16, ground := Ground.guard }], guard := some (16, false) }) (v := ?_) rfl (by kernel_rfl) (by kernel_rfl) (by kernel_rfl) (fun _ _ _ h => h) (Or.inl ⟨by rfl, ?_⟩) (by assumption) ?_
      rotate_left
      · (intro w hSw; (try dsimp only at hSw); go_simp) <;> with_reducible rfl
      try simp only [Act.put, List.setIfInBounds_toArray, List.set_cons_zero, List.set_cons_succ]
      refine wpAnyH_ready (rs := [20]) (by kernel_rfl) (by simp) ?_
      refine AllReadyH.cons (o := { dst := some 63, op := Op.call { callee := Callee.value (Operand.func 13), args := #[Operand.tmp 62], argTypes := #[9] }, type := 31, pos := "laws.go:268", after := #[{ on := 19, ground := Ground.data }, { on := 16, ground := Ground.chain }, { on := 16, ground := Ground.guard }], guard := some (16, false) }) rfl (fun K hK => ?_) AllReadyH.nil
      go_simp
      go_at_call 13
      refine (HRS.out _).mono ?_
      rintro e q4 ⟨v, rfl, hv, hq4⟩
      have HB_4 := HB_3.trans (hq4.mono HB_3.size)
      have HL_4 := HL_3.below hq4
      have HI5_4 := HI5_3.below hq4
      have HX5_4 := HX5_3.below hq4
      have HI8_4 := HI8_3.below hq4
      have HX8_4 := HX8_3.below hq4
      have HI9_4 := HI9_3.below hq4
      have HX9_4 := HX9_3.below hq4
      have HI11_4 := HI11_3.below hq4
      have HX11_4 := HX11_3.below hq4
      have HI13_4 := HI13_3.below hq4
      have HX13_4 := HX13_3.below hq4
      have I'_4 := I'_3.below hq4
      obtain ⟨ma', mc', ca', cc', rfl, hM', hC'⟩ := hv.reads
      have hI'4 : IsCa (.agg #[.slice ma' c8.ms.length mc', .slice ca' c8.cs.length cc']) c8 q4 := ⟨ma', mc', ca', cc', rfl, hM', hC'⟩
      rw [HNM8.out, HNC8.out] at hI'4 ⊢
      clear hM' hC' hv
      try go_wp2_with fail
      have hk4 := HS10.out _ HX5_4 HX8_4
      refine hK.out _ _ hk4 (fun _ => ?_)
      clear hK K
      try simp only [Act.put, List.setIfInBounds_toArray, List.set_cons_zero, List.set_cons_succ]
      refine wpAnyH_take (i := 21) (oi := { dst := some 64, op := Op.field 31 (Operand.tmp 63) 1, type := 2, pos := "laws.go:268", after := #[{ on := 20, ground := Ground.data }, { on := 16, ground := Ground.guard }], guard := some (16, false) }) (v := ?_) rfl (by kernel_rfl) (by kernel_rfl) (by kernel_rfl) (fun _ _ _ h => h) (Or.inl ⟨by rfl, ?_⟩) (by assumption) ?_
      rotate_left
      · (intro w hSw; (try dsimp only at hSw); go_simp) <;> with_reducible rfl
      try simp only [Act.put, List.setIfInBounds_toArray, List.set_cons_zero, List.set_cons_succ]
      refine wpAnyH_take (i := 22) (oi := { dst := some 65, op := Op.binOp BinOp.neq 2 (Operand.tmp 61) (Operand.tmp 64) 2, type := 4, pos := "laws.go:268", after := #[{ on := 18, ground := Ground.data }, { on := 21, ground := Ground.data }, { on := 16, ground := Ground.guard }], guard := some (16, false) }) (v := ?_) rfl (by kernel_rfl) (by kernel_rfl) (by kernel_rfl) (fun _ _ _ h => h) (Or.inl ⟨by rfl, ?_⟩) (by assumption) ?_
      rotate_left
      · (intro w hSw; (try dsimp only at hSw); go_simp) <;> with_reducible rfl
      try simp only [Act.put, List.setIfInBounds_toArray, List.set_cons_zero, List.set_cons_succ]
      refine wpAnyH_take (i := 23) (oi := { dst := some 66, op := Op.pick (Operand.tmp 59) (Operand.const (Value.bool true)) (Operand.tmp 65), type := 4, pos := "laws.go:268", after := #[{ on := 16, ground := Ground.data }, { on := 22, ground := Ground.data }], guard := none }) (v := ?_) rfl (by kernel_rfl) (by kernel_rfl) (by kernel_rfl) (fun _ _ _ h => h) (Or.inl ⟨by rfl, ?_⟩) (by assumption) ?_
      rotate_left
      · (intro w hSw; (try dsimp only at hSw); go_simp) <;> with_reducible rfl
      try simp only [Act.put, List.setIfInBounds_toArray, List.set_cons_zero, List.set_cons_succ]
      refine wpAnyH_take (i := 24) (oi := { dst := some 67, op := Op.move (Operand.tmp 66), type := 4, pos := "laws.go:268", after := #[{ on := 23, ground := Ground.data }, { on := 20, ground := Ground.chain }], guard := none }) (v := ?_) rfl (by kernel_rfl) (by kernel_rfl) (by kernel_rfl) (fun _ _ _ h => h) (Or.inl ⟨by rfl, ?_⟩) (by assumption) ?_
      rotate_left
      · (intro w hSw; (try dsimp only at hSw); go_simp) <;> with_reducible rfl
      try simp only [Act.put, List.setIfInBounds_toArray, List.set_cons_zero, List.set_cons_succ]
      refine wpAnyH_take (i := 25) (oi := { dst := some 68, op := Op.fieldAddr 31 (Operand.tmp 8) 0, type := 0, pos := "laws.go:268", after := #[{ on := 24, ground := Ground.guard }], guard := some (24, false) }) (v := ?_) rfl (by kernel_rfl) (by kernel_rfl) (by kernel_rfl) (fun _ _ _ h => h) (Or.inl ⟨by rfl, ?_⟩) (by assumption) ?_
      rotate_left
      · (intro w hSw; (try dsimp only at hSw); go_simp) <;> with_reducible rfl
      try simp only [Act.put, List.setIfInBounds_toArray, List.set_cons_zero, List.set_cons_succ]
      refine wpAnyH_take (i := 26) (oi := { dst := some 69, op := Op.load 26 (Operand.tmp 68), type := 26, pos := "laws.go:268", after := #[{ on := 25, ground := Ground.data }, { on := 24, ground := Ground.guard }], guard := some (24, false) }) (v := ?_) rfl (by kernel_rfl) (by kernel_rfl) (by kernel_rfl) (fun _ _ _ h => h) (Or.inl ⟨by rfl, ?_⟩) (by assumption) ?_
      rotate_left
      · (intro w hSw; (try dsimp only at hSw); go_simp) <;> with_reducible rfl
      try simp only [Act.put, List.setIfInBounds_toArray, List.set_cons_zero, List.set_cons_succ]
      refine wpAnyH_take (i := 27) (oi := { dst := some 70, op := Op.move (Operand.tmp 7), type := 9, pos := "laws.go:268", after := #[{ on := 24, ground := Ground.guard }], guard := some (24, false) }) (v := ?_) rfl (by kernel_rfl) (by kernel_rfl) (by kernel_rfl) (fun _ _ _ h => h) (Or.inl ⟨by rfl, ?_⟩) (by assumption) ?_
      rotate_left
      · (intro w hSw; (try dsimp only at hSw); go_simp) <;> with_reducible rfl
      try simp only [Act.put, List.setIfInBounds_toArray, List.set_cons_zero, List.set_cons_succ]
      refine wpAnyH_ready (rs := [28]) (by kernel_rfl) (by simp) ?_
      refine AllReadyH.cons (o := { dst := some 71, op := Op.call { callee := Callee.value (Operand.func 13), args := #[Operand.tmp 70], argTypes := #[9] }, type := 31, pos := "laws.go:268", after := #[{ on := 27, ground := Ground.data }, { on := 24, ground := Ground.chain }, { on := 24, ground := Ground.guard }], guard := some (24, false) }) rfl (fun K hK => ?_) AllReadyH.nil
      go_simp
      go_at_call 13
      refine (HRS.out _).mono ?_
      rintro e q5 ⟨v, rfl, hv, hq5⟩
      have HB_5 := HB_4.trans (hq5.mono HB_4.size)
      have HL_5 := HL_4.below hq5
      have HI5_5 := HI5_4.below hq5
      have HX5_5 := HX5_4.below hq5
      have HI8_5 := HI8_4.below hq5
      have HX8_5 := HX8_4.below hq5
      have HI9_5 := HI9_4.below hq5
      have HX9_5 := HX9_4.below hq5
      have HI11_5 := HI11_4.below hq5
      have HX11_5 := HX11_4.below hq5
      have HI13_5 := HI13_4.below hq5
      have HX13_5 := HX13_4.below hq5
      have I'_5 := hI'4.below hq5
      obtain ⟨ma', mc', ca', cc', rfl, hM', hC'⟩ := hv.reads
      have hI'5 : IsCa (.agg #[.slice ma' c8.ms.length mc', .slice ca' c8.cs.length cc']) c8 q5 := ⟨ma', mc', ca', cc', rfl, hM', hC'⟩
      rw [HNM8.out, HNC8.out] at hI'5 ⊢
      clear hM' hC' hv
      try go_wp2_with fail
      have hk5 := HS10.out _ HX5_5 HX8_5
      refine hK.out _ _ hk5 (fun _ => ?_)
      clear hK K
      try simp only [Act.put, List.setIfInBounds_toArray, List.set_cons_zero, List.set_cons_succ]
      refine wpAnyH_take (i := 29) (oi := { dst := some 72, op := Op.field 31 (Operand.tmp 71) 0, type := 26, pos := "laws.go:268", after := #[{ on := 28, ground := Ground.data }, { on := 24, ground := Ground.guard }], guard := some (24, false) }) (v := ?_) rfl (by kernel_rfl) (by kernel_rfl) (by kernel_rfl) (fun _ _ _ h => h) (Or.inl ⟨by rfl, ?_⟩) (by assumption) ?_
      rotate_left
      · (intro w hSw; (try dsimp only at hSw); go_simp) <;> with_reducible rfl
      try simp only [Act.put, List.setIfInBounds_toArray, List.set_cons_zero, List.set_cons_succ]
      refine wpAnyH_ready (rs := [30]) (by kernel_rfl) (by simp) ?_
      refine AllReadyH.cons (o := { dst := some 73, op := Op.call { callee := Callee.value (Operand.func 12), args := #[Operand.tmp 69, Operand.tmp 72], argTypes := #[26, 26] }, type := 4, pos := "laws.go:268", after := #[{ on := 26, ground := Ground.data }, { on := 29, ground := Ground.data }, { on := 28, ground := Ground.chain }, { on := 24, ground := Ground.guard }], guard := some (24, false) }) rfl (fun K hK => ?_) AllReadyH.nil
      go_simp
      go_at_call 12
      refine (CatR.lwCa_any _ _ c8 _ HS8.out HI8_5 hI'5).mono ?_
      rintro e q6 ⟨rfl, hq6⟩
      have HB_6 := HB_5.trans (hq6.mono HB_5.size)
      have HL_6 := HL_5.below hq6
      have HI5_6 := HI5_5.below hq6
      have HX5_6 := HX5_5.below hq6
      have HI8_6 := HI8_5.below hq6
      have HX8_6 := HX8_5.below hq6
      have HI9_6 := HI9_5.below hq6
      have HX9_6 := HX9_5.below hq6
      have HI11_6 := HI11_5.below hq6
      have HX11_6 := HX11_5.below hq6
      have HI13_6 := HI13_5.below hq6
      have HX13_6 := HX13_5.below hq6
      have I'_6 := hI'5.below hq6
      try go_wp2_with fail
      have hk6 := HS10.out _ HX5_6 HX8_6
      refine hK.out _ _ hk6 (fun _ => ?_)
      clear hK K
      try simp only [Act.put, List.setIfInBounds_toArray, List.set_cons_zero, List.set_cons_succ]
      refine wpAnyH_take (i := 31) (oi := { dst := some 74, op := Op.unOp UnOp.not 4 (Operand.tmp 73), type := 4, pos := "laws.go:268", after := #[{ on := 30, ground := Ground.data }, { on := 24, ground := Ground.guard }], guard := some (24, false) }) (v := ?_) rfl (by kernel_rfl) (by kernel_rfl) (by kernel_rfl) (fun _ _ _ h => h) (Or.inl ⟨by rfl, ?_⟩) (by assumption) ?_
      rotate_left
      · (intro w hSw; (try dsimp only at hSw); go_simp) <;> with_reducible rfl
      try simp only [Act.put, List.setIfInBounds_toArray, List.set_cons_zero, List.set_cons_succ]
      refine wpAnyH_take (i := 32) (oi := { dst := some 75, op := Op.pick (Operand.tmp 67) (Operand.const (Value.bool true)) (Operand.tmp 74), type := 4, pos := "laws.go:268", after := #[{ on := 24, ground := Ground.data }, { on := 31, ground := Ground.data }], guard := none }) (v := ?_) rfl (by kernel_rfl) (by kernel_rfl) (by kernel_rfl) (fun _ _ _ h => h) (Or.inl ⟨by rfl, ?_⟩) (by assumption) ?_
      rotate_left
      · (intro w hSw; (try dsimp only at hSw); go_simp) <;> with_reducible rfl
      try simp only [Act.put, List.setIfInBounds_toArray, List.set_cons_zero, List.set_cons_succ]
      refine wpAnyH_take (i := 33) (oi := { dst := some 76, op := Op.move (Operand.tmp 75), type := 4, pos := "laws.go:268", after := #[{ on := 32, ground := Ground.data }, { on := 30, ground := Ground.chain }], guard := none }) (v := ?_) rfl (by kernel_rfl) (by kernel_rfl) (by kernel_rfl) (fun _ _ _ h => h) (Or.inl ⟨by rfl, ?_⟩) (by assumption) ?_
      rotate_left
      · (intro w hSw; (try dsimp only at hSw); go_simp) <;> with_reducible rfl
      try simp only [Act.put, List.setIfInBounds_toArray, List.set_cons_zero, List.set_cons_succ]
      refine wpAnyH_take (i := 34) (oi := { dst := some 77, op := Op.fieldAddr 31 (Operand.tmp 8) 1, type := 0, pos := "laws.go:268", after := #[{ on := 33, ground := Ground.guard }], guard := some (33, false) }) (v := ?_) rfl (by kernel_rfl) (by kernel_rfl) (by kernel_rfl) (fun _ _ _ h => h) (Or.inl ⟨by rfl, ?_⟩) (by assumption) ?_
      rotate_left
      · (intro w hSw; (try dsimp only at hSw); go_simp) <;> with_reducible rfl
      try simp only [Act.put, List.setIfInBounds_toArray, List.set_cons_zero, List.set_cons_succ]
      refine wpAnyH_take (i := 35) (oi := { dst := some 78, op := Op.load 2 (Operand.tmp 77), type := 2, pos := "laws.go:268", after := #[{ on := 34, ground := Ground.data }, { on := 33, ground := Ground.guard }], guard := some (33, false) }) (v := ?_) rfl (by kernel_rfl) (by kernel_rfl) (by kernel_rfl) (fun _ _ _ h => h) (Or.inl ⟨by rfl, ?_⟩) (by assumption) ?_
      rotate_left
      · (intro w hSw; (try dsimp only at hSw); go_simp) <;> with_reducible rfl
      try simp only [Act.put, List.setIfInBounds_toArray, List.set_cons_zero, List.set_cons_succ]
      refine wpAnyH_take (i := 36) (oi := { dst := some 79, op := Op.binOp BinOp.eql 2 (Operand.tmp 78) (Operand.const (Value.int IntKind.i64 0)) 2, type := 4, pos := "laws.go:268", after := #[{ on := 35, ground := Ground.data }, { on := 33, ground := Ground.guard }], guard := some (33, false) }) (v := ?_) rfl (by kernel_rfl) (by kernel_rfl) (by kernel_rfl) (fun _ _ _ h => h) (Or.inl ⟨by rfl, ?_⟩) (by assumption) ?_
      rotate_left
      · (intro w hSw; (try dsimp only at hSw); go_simp) <;> with_reducible rfl
      try simp only [Act.put, List.setIfInBounds_toArray, List.set_cons_zero, List.set_cons_succ]
      refine wpAnyH_take (i := 37) (oi := { dst := some 80, op := Op.move (Operand.tmp 79), type := 4, pos := "laws.go:268", after := #[{ on := 36, ground := Ground.data }, { on := 33, ground := Ground.chain }, { on := 33, ground := Ground.guard }], guard := some (33, false) }) (v := ?_) rfl (by kernel_rfl) (by kernel_rfl) (by kernel_rfl) (fun _ _ _ h => h) (Or.inl ⟨by rfl, ?_⟩) (by assumption) ?_
      rotate_left
      · (intro w hSw; (try dsimp only at hSw); go_simp) <;> with_reducible rfl
      try simp only [Act.put, List.setIfInBounds_toArray, List.set_cons_zero, List.set_cons_succ]
      refine wpAnyH_take (i := 38) (oi := { dst := some 81, op := Op.fieldAddr 31 (Operand.tmp 8) 0, type := 0, pos := "laws.go:268", after := #[{ on := 37, ground := Ground.guard }], guard := some (37, true) }) (v := ?_) rfl (by kernel_rfl) (by kernel_rfl) (by kernel_rfl) (fun _ _ _ h => h) (Or.inl ⟨by rfl, ?_⟩) (by assumption) ?_
      rotate_left
      · (intro w hSw; (try dsimp only at hSw); go_simp) <;> with_reducible rfl
      try simp only [Act.put, List.setIfInBounds_toArray, List.set_cons_zero, List.set_cons_succ]
      refine wpAnyH_take (i := 39) (oi := { dst := some 82, op := Op.load 26 (Operand.tmp 81), type := 26, pos := "laws.go:268", after := #[{ on := 38, ground := Ground.data }, { on := 37, ground := Ground.guard }], guard := some (37, true) }) (v := ?_) rfl (by kernel_rfl) (by kernel_rfl) (by kernel_rfl) (fun _ _ _ h => h) (Or.inl ⟨by rfl, ?_⟩) (by assumption) ?_
      rotate_left
      · (intro w hSw; (try dsimp only at hSw); go_simp) <;> with_reducible rfl
      try simp only [Act.put, List.setIfInBounds_toArray, List.set_cons_zero, List.set_cons_succ]
      refine wpAnyH_take (i := 41) (oi := { dst := some 84, op := Op.move (Operand.tmp 7), type := 9, pos := "laws.go:268", after := #[{ on := 37, ground := Ground.guard }], guard := some (37, true) }) (v := ?_) rfl (by kernel_rfl) (by kernel_rfl) (by kernel_rfl) (fun _ _ _ h => h) (Or.inl ⟨by rfl, ?_⟩) (by assumption) ?_
      rotate_left
      · (intro w hSw; (try dsimp only at hSw); go_simp) <;> with_reducible rfl
      try simp only [Act.put, List.setIfInBounds_toArray, List.set_cons_zero, List.set_cons_succ]
      refine wpAnyH_ready (rs := [40]) (by kernel_rfl) (by simp) ?_
      refine AllReadyH.cons (o := { dst := some 83, op := Op.call { callee := Callee.value (Operand.func 5), args := #[Operand.tmp 82], argTypes := #[26] }, type := 9, pos := "laws.go:268", after := #[{ on := 39, ground := Ground.data }, { on := 37, ground := Ground.chain }, { on := 37, ground := Ground.guard }], guard := some (37, true) }) rfl (fun K hK => ?_) AllReadyH.nil
      go_simp
      go_at_call 5
      refine (CatR.impl_cab _ c8 _ HS8.out HI8_6 HL_6).mono ?_
      rintro e q7 ⟨he, hq7⟩
      have HB_7 := HB_6.trans (hq7.mono HB_6.size)
      have HL_7 := HL_6.below hq7
      have HI5_7 := HI5_6.below hq7
      have HX5_7 := HX5_6.below hq7
      have HI8_7 := HI8_6.below hq7
      have HX8_7 := HX8_6.below hq7
      have HI9_7 := HI9_6.below hq7
      have HX9_7 := HX9_6.below hq7
      have HI11_7 := HI11_6.below hq7
      have HX11_7 := HX11_6.below hq7
      have HI13_7 := HI13_6.below hq7
      have HX13_7 := HX13_6.below hq7
      have I'_7 := I'_6.below hq7
      rw [HOK.out.1 rfl] at he
      subst he
      try go_wp2_with fail
      have hk7 := HS10.out _ HX5_7 HX8_7
      refine hK.out _ _ hk7 (fun _ => ?_)
      clear hK K
      try simp only [Act.put, List.setIfInBounds_toArray, List.set_cons_zero, List.set_cons_succ]
      refine wpAnyH_take (i := 42) (oi := { dst := some 85, op := Op.binOp BinOp.neq 9 (Operand.tmp 83) (Operand.tmp 84) 9, type := 4, pos := "laws.go:268", after := #[{ on := 40, ground := Ground.data }, { on := 41, ground := Ground.data }, { on := 37, ground := Ground.guard }], guard := some (37, true) }) (v := ?_) rfl (by kernel_rfl) (by kernel_rfl) (by kernel_rfl) (fun _ _ _ h => h) (Or.inl ⟨by rfl, ?_⟩) (by assumption) ?_
      rotate_left
      · (intro w hSw; (try dsimp only at hSw); go_simp) <;> with_reducible rfl
      try simp only [Act.put, List.setIfInBounds_toArray, List.set_cons_zero, List.set_cons_succ]
      refine wpAnyH_take (i := 43) (oi := { dst := some 86, op := Op.pick (Operand.tmp 80) (Operand.tmp 85) (Operand.const (Value.bool false)), type := 4, pos := "laws.go:268", after := #[{ on := 37, ground := Ground.data }, { on := 42, ground := Ground.data }, { on := 33, ground := Ground.guard }], guard := some (33, false) }) (v := ?_) rfl (by kernel_rfl) (by kernel_rfl) (by kernel_rfl) (fun _ _ _ h => h) (Or.inl ⟨by rfl, ?_⟩) (by assumption) ?_
      rotate_left
      · (intro w hSw; (try dsimp only at hSw); go_simp) <;> with_reducible rfl
      try simp only [Act.put, List.setIfInBounds_toArray, List.set_cons_zero, List.set_cons_succ]
      refine wpAnyH_take (i := 44) (oi := { dst := some 87, op := Op.pick (Operand.tmp 76) (Operand.const (Value.bool true)) (Operand.tmp 86), type := 4, pos := "laws.go:268", after := #[{ on := 33, ground := Ground.data }, { on := 43, ground := Ground.data }], guard := none }) (v := ?_) rfl (by kernel_rfl) (by kernel_rfl) (by kernel_rfl) (fun _ _ _ h => h) (Or.inl ⟨by rfl, ?_⟩) (by assumption) ?_
      rotate_left
      · (intro w hSw; (try dsimp only at hSw); go_simp) <;> with_reducible rfl
      try simp only [Act.put, List.setIfInBounds_toArray, List.set_cons_zero, List.set_cons_succ]
      refine wpAnyH_done (by kernel_rfl) ?_ _
      clear HB_0 HB_1 HB_2 HB_3 HB_4 HB_5 HB_6 HL_0 HL_1 HL_2 HL_3 HL_4 HL_5 HL_6 HI5_0 HI5_1 HI5_2 HI5_3 HI5_4 HI5_5 HI5_6 HX5_0 HX5_1 HX5_2 HX5_3 HX5_4 HX5_5 HX5_6 HI8_0 HI8_1 HI8_2 HI8_3 HI8_4 HI8_5 HI8_6 HX8_0 HX8_1 HX8_2 HX8_3 HX8_4 HX8_5 HX8_6 HI9_0 HI9_1 HI9_2 HI9_3 HI9_4 HI9_5 HI9_6 HX9_0 HX9_1 HX9_2 HX9_3 HX9_4 HX9_5 HX9_6 HI11_0 HI11_1 HI11_2 HI11_3 HI11_4 HI11_5 HI11_6 HX11_0 HX11_1 HX11_2 HX11_3 HX11_4 HX11_5 HX11_6 HI13_0 HI13_1 HI13_2 HI13_3 HI13_4 HI13_5 HI13_6 HX13_0 HX13_1 HX13_2 HX13_3 HX13_4 HX13_5 HX13_6
      have hbz := (Below.refl q7.heap.size q7).drew
      have HB_z := HB_7.trans (hbz.mono HB_7.size)
      have HL_z := HL_7.below hbz
      have HI5_z := HI5_7.below hbz
      have HX5_z := HX5_7.below hbz
      have HI8_z := HI8_7.below hbz
      have HX8_z := HX8_7.below hbz
      have HI9_z := HI9_7.below hbz
      have HX9_z := HX9_7.below hbz
      have HI11_z := HI11_7.below hbz
      have HX11_z := HX11_7.below hbz
      have HI13_z := HI13_7.below hbz
      have HX13_z := HX13_7.below hbz
      clear hbz
      go_wp2_with fail
      refine wp_region_held_drew (S := (fun (W : World) => b5 < W.heap.size ∧ W.cell? ⟨b5, 0, none⟩ = some (.slice ma5 nm5 mc5) ∧ W.cell? ⟨b5, 1, none⟩ = some (.slice ca5 nc5 cc5) ∧ b9 < W.heap.size ∧ W.cell? ⟨b9, 0, none⟩ = some (.slice ma9 nm9 mc9) ∧ W.cell? ⟨b9, 1, none⟩ = some (.slice ca9 nc9 cc9) ∧ b11 < W.heap.size ∧ W.cell? ⟨b11, 0, none⟩ = some (.slice ma11 nm11 mc11) ∧ W.cell? ⟨b11, 1, none⟩ = some (.slice ca11 nc11 cc11) ∧ b13 < W.heap.size ∧ W.cell? ⟨b13, 0, none⟩ = some (.string m.n) ∧ W.cell? ⟨b13, 1, none⟩ = some (.int .i64 m.g) ∧ W.cell? ⟨b13, 2, none⟩ = some (.bool m.wh) ∧ W.cell? ⟨b13, 3, none⟩ = some (.int .i64 m.f) ∧ W.cell? ⟨b13, 4, none⟩ = some (.int .i64 m.l) ∧ W.cell? ⟨b13, 5, none⟩ = some (.slice ta tl tc))) (by kernel_rfl) (HS12.out _ HX5_z HX9_z HX11_z HX13_z) (fun hHeld => ?_)
      generalize q7.drew = kz at *
      refine wpAnyH_take (i := 0) (oi := { dst := some 88, op := Op.load 26 (Operand.tmp 9), type := 26, pos := "laws.go:271", after := #[], guard := none }) (v := ?_) rfl (by kernel_rfl) (by kernel_rfl) (by kernel_rfl) (fun _ _ _ h => h) (Or.inl ⟨by rfl, ?_⟩) (by assumption) ?_
      rotate_left
      · (intro w hSw; (try dsimp only at hSw); go_simp) <;> with_reducible rfl
      try simp only [Act.put, List.setIfInBounds_toArray, List.set_cons_zero, List.set_cons_succ]
      refine wpAnyH_take (i := 1) (oi := { dst := some 89, op := Op.move (Operand.tmp 10), type := 9, pos := "laws.go:271", after := #[], guard := none }) (v := ?_) rfl (by kernel_rfl) (by kernel_rfl) (by kernel_rfl) (fun _ _ _ h => h) (Or.inl ⟨by rfl, ?_⟩) (by assumption) ?_
      rotate_left
      · (intro w hSw; (try dsimp only at hSw); go_simp) <;> with_reducible rfl
      try simp only [Act.put, List.setIfInBounds_toArray, List.set_cons_zero, List.set_cons_succ]
      refine wpAnyH_take (i := 3) (oi := { dst := some 91, op := Op.load 26 (Operand.tmp 9), type := 26, pos := "laws.go:271", after := #[], guard := none }) (v := ?_) rfl (by kernel_rfl) (by kernel_rfl) (by kernel_rfl) (fun _ _ _ h => h) (Or.inl ⟨by rfl, ?_⟩) (by assumption) ?_
      rotate_left
      · (intro w hSw; (try dsimp only at hSw); go_simp) <;> with_reducible rfl
      try simp only [Act.put, List.setIfInBounds_toArray, List.set_cons_zero, List.set_cons_succ]
      refine wpAnyH_take (i := 4) (oi := { dst := some 92, op := Op.move (Operand.tmp 10), type := 9, pos := "laws.go:271", after := #[], guard := none }) (v := ?_) rfl (by kernel_rfl) (by kernel_rfl) (by kernel_rfl) (fun _ _ _ h => h) (Or.inl ⟨by rfl, ?_⟩) (by assumption) ?_
      rotate_left
      · (intro w hSw; (try dsimp only at hSw); go_simp) <;> with_reducible rfl
      try simp only [Act.put, List.setIfInBounds_toArray, List.set_cons_zero, List.set_cons_succ]
      refine wpAnyH_ready (rs := [2]) (by kernel_rfl) (by simp) ?_
      refine AllReadyH.cons (o := { dst := some 90, op := Op.call { callee := Callee.value (Operand.func 15), args := #[Operand.tmp 88, Operand.tmp 89], argTypes := #[26, 9] }, type := 37, pos := "laws.go:271", after := #[{ on := 0, ground := Ground.data }, { on := 1, ground := Ground.data }], guard := none }) rfl (fun K hK => ?_) AllReadyH.nil
      go_simp
      go_at_call 15
      refine (impl_mo _ c9 T9 _ (by have := HTz9.out; omega) HS9.out HI9_z HL_z).mono ?_
      rintro e q50 ⟨ta1, tc1, he, hT0, -, hq50⟩
      have HB_50 := HB_z.trans (hq50.mono HB_z.size)
      have HL_50 := HL_z.below hq50
      have HI5_50 := HI5_z.below hq50
      have HX5_50 := HX5_z.below hq50
      have HI8_50 := HI8_z.below hq50
      have HX8_50 := HX8_z.below hq50
      have HI9_50 := HI9_z.below hq50
      have HX9_50 := HX9_z.below hq50
      have HI11_50 := HI11_z.below hq50
      have HX11_50 := HX11_z.below hq50
      have HI13_50 := HI13_z.below hq50
      have HX13_50 := HX13_z.below hq50
      rw [← HMO.out] at he hT0
      subst he
      have hT150 := hT0
      try go_wp2_with fail
      have hk50 := HS12.out _ HX5_50 HX9_50 HX11_50 HX13_50
      refine hK.out _ _ hk50 (fun _ => ?_)
      clear hK K
      try simp only [Act.put, List.setIfInBounds_toArray, List.set_cons_zero, List.set_cons_succ]
      refine wpAnyH_ready (rs := [5]) (by kernel_rfl) (by simp) ?_
      refine AllReadyH.cons (o := { dst := some 93, op := Op.call { callee := Callee.value (Operand.func 16), args := #[Operand.tmp 91, Operand.tmp 92], argTypes := #[26, 9] }, type := 37, pos := "laws.go:271", after := #[{ on := 3, ground := Ground.data }, { on := 4, ground := Ground.data }, { on := 2, ground := Ground.chain }], guard := none }) rfl (fun K hK => ?_) AllReadyH.nil
      go_simp
      go_at_call 16
      refine (spec_mo _ c9 T9 _ (by have := HTz9.out; omega) HS9.out HI9_50).mono ?_
      rintro e q51 ⟨ta2, tc2, he, hT2, -, hq51⟩
      have HB_51 := HB_50.trans (hq51.mono HB_50.size)
      have HL_51 := HL_50.below hq51
      have HI5_51 := HI5_50.below hq51
      have HX5_51 := HX5_50.below hq51
      have HI8_51 := HI8_50.below hq51
      have HX8_51 := HX8_50.below hq51
      have HI9_51 := HI9_50.below hq51
      have HX9_51 := HX9_50.below hq51
      have HI11_51 := HI11_50.below hq51
      have HX11_51 := HX11_50.below hq51
      have HI13_51 := HI13_50.below hq51
      have HX13_51 := HX13_50.below hq51
      have T1_51 := hT150.below hq51
      rw [← HMO.out] at he hT2
      subst he
      try go_wp2_with fail
      have hk51 := HS12.out _ HX5_51 HX9_51 HX11_51 HX13_51
      refine hK.out _ _ hk51 (fun _ => ?_)
      clear hK K
      try simp only [Act.put, List.setIfInBounds_toArray, List.set_cons_zero, List.set_cons_succ]
      refine wpAnyH_ready (rs := [6]) (by kernel_rfl) (by simp) ?_
      refine AllReadyH.cons (o := { dst := some 94, op := Op.call { callee := Callee.value (Operand.func 14), args := #[Operand.tmp 90, Operand.tmp 93], argTypes := #[37, 37] }, type := 4, pos := "laws.go:271", after := #[{ on := 2, ground := Ground.data }, { on := 5, ground := Ground.data }, { on := 5, ground := Ground.chain }], guard := none }) rfl (fun K hK => ?_) AllReadyH.nil
      go_simp
      go_at_call 14
      refine (lwMe_any _ _ M _ HMS.out.2 ⟨ta1, tc1, rfl, T1_51⟩ ⟨ta2, tc2, rfl, hT2⟩).mono ?_
      rintro e q52 ⟨rfl, hq52⟩
      have HB_52 := HB_51.trans (hq52.mono HB_51.size)
      have HL_52 := HL_51.below hq52
      have HI5_52 := HI5_51.below hq52
      have HX5_52 := HX5_51.below hq52
      have HI8_52 := HI8_51.below hq52
      have HX8_52 := HX8_51.below hq52
      have HI9_52 := HI9_51.below hq52
      have HX9_52 := HX9_51.below hq52
      have HI11_52 := HI11_51.below hq52
      have HX11_52 := HX11_51.below hq52
      have HI13_52 := HI13_51.below hq52
      have HX13_52 := HX13_51.below hq52
      have T1_52 := T1_51.below hq52
      try go_wp2_with fail
      have hk52 := HS12.out _ HX5_52 HX9_52 HX11_52 HX13_52
      refine hK.out _ _ hk52 (fun _ => ?_)
      clear hK K
      try simp only [Act.put, List.setIfInBounds_toArray, List.set_cons_zero, List.set_cons_succ]
      refine wpAnyH_take (i := 7) (oi := { dst := some 95, op := Op.unOp UnOp.not 4 (Operand.tmp 94), type := 4, pos := "laws.go:271", after := #[{ on := 6, ground := Ground.data }], guard := none }) (v := ?_) rfl (by kernel_rfl) (by kernel_rfl) (by kernel_rfl) (fun _ _ _ h => h) (Or.inl ⟨by rfl, ?_⟩) (by assumption) ?_
      rotate_left
      · (intro w hSw; (try dsimp only at hSw); go_simp) <;> with_reducible rfl
      try simp only [Act.put, List.setIfInBounds_toArray, List.set_cons_zero, List.set_cons_succ]
      refine wpAnyH_take (i := 8) (oi := { dst := some 96, op := Op.move (Operand.tmp 95), type := 4, pos := "laws.go:271", after := #[{ on := 7, ground := Ground.data }, { on := 6, ground := Ground.chain }], guard := none }) (v := ?_) rfl (by kernel_rfl) (by kernel_rfl) (by kernel_rfl) (fun _ _ _ h => h) (Or.inl ⟨by rfl, ?_⟩) (by assumption) ?_
      rotate_left
      · (intro w hSw; (try dsimp only at hSw); go_simp) <;> with_reducible rfl
      try simp only [Act.put, List.setIfInBounds_toArray, List.set_cons_zero, List.set_cons_succ]
      refine wpAnyH_take (i := 9) (oi := { dst := some 97, op := Op.load 26 (Operand.tmp 11), type := 26, pos := "laws.go:271", after := #[{ on := 8, ground := Ground.guard }], guard := some (8, false) }) (v := ?_) rfl (by kernel_rfl) (by kernel_rfl) (by kernel_rfl) (fun _ _ _ h => h) (Or.inl ⟨by rfl, ?_⟩) (by assumption) ?_
      rotate_left
      · (intro w hSw; (try dsimp only at hSw); go_simp) <;> with_reducible rfl
      try simp only [Act.put, List.setIfInBounds_toArray, List.set_cons_zero, List.set_cons_succ]
      refine wpAnyH_take (i := 10) (oi := { dst := some 98, op := Op.move (Operand.tmp 12), type := 9, pos := "laws.go:271", after := #[{ on := 8, ground := Ground.guard }], guard := some (8, false) }) (v := ?_) rfl (by kernel_rfl) (by kernel_rfl) (by kernel_rfl) (fun _ _ _ h => h) (Or.inl ⟨by rfl, ?_⟩) (by assumption) ?_
      rotate_left
      · (intro w hSw; (try dsimp only at hSw); go_simp) <;> with_reducible rfl
      try simp only [Act.put, List.setIfInBounds_toArray, List.set_cons_zero, List.set_cons_succ]
      refine wpAnyH_take (i := 12) (oi := { dst := some 100, op := Op.load 26 (Operand.tmp 11), type := 26, pos := "laws.go:271", after := #[{ on := 8, ground := Ground.guard }], guard := some (8, false) }) (v := ?_) rfl (by kernel_rfl) (by kernel_rfl) (by kernel_rfl) (fun _ _ _ h => h) (Or.inl ⟨by rfl, ?_⟩) (by assumption) ?_
      rotate_left
      · (intro w hSw; (try dsimp only at hSw); go_simp) <;> with_reducible rfl
      try simp only [Act.put, List.setIfInBounds_toArray, List.set_cons_zero, List.set_cons_succ]
      refine wpAnyH_take (i := 13) (oi := { dst := some 101, op := Op.move (Operand.tmp 12), type := 9, pos := "laws.go:271", after := #[{ on := 8, ground := Ground.guard }], guard := some (8, false) }) (v := ?_) rfl (by kernel_rfl) (by kernel_rfl) (by kernel_rfl) (fun _ _ _ h => h) (Or.inl ⟨by rfl, ?_⟩) (by assumption) ?_
      rotate_left
      · (intro w hSw; (try dsimp only at hSw); go_simp) <;> with_reducible rfl
      try simp only [Act.put, List.setIfInBounds_toArray, List.set_cons_zero, List.set_cons_succ]
      refine wpAnyH_ready (rs := [11]) (by kernel_rfl) (by simp) ?_
      refine AllReadyH.cons (o := { dst := some 99, op := Op.call { callee := Callee.value (Operand.func 17), args := #[Operand.tmp 97, Operand.tmp 98], argTypes := #[26, 9] }, type := 2, pos := "laws.go:271", after := #[{ on := 9, ground := Ground.data }, { on := 10, ground := Ground.data }, { on := 8, ground := Ground.chain }, { on := 8, ground := Ground.guard }], guard := some (8, false) }) rfl (fun K hK => ?_) AllReadyH.nil
      go_simp
      go_at_call 17
      refine (impl_cr _ c11 T11 _ HS11.out HI11_52 HL_52).mono ?_
      rintro e q53 ⟨rfl, hq53⟩
      have HB_53 := HB_52.trans (hq53.mono HB_52.size)
      have HL_53 := HL_52.below hq53
      have HI5_53 := HI5_52.below hq53
      have HX5_53 := HX5_52.below hq53
      have HI8_53 := HI8_52.below hq53
      have HX8_53 := HX8_52.below hq53
      have HI9_53 := HI9_52.below hq53
      have HX9_53 := HX9_52.below hq53
      have HI11_53 := HI11_52.below hq53
      have HX11_53 := HX11_52.below hq53
      have HI13_53 := HI13_52.below hq53
      have HX13_53 := HX13_52.below hq53
      have T1_53 := T1_52.below hq53
      try go_wp2_with fail
      have hk53 := HS12.out _ HX5_53 HX9_53 HX11_53 HX13_53
      refine hK.out _ _ hk53 (fun _ => ?_)
      clear hK K
      try simp only [Act.put, List.setIfInBounds_toArray, List.set_cons_zero, List.set_cons_succ]
      refine wpAnyH_ready (rs := [14]) (by kernel_rfl) (by simp) ?_
      refine AllReadyH.cons (o := { dst := some 102, op := Op.call { callee := Callee.value (Operand.func 18), args := #[Operand.tmp 100, Operand.tmp 101], argTypes := #[26, 9] }, type := 2, pos := "laws.go:271", after := #[{ on := 12, ground := Ground.data }, { on := 13, ground := Ground.data }, { on := 11, ground := Ground.chain }, { on := 8, ground := Ground.guard }], guard := some (8, false) }) rfl (fun K hK => ?_) AllReadyH.nil
      go_simp
      go_at_call 18
      refine (spec_cr _ c11 T11 _ (by have := HTz11.out; omega) HS11.out HI11_53).mono ?_
      rintro e q54 ⟨rfl, hq54⟩
      have HB_54 := HB_53.trans (hq54.mono HB_53.size)
      have HL_54 := HL_53.below hq54
      have HI5_54 := HI5_53.below hq54
      have HX5_54 := HX5_53.below hq54
      have HI8_54 := HI8_53.below hq54
      have HX8_54 := HX8_53.below hq54
      have HI9_54 := HI9_53.below hq54
      have HX9_54 := HX9_53.below hq54
      have HI11_54 := HI11_53.below hq54
      have HX11_54 := HX11_53.below hq54
      have HI13_54 := HI13_53.below hq54
      have HX13_54 := HX13_53.below hq54
      have T1_54 := T1_53.below hq54
      try go_wp2_with fail
      have hk54 := HS12.out _ HX5_54 HX9_54 HX11_54 HX13_54
      refine hK.out _ _ hk54 (fun _ => ?_)
      clear hK K
      try simp only [Act.put, List.setIfInBounds_toArray, List.set_cons_zero, List.set_cons_succ]
      refine wpAnyH_take (i := 15) (oi := { dst := some 103, op := Op.binOp BinOp.neq 2 (Operand.tmp 99) (Operand.tmp 102) 2, type := 4, pos := "laws.go:271", after := #[{ on := 11, ground := Ground.data }, { on := 14, ground := Ground.data }, { on := 8, ground := Ground.guard }], guard := some (8, false) }) (v := ?_) rfl (by kernel_rfl) (by kernel_rfl) (by kernel_rfl) (fun _ _ _ h => h) (Or.inl ⟨by rfl, ?_⟩) (by assumption) ?_
      rotate_left
      · (intro w hSw; (try dsimp only at hSw); go_simp) <;> with_reducible rfl
      try simp only [Act.put, List.setIfInBounds_toArray, List.set_cons_zero, List.set_cons_succ]
      refine wpAnyH_take (i := 16) (oi := { dst := some 104, op := Op.pick (Operand.tmp 96) (Operand.const (Value.bool true)) (Operand.tmp 103), type := 4, pos := "laws.go:271", after := #[{ on := 8, ground := Ground.data }, { on := 15, ground := Ground.data }], guard := none }) (v := ?_) rfl (by kernel_rfl) (by kernel_rfl) (by kernel_rfl) (fun _ _ _ h => h) (Or.inl ⟨by rfl, ?_⟩) (by assumption) ?_
      rotate_left
      · (intro w hSw; (try dsimp only at hSw); go_simp) <;> with_reducible rfl
      try simp only [Act.put, List.setIfInBounds_toArray, List.set_cons_zero, List.set_cons_succ]
      refine wpAnyH_take (i := 17) (oi := { dst := some 105, op := Op.move (Operand.tmp 104), type := 4, pos := "laws.go:271", after := #[{ on := 16, ground := Ground.data }, { on := 14, ground := Ground.chain }], guard := none }) (v := ?_) rfl (by kernel_rfl) (by kernel_rfl) (by kernel_rfl) (fun _ _ _ h => h) (Or.inl ⟨by rfl, ?_⟩) (by assumption) ?_
      rotate_left
      · (intro w hSw; (try dsimp only at hSw); go_simp) <;> with_reducible rfl
      try simp only [Act.put, List.setIfInBounds_toArray, List.set_cons_zero, List.set_cons_succ]
      refine wpAnyH_take (i := 18) (oi := { dst := some 106, op := Op.load 37 (Operand.tmp 13), type := 37, pos := "laws.go:271", after := #[{ on := 17, ground := Ground.guard }], guard := some (17, false) }) (v := ?_) rfl (by kernel_rfl) (by kernel_rfl) (by kernel_rfl) (fun _ _ _ h => h) (Or.inl ⟨by rfl, ?_⟩) (by assumption) ?_
      rotate_left
      · (intro w hSw; (try dsimp only at hSw); go_simp) <;> with_reducible rfl
      try simp only [Act.put, List.setIfInBounds_toArray, List.set_cons_zero, List.set_cons_succ]
      refine wpAnyH_take (i := 20) (oi := { dst := some 108, op := Op.load 37 (Operand.tmp 13), type := 37, pos := "laws.go:271", after := #[{ on := 17, ground := Ground.guard }], guard := some (17, false) }) (v := ?_) rfl (by kernel_rfl) (by kernel_rfl) (by kernel_rfl) (fun _ _ _ h => h) (Or.inl ⟨by rfl, ?_⟩) (by assumption) ?_
      rotate_left
      · (intro w hSw; (try dsimp only at hSw); go_simp) <;> with_reducible rfl
      try simp only [Act.put, List.setIfInBounds_toArray, List.set_cons_zero, List.set_cons_succ]
      refine wpAnyH_ready (rs := [19]) (by kernel_rfl) (by simp) ?_
      refine AllReadyH.cons (o := { dst := some 107, op := Op.call { callee := Callee.value (Operand.func 19), args := #[Operand.tmp 106], argTypes := #[37] }, type := 4, pos := "laws.go:271", after := #[{ on := 18, ground := Ground.data }, { on := 17, ground := Ground.chain }, { on := 17, ground := Ground.guard }], guard := some (17, false) }) rfl (fun K hK => ?_) AllReadyH.nil
      go_simp
      go_at_call 19
      refine (impl_meter _ m _ (by have := HM1.out; omega) (by have := HM2.out; have := HTL.out; omega) HI13_54).mono ?_
      rintro e q55 ⟨rfl, hq55⟩
      have HB_55 := HB_54.trans (hq55.mono HB_54.size)
      have HL_55 := HL_54.below hq55
      have HI5_55 := HI5_54.below hq55
      have HX5_55 := HX5_54.below hq55
      have HI8_55 := HI8_54.below hq55
      have HX8_55 := HX8_54.below hq55
      have HI9_55 := HI9_54.below hq55
      have HX9_55 := HX9_54.below hq55
      have HI11_55 := HI11_54.below hq55
      have HX11_55 := HX11_54.below hq55
      have HI13_55 := HI13_54.below hq55
      have HX13_55 := HX13_54.below hq55
      have T1_55 := T1_54.below hq55
      try go_wp2_with fail
      have hk55 := HS12.out _ HX5_55 HX9_55 HX11_55 HX13_55
      refine hK.out _ _ hk55 (fun _ => ?_)
      clear hK K
      try simp only [Act.put, List.setIfInBounds_toArray, List.set_cons_zero, List.set_cons_succ]
      refine wpAnyH_ready (rs := [21]) (by kernel_rfl) (by simp) ?_
      refine AllReadyH.cons (o := { dst := some 109, op := Op.call { callee := Callee.value (Operand.func 20), args := #[Operand.tmp 108], argTypes := #[37] }, type := 4, pos := "laws.go:271", after := #[{ on := 20, ground := Ground.data }, { on := 19, ground := Ground.chain }, { on := 17, ground := Ground.guard }], guard := some (17, false) }) rfl (fun K hK => ?_) AllReadyH.nil
      go_simp
      go_at_call 20
      refine (spec_meter _ m _ (by have := HM1.out; omega) (by have := HM2.out; have := HTL.out; omega) HI13_55).mono ?_
      rintro e q56 ⟨rfl, hq56⟩
      have HB_56 := HB_55.trans (hq56.mono HB_55.size)
      have HL_56 := HL_55.below hq56
      have HI5_56 := HI5_55.below hq56
      have HX5_56 := HX5_55.below hq56
      have HI8_56 := HI8_55.below hq56
      have HX8_56 := HX8_55.below hq56
      have HI9_56 := HI9_55.below hq56
      have HX9_56 := HX9_55.below hq56
      have HI11_56 := HI11_55.below hq56
      have HX11_56 := HX11_55.below hq56
      have HI13_56 := HI13_55.below hq56
      have HX13_56 := HX13_55.below hq56
      have T1_56 := T1_55.below hq56
      try go_wp2_with fail
      have hk56 := HS12.out _ HX5_56 HX9_56 HX11_56 HX13_56
      refine hK.out _ _ hk56 (fun _ => ?_)
      clear hK K
      try simp only [Act.put, List.setIfInBounds_toArray, List.set_cons_zero, List.set_cons_succ]
      refine wpAnyH_take (i := 22) (oi := { dst := some 110, op := Op.binOp BinOp.neq 4 (Operand.tmp 107) (Operand.tmp 109) 4, type := 4, pos := "laws.go:271", after := #[{ on := 19, ground := Ground.data }, { on := 21, ground := Ground.data }, { on := 17, ground := Ground.guard }], guard := some (17, false) }) (v := ?_) rfl (by kernel_rfl) (by kernel_rfl) (by kernel_rfl) (fun _ _ _ h => h) (Or.inl ⟨by rfl, ?_⟩) (by assumption) ?_
      rotate_left
      · (intro w hSw; (try dsimp only at hSw); go_simp) <;> with_reducible rfl
      try simp only [Act.put, List.setIfInBounds_toArray, List.set_cons_zero, List.set_cons_succ]
      refine wpAnyH_take (i := 23) (oi := { dst := some 111, op := Op.pick (Operand.tmp 105) (Operand.const (Value.bool true)) (Operand.tmp 110), type := 4, pos := "laws.go:271", after := #[{ on := 17, ground := Ground.data }, { on := 22, ground := Ground.data }], guard := none }) (v := ?_) rfl (by kernel_rfl) (by kernel_rfl) (by kernel_rfl) (fun _ _ _ h => h) (Or.inl ⟨by rfl, ?_⟩) (by assumption) ?_
      rotate_left
      · (intro w hSw; (try dsimp only at hSw); go_simp) <;> with_reducible rfl
      try simp only [Act.put, List.setIfInBounds_toArray, List.set_cons_zero, List.set_cons_succ]
      refine wpAnyH_take (i := 24) (oi := { dst := some 112, op := Op.move (Operand.tmp 111), type := 4, pos := "laws.go:271", after := #[{ on := 23, ground := Ground.data }, { on := 21, ground := Ground.chain }], guard := none }) (v := ?_) rfl (by kernel_rfl) (by kernel_rfl) (by kernel_rfl) (fun _ _ _ h => h) (Or.inl ⟨by rfl, ?_⟩) (by assumption) ?_
      rotate_left
      · (intro w hSw; (try dsimp only at hSw); go_simp) <;> with_reducible rfl
      try simp only [Act.put, List.setIfInBounds_toArray, List.set_cons_zero, List.set_cons_succ]
      refine wpAnyH_take (i := 25) (oi := { dst := some 113, op := Op.load 26 (Operand.tmp 5), type := 26, pos := "laws.go:271", after := #[{ on := 24, ground := Ground.guard }], guard := some (24, false) }) (v := ?_) rfl (by kernel_rfl) (by kernel_rfl) (by kernel_rfl) (fun _ _ _ h => h) (Or.inl ⟨by rfl, ?_⟩) (by assumption) ?_
      rotate_left
      · (intro w hSw; (try dsimp only at hSw); go_simp) <;> with_reducible rfl
      try simp only [Act.put, List.setIfInBounds_toArray, List.set_cons_zero, List.set_cons_succ]
      refine wpAnyH_take (i := 27) (oi := { dst := some 115, op := Op.load 26 (Operand.tmp 5), type := 26, pos := "laws.go:271", after := #[{ on := 24, ground := Ground.guard }], guard := some (24, false) }) (v := ?_) rfl (by kernel_rfl) (by kernel_rfl) (by kernel_rfl) (fun _ _ _ h => h) (Or.inl ⟨by rfl, ?_⟩) (by assumption) ?_
      rotate_left
      · (intro w hSw; (try dsimp only at hSw); go_simp) <;> with_reducible rfl
      try simp only [Act.put, List.setIfInBounds_toArray, List.set_cons_zero, List.set_cons_succ]
      refine wpAnyH_ready (rs := [26]) (by kernel_rfl) (by simp) ?_
      refine AllReadyH.cons (o := { dst := some 114, op := Op.call { callee := Callee.value (Operand.func 21), args := #[Operand.tmp 113], argTypes := #[26] }, type := 4, pos := "laws.go:271", after := #[{ on := 25, ground := Ground.data }, { on := 24, ground := Ground.chain }, { on := 24, ground := Ground.guard }], guard := some (24, false) }) rfl (fun K hK => ?_) AllReadyH.nil
      go_simp
      go_at_call 21
      refine (impl_ca _ c5 _ HS5.out HI5_56 HL_56).mono ?_
      rintro e q57 ⟨rfl, hq57⟩
      have HB_57 := HB_56.trans (hq57.mono HB_56.size)
      have HL_57 := HL_56.below hq57
      have HI5_57 := HI5_56.below hq57
      have HX5_57 := HX5_56.below hq57
      have HI8_57 := HI8_56.below hq57
      have HX8_57 := HX8_56.below hq57
      have HI9_57 := HI9_56.below hq57
      have HX9_57 := HX9_56.below hq57
      have HI11_57 := HI11_56.below hq57
      have HX11_57 := HX11_56.below hq57
      have HI13_57 := HI13_56.below hq57
      have HX13_57 := HX13_56.below hq57
      have T1_57 := T1_56.below hq57
      try go_wp2_with fail
      have hk57 := HS12.out _ HX5_57 HX9_57 HX11_57 HX13_57
      refine hK.out _ _ hk57 (fun _ => ?_)
      clear hK K
      try simp only [Act.put, List.setIfInBounds_toArray, List.set_cons_zero, List.set_cons_succ]
      refine wpAnyH_ready (rs := [28]) (by kernel_rfl) (by simp) ?_
      refine AllReadyH.cons (o := { dst := some 116, op := Op.call { callee := Callee.value (Operand.func 22), args := #[Operand.tmp 115], argTypes := #[26] }, type := 4, pos := "laws.go:271", after := #[{ on := 27, ground := Ground.data }, { on := 26, ground := Ground.chain }, { on := 24, ground := Ground.guard }], guard := some (24, false) }) rfl (fun K hK => ?_) AllReadyH.nil
      go_simp
      go_at_call 22
      refine (spec_ca _ c5 _ HS5.out HI5_57).mono ?_
      rintro e q58 ⟨rfl, hq58⟩
      have HB_58 := HB_57.trans (hq58.mono HB_57.size)
      have HL_58 := HL_57.below hq58
      have HI5_58 := HI5_57.below hq58
      have HX5_58 := HX5_57.below hq58
      have HI8_58 := HI8_57.below hq58
      have HX8_58 := HX8_57.below hq58
      have HI9_58 := HI9_57.below hq58
      have HX9_58 := HX9_57.below hq58
      have HI11_58 := HI11_57.below hq58
      have HX11_58 := HX11_57.below hq58
      have HI13_58 := HI13_57.below hq58
      have HX13_58 := HX13_57.below hq58
      have T1_58 := T1_57.below hq58
      try go_wp2_with fail
      have hk58 := HS12.out _ HX5_58 HX9_58 HX11_58 HX13_58
      refine hK.out _ _ hk58 (fun _ => ?_)
      clear hK K
      try simp only [Act.put, List.setIfInBounds_toArray, List.set_cons_zero, List.set_cons_succ]
      refine wpAnyH_take (i := 29) (oi := { dst := some 117, op := Op.binOp BinOp.neq 4 (Operand.tmp 114) (Operand.tmp 116) 4, type := 4, pos := "laws.go:271", after := #[{ on := 26, ground := Ground.data }, { on := 28, ground := Ground.data }, { on := 24, ground := Ground.guard }], guard := some (24, false) }) (v := ?_) rfl (by kernel_rfl) (by kernel_rfl) (by kernel_rfl) (fun _ _ _ h => h) (Or.inl ⟨by rfl, ?_⟩) (by assumption) ?_
      rotate_left
      · (intro w hSw; (try dsimp only at hSw); go_simp) <;> with_reducible rfl
      try simp only [Act.put, List.setIfInBounds_toArray, List.set_cons_zero, List.set_cons_succ]
      refine wpAnyH_take (i := 30) (oi := { dst := some 118, op := Op.pick (Operand.tmp 112) (Operand.const (Value.bool true)) (Operand.tmp 117), type := 4, pos := "laws.go:271", after := #[{ on := 24, ground := Ground.data }, { on := 29, ground := Ground.data }], guard := none }) (v := ?_) rfl (by kernel_rfl) (by kernel_rfl) (by kernel_rfl) (fun _ _ _ h => h) (Or.inl ⟨by rfl, ?_⟩) (by assumption) ?_
      rotate_left
      · (intro w hSw; (try dsimp only at hSw); go_simp) <;> with_reducible rfl
      try simp only [Act.put, List.setIfInBounds_toArray, List.set_cons_zero, List.set_cons_succ]
      refine wpAnyH_done (by kernel_rfl) ?_ _
      have ZHB := hid_intro HB_58
      have ZHL := hid_intro HL_58
      have ZHI5 := hid_intro HI5_58
      have ZHX5 := hid_intro HX5_58
      clear HB_50 HB_51 HB_52 HB_53 HB_54 HB_55 HB_56 HB_57 HB_58 HL_50 HL_51 HL_52 HL_53 HL_54 HL_55 HL_56 HL_57 HL_58 HI5_50 HI5_51 HI5_52 HI5_53 HI5_54 HI5_55 HI5_56 HI5_57 HI5_58 HX5_50 HX5_51 HX5_52 HX5_53 HX5_54 HX5_55 HX5_56 HX5_57 HX5_58 HI8_50 HI8_51 HI8_52 HI8_53 HI8_54 HI8_55 HI8_56 HI8_57 HI8_58 HX8_50 HX8_51 HX8_52 HX8_53 HX8_54 HX8_55 HX8_56 HX8_57 HX8_58 HI9_50 HI9_51 HI9_52 HI9_53 HI9_54 HI9_55 HI9_56 HI9_57 HI9_58 HX9_50 HX9_51 HX9_52 HX9_53 HX9_54 HX9_55 HX9_56 HX9_57 HX9_58 HI11_50 HI11_51 HI11_52 HI11_53 HI11_54 HI11_55 HI11_56 HI11_57 HI11_58 HX11_50 HX11_51 HX11_52 HX11_53 HX11_54 HX11_55 HX11_56 HX11_57 HX11_58 HI13_50 HI13_51 HI13_52 HI13_53 HI13_54 HI13_55 HI13_56 HI13_57 HI13_58 HX13_50 HX13_51 HX13_52 HX13_53 HX13_54 HX13_55 HX13_56 HX13_57 HX13_58
      have x5_0 : q58.cell? ⟨b5, 0, none⟩ = some (.slice ma5 nm5 mc5) := ZHX5.out.2 0 (by simp)
      have xl5 := ZHX5.out.1
      go_wp2_with fail
      clear x5_0 xl5
      go_loopw [14] (fun z wr => ∃ k : Nat, k ≤ nm5 ∧ z = .int .i64 k ∧ Hid (Below w.heap.size w wr) ∧ Hid (Laid wr) ∧ Hid (IsCa (.agg #[.slice ma5 nm5 mc5, .slice ca5 nc5 cc5]) c5 wr) ∧ Hid (Blk b5 [.slice ma5 nm5 mc5, .slice ca5 nc5 cc5] wr)) (fun z _ => nm5 - (intOf z).toNat)
      case atStart => exact ⟨0, by omega, rfl, ZHB, ZHL, ZHI5, ZHX5⟩
      case round =>
        obtain ⟨k, hk, rfl, HB, HL, HI5, HX5⟩ := hrel
        clear ZHB ZHL ZHI5 ZHX5
        have x5_0 : wr.cell? ⟨b5, 0, none⟩ = some (.slice ma5 nm5 mc5) := HX5.out.2 0 (by simp)
        have x5_1 : wr.cell? ⟨b5, 1, none⟩ = some (.slice ca5 nc5 cc5) := HX5.out.2 1 (by simp)
        have xl5 := HX5.out.1
        have hnm5 : nm5 ≤ 1048576 := by rw [← HNM5.out]; exact HS5.out.ml
        by_cases hlt : k < nm5
        · have hlt2 : (k : Int) < (nm5 : Int) := by omega
          go_wp2_with fail
          refine (spec_ca _ c5 _ HS5.out HI5.out).mono ?_
          rintro e w1 ⟨rfl, hb⟩
          replace HB := hid_intro (HB.out.trans (hb.mono HB.out.size))
          replace HL := hid_intro (HL.out.below hb)
          replace HI5 := hid_intro (HI5.out.below hb)
          replace HX5 := hid_intro (HX5.out.below hb)
          clear hb x5_0 x5_1 xl5
          rw [HCB.out]
          have x5_0 : w1.cell? ⟨b5, 0, none⟩ = some (.slice ma5 nm5 mc5) := HX5.out.2 0 (by simp)
          have x5_1 : w1.cell? ⟨b5, 1, none⟩ = some (.slice ca5 nc5 cc5) := HX5.out.2 1 (by simp)
          have xl5 := HX5.out.1
          obtain ⟨ma', mc', ca', cc', e', hM', -⟩ := HI5.out
          have hkc : k < c5.ms.length := by rw [HNM5.out]; exact hlt
          obtain ⟨b, off, hma, hbl, tb, tcb, d0, d1, d2, d3, d4, d5, hTb⟩ := mes_at hM' k hkc
          have hms := mO_self HCB.out k hkc
          have hsm := HS5.out.ms k hkc
          have d0' : w1.cell? ⟨b, off + k * 6, none⟩ = some (.string (mN c5.ms k)) := d0
          obtain ⟨nk, hnk⟩ : ∃ nk, nk = mN c5.ms k := ⟨_, rfl⟩
          rw [← hnk] at d0' hms
          have hnz : nk.size ≤ 1048576 := by rw [hnk]; exact hsm.1
          obtain ⟨X, hX⟩ : ∃ X, X = c5.ms.getD k Me.zero := ⟨_, rfl⟩
          rw [← hX] at hms hsm d1 d2 d3 d4 d5 hTb
          have hXn : X.n = nk := by rw [hX, hnk]; rfl
          simp only [Value.agg.injEq, Array.mk.injEq, List.cons.injEq, Value.slice.injEq, and_true] at e'
          obtain ⟨⟨rfl, -, rfl⟩, rfl, -, rfl⟩ := e'
          subst hma
          have HTb := hid_intro hTb
          have HSM := hid_intro hsm
          have HMS2 := hid_intro hms
          have HXn := hid_intro hXn
          have HLM : Hid (∀ W, Below w1.heap.size w1 W → ∀ ta1 tc1, Tis ta1 X.ts.length X.ts W → Calls Tryd.prog 14 #[.agg #[.string X.n, .int .i64 X.g, .bool X.wh, .int .i64 X.f, .int .i64 X.l, .slice ta1 X.ts.length tc1], .agg #[.string nk, .int .i64 X.g, .bool X.wh, .int .i64 X.f, .int .i64 X.l, .slice tb X.ts.length tcb]] W fun e w' => e = .returned (.bool true) ∧ Below W.heap.size W w') := hid_intro (fun W hb ta1 tc1 h1 => by rw [← HXn.out]; exact lwMe_any _ _ X W HSM.out.2 ⟨ta1, tc1, rfl, h1⟩ ⟨tb, tcb, rfl, HTb.out.below hb⟩)
          clear hM' hkc d0 hTb hsm hms hnk hX hXn
          have HSX : Hid (∀ W, Below w1.heap.size w1 W → (fun (W : World) => b5 < W.heap.size ∧ W.cell? ⟨b5, 0, none⟩ = some (.slice (some ⟨b, off, none⟩) nm5 mc5) ∧ W.cell? ⟨b5, 1, none⟩ = some (.slice ca5 nc5 cc5) ∧ b < W.heap.size ∧ W.cell? ⟨b, off + k * 6, none⟩ = some (.string nk) ∧ W.cell? ⟨b, off + k * 6 + 1, none⟩ = some (.int .i64 X.g) ∧ W.cell? ⟨b, off + k * 6 + 2, none⟩ = some (.bool X.wh) ∧ W.cell? ⟨b, off + k * 6 + 3, none⟩ = some (.int .i64 X.f) ∧ W.cell? ⟨b, off + k * 6 + 4, none⟩ = some (.int .i64 X.l) ∧ W.cell? ⟨b, off + k * 6 + 5, none⟩ = some (.slice tb X.ts.length tcb)) W) := hid_intro (fun W hb => ⟨by have := hb.size; omega, (hb.cell (p := ⟨b5, 0, none⟩) xl5).trans x5_0, (hb.cell (p := ⟨b5, 1, none⟩) xl5).trans x5_1, by have := hb.size; omega, (hb.cell (p := ⟨b, off + k * 6, none⟩) hbl).trans d0', (hb.cell (p := ⟨b, off + k * 6 + 1, none⟩) hbl).trans d1, (hb.cell (p := ⟨b, off + k * 6 + 2, none⟩) hbl).trans d2, (hb.cell (p := ⟨b, off + k * 6 + 3, none⟩) hbl).trans d3, (hb.cell (p := ⟨b, off + k * 6 + 4, none⟩) hbl).trans d4, (hb.cell (p := ⟨b, off + k * 6 + 5, none⟩) hbl).trans d5⟩)
          go_wp2_with fail
          have hq0 := (Below.refl w1.heap.size w1).drew
          have HQ0 := hid_intro hq0
          clear x5_0 x5_1 d0' d1 d2 d3 d4 d5 hq0
          go_region_held3 (fun (W : World) => b5 < W.heap.size ∧ W.cell? ⟨b5, 0, none⟩ = some (.slice (some ⟨b, off, none⟩) nm5 mc5) ∧ W.cell? ⟨b5, 1, none⟩ = some (.slice ca5 nc5 cc5) ∧ b < W.heap.size ∧ W.cell? ⟨b, off + k * 6, none⟩ = some (.string nk) ∧ W.cell? ⟨b, off + k * 6 + 1, none⟩ = some (.int .i64 X.g) ∧ W.cell? ⟨b, off + k * 6 + 2, none⟩ = some (.bool X.wh) ∧ W.cell? ⟨b, off + k * 6 + 3, none⟩ = some (.int .i64 X.f) ∧ W.cell? ⟨b, off + k * 6 + 4, none⟩ = some (.int .i64 X.l) ∧ W.cell? ⟨b, off + k * 6 + 5, none⟩ = some (.slice tb X.ts.length tcb))
            (first | assumption | exact HSX.out _ HQ0.out | exact HSX.out _ HQ1.out | exact HSX.out _ HQ2.out)
            (first | (go_at_call 15; refine (impl_mo _ c5 nk _ hnz HS5.out (HI5.out.below HQ0.out) (HL.out.below HQ0.out)).mono ?_; rintro e q1 ⟨ta1, tc1, he, hT1, -, hq⟩; rw [HMS2.out] at he hT1; subst he; have HQ1 := hid_intro (HQ0.out.trans (hq.mono HQ0.out.size)); have HT1 := hid_intro hT1; clear hT1 hq) | (go_at_call 14; refine (HLM.out q1 HQ1.out ta1 tc1 HT1.out).mono ?_; rintro e q2 ⟨rfl, hq⟩; have HQ2 := hid_intro (HQ1.out.trans (hq.mono HQ1.out.size)); clear hq))
          have HB2 := hid_intro (HB.out.trans (HQ2.out.mono HB.out.size))
          have HL2 := hid_intro (HL.out.below HQ2.out)
          have HI2 := hid_intro (HI5.out.below HQ2.out)
          have HX2 := hid_intro (HX5.out.below HQ2.out)
          go_simp
          go_wp2_with fail
          go_simp
          refine ⟨⟨_, .int .i64 ((k : Int) + 1), ⟨k + 1, by omega, by go_num⟩, rfl, rfl, HCB.out⟩, ?_⟩
          simp [intOf]
          omega
        · have hlt2 : ¬ (k : Int) < (nm5 : Int) := by omega
          go_wp2_with fail
          go_ret
          exact ⟨rfl, HB.out⟩
    · have hcdb : (cd8 == 0) = false := by simpa using hcd
      have hb0 := (Below.refl w12.heap.size w12).drew
      have HB_0 := HB.out.trans (hb0.mono HB.out.size)
      have HL_0 := HL.out.below hb0
      have HI5_0 := HI5.out.below hb0
      have HX5_0 := HX5.out.below hb0
      have HI8_0 := HI8.out.below hb0
      have HX8_0 := HX8.out.below hb0
      have HI9_0 := HI9.out.below hb0
      have HX9_0 := HX9.out.below hb0
      have HI11_0 := HI11.out.below hb0
      have HX11_0 := HX11.out.below hb0
      have HI13_0 := HI13.out.below hb0
      have HX13_0 := HX13.out.below hb0
      clear hb0 HB HL HI5 HX5 HI8 HX8 HI9 HX9 HI11 HX11 HI13 HX13
      refine wp_region_held_drew (S := (fun (W : World) => b5 < W.heap.size ∧ W.cell? ⟨b5, 0, none⟩ = some (.slice ma5 nm5 mc5) ∧ W.cell? ⟨b5, 1, none⟩ = some (.slice ca5 nc5 cc5) ∧ b8 < W.heap.size ∧ W.cell? ⟨b8, 0, none⟩ = some (.slice ma8 nm8 mc8) ∧ W.cell? ⟨b8, 1, none⟩ = some (.slice ca8 nc8 cc8) ∧ W.cell? ⟨b8, 2, none⟩ = some (.int .i64 cd8))) (by kernel_rfl) (HS10.out _ HX5_0 HX8_0) (fun hHeld => ?_)
      generalize w12.drew = kd at *
      refine wpAnyH_take (i := 0) (oi := { dst := some 43, op := Op.move (Operand.tmp 6), type := 9, pos := "laws.go:268", after := #[], guard := none }) (v := ?_) rfl (by kernel_rfl) (by kernel_rfl) (by kernel_rfl) (fun _ _ _ h => h) (Or.inl ⟨by rfl, ?_⟩) (by assumption) ?_
      rotate_left
      · (intro w hSw; (try dsimp only at hSw); go_simp) <;> with_reducible rfl
      try simp only [Act.put, List.setIfInBounds_toArray, List.set_cons_zero, List.set_cons_succ]
      refine wpAnyH_take (i := 1) (oi := { dst := some 44, op := Op.load 26 (Operand.tmp 5), type := 26, pos := "laws.go:268", after := #[], guard := none }) (v := ?_) rfl (by kernel_rfl) (by kernel_rfl) (by kernel_rfl) (fun _ _ _ h => h) (Or.inl ⟨by rfl, ?_⟩) (by assumption) ?_
      rotate_left
      · (intro w hSw; (try dsimp only at hSw); go_simp) <;> with_reducible rfl
      try simp only [Act.put, List.setIfInBounds_toArray, List.set_cons_zero, List.set_cons_succ]
      refine wpAnyH_ready (rs := [2]) (by kernel_rfl) (by simp) ?_
      refine AllReadyH.cons (o := { dst := some 45, op := Op.call { callee := Callee.value (Operand.func 11), args := #[Operand.tmp 44], argTypes := #[26] }, type := 9, pos := "laws.go:268", after := #[{ on := 1, ground := Ground.data }], guard := none }) rfl (fun K hK => ?_) AllReadyH.nil
      go_simp
      go_at_call 11
      refine (CatR.spec_cab _ c5 _ HS5.out HI5_0).mono ?_
      rintro e q1 ⟨he, hq1⟩
      have HB_1 := HB_0.trans (hq1.mono HB_0.size)
      have HL_1 := HL_0.below hq1
      have HI5_1 := HI5_0.below hq1
      have HX5_1 := HX5_0.below hq1
      have HI8_1 := HI8_0.below hq1
      have HX8_1 := HX8_0.below hq1
      have HI9_1 := HI9_0.below hq1
      have HX9_1 := HX9_0.below hq1
      have HI11_1 := HI11_0.below hq1
      have HX11_1 := HX11_0.below hq1
      have HI13_1 := HI13_0.below hq1
      have HX13_1 := HX13_0.below hq1
      rw [← HT.out] at he
      subst he
      try go_wp2_with fail
      have hk1 := HS10.out _ HX5_1 HX8_1
      refine hK.out _ _ hk1 (fun _ => ?_)
      clear hK K
      try simp only [Act.put, List.setIfInBounds_toArray, List.set_cons_zero, List.set_cons_succ]
      refine wpAnyH_take (i := 3) (oi := { dst := some 46, op := Op.binOp BinOp.neq 9 (Operand.tmp 43) (Operand.tmp 45) 9, type := 4, pos := "laws.go:268", after := #[{ on := 0, ground := Ground.data }, { on := 2, ground := Ground.data }], guard := none }) (v := ?_) rfl (by kernel_rfl) (by kernel_rfl) (by kernel_rfl) (fun _ _ _ h => h) (Or.inl ⟨by rfl, ?_⟩) (by assumption) ?_
      rotate_left
      · (intro w hSw; (try dsimp only at hSw); go_simp) <;> with_reducible rfl
      try simp only [Act.put, List.setIfInBounds_toArray, List.set_cons_zero, List.set_cons_succ]
      refine wpAnyH_take (i := 4) (oi := { dst := some 47, op := Op.move (Operand.tmp 46), type := 4, pos := "laws.go:268", after := #[{ on := 3, ground := Ground.data }, { on := 2, ground := Ground.chain }], guard := none }) (v := ?_) rfl (by kernel_rfl) (by kernel_rfl) (by kernel_rfl) (fun _ _ _ h => h) (Or.inl ⟨by rfl, ?_⟩) (by assumption) ?_
      rotate_left
      · (intro w hSw; (try dsimp only at hSw); go_simp) <;> with_reducible rfl
      try simp only [Act.put, List.setIfInBounds_toArray, List.set_cons_zero, List.set_cons_succ]
      refine wpAnyH_take (i := 5) (oi := { dst := some 48, op := Op.move (Operand.tmp 6), type := 9, pos := "laws.go:268", after := #[{ on := 4, ground := Ground.guard }], guard := some (4, false) }) (v := ?_) rfl (by kernel_rfl) (by kernel_rfl) (by kernel_rfl) (fun _ _ _ h => h) (Or.inl ⟨by rfl, ?_⟩) (by assumption) ?_
      rotate_left
      · (intro w hSw; (try dsimp only at hSw); go_simp) <;> with_reducible rfl
      try simp only [Act.put, List.setIfInBounds_toArray, List.set_cons_zero, List.set_cons_succ]
      refine wpAnyH_take (i := 6) (oi := { dst := some 49, op := Op.binOp BinOp.neq 9 (Operand.tmp 48) (Operand.const (Value.string { data := #[] })) 9, type := 4, pos := "laws.go:268", after := #[{ on := 5, ground := Ground.data }, { on := 4, ground := Ground.guard }], guard := some (4, false) }) (v := ?_) rfl (by kernel_rfl) (by kernel_rfl) (by kernel_rfl) (fun _ _ _ h => h) (Or.inl ⟨by rfl, ?_⟩) (by assumption) ?_
      rotate_left
      · (intro w hSw; (try dsimp only at hSw); go_simp) <;> with_reducible rfl
      try simp only [Act.put, List.setIfInBounds_toArray, List.set_cons_zero, List.set_cons_succ]
      refine wpAnyH_take (i := 7) (oi := { dst := some 50, op := Op.move (Operand.tmp 49), type := 4, pos := "laws.go:268", after := #[{ on := 6, ground := Ground.data }, { on := 4, ground := Ground.chain }, { on := 4, ground := Ground.guard }], guard := some (4, false) }) (v := ?_) rfl (by kernel_rfl) (by kernel_rfl) (by kernel_rfl) (fun _ _ _ h => h) (Or.inl ⟨by rfl, ?_⟩) (by assumption) ?_
      rotate_left
      · (intro w hSw; (try dsimp only at hSw); go_simp) <;> with_reducible rfl
      try simp only [Act.put, List.setIfInBounds_toArray, List.set_cons_zero, List.set_cons_succ]
      refine wpAnyH_take (i := 8) (oi := { dst := some 51, op := Op.move (Operand.tmp 6), type := 9, pos := "laws.go:268", after := #[{ on := 7, ground := Ground.guard }], guard := some (7, true) }) (v := ?_) rfl (by kernel_rfl) (by kernel_rfl) (by kernel_rfl) (fun _ _ _ h => h) (Or.inl ⟨by rfl, ?_⟩) (by assumption) ?_
      rotate_left
      · (intro w hSw; (try dsimp only at hSw); go_simp) <;> with_reducible rfl
      try simp only [Act.put, List.setIfInBounds_toArray, List.set_cons_zero, List.set_cons_succ]
      refine wpAnyH_take (i := 11) (oi := { dst := some 54, op := Op.load 26 (Operand.tmp 5), type := 26, pos := "laws.go:268", after := #[{ on := 7, ground := Ground.guard }], guard := some (7, true) }) (v := ?_) rfl (by kernel_rfl) (by kernel_rfl) (by kernel_rfl) (fun _ _ _ h => h) (Or.inl ⟨by rfl, ?_⟩) (by assumption) ?_
      rotate_left
      · (intro w hSw; (try dsimp only at hSw); go_simp) <;> with_reducible rfl
      try simp only [Act.put, List.setIfInBounds_toArray, List.set_cons_zero, List.set_cons_succ]
      refine wpAnyH_ready (rs := [9]) (by kernel_rfl) (by simp) ?_
      refine AllReadyH.cons (o := { dst := some 52, op := Op.call { callee := Callee.value (Operand.func 7), args := #[Operand.tmp 51], argTypes := #[9] }, type := 31, pos := "laws.go:268", after := #[{ on := 8, ground := Ground.data }, { on := 7, ground := Ground.chain }, { on := 7, ground := Ground.guard }], guard := some (7, true) }) rfl (fun K hK => ?_) AllReadyH.nil
      go_simp
      go_at_call 7
      refine (HRT.out _ HL_1).mono ?_
      rintro e q2 ⟨v, rfl, hv, hq2⟩
      have HB_2 := HB_1.trans (hq2.mono HB_1.size)
      have HL_2 := HL_1.below hq2
      have HI5_2 := HI5_1.below hq2
      have HX5_2 := HX5_1.below hq2
      have HI8_2 := HI8_1.below hq2
      have HX8_2 := HX8_1.below hq2
      have HI9_2 := HI9_1.below hq2
      have HX9_2 := HX9_1.below hq2
      have HI11_2 := HI11_1.below hq2
      have HX11_2 := HX11_1.below hq2
      have HI13_2 := HI13_1.below hq2
      have HX13_2 := HX13_1.below hq2
      obtain ⟨ma', mc', ca', cc', rfl, hM', hC'⟩ := hv.reads
      have hI'2 : IsCa (.agg #[.slice ma' c5.ms.length mc', .slice ca' c5.cs.length cc']) c5 q2 := ⟨ma', mc', ca', cc', rfl, hM', hC'⟩
      rw [HNM5.out, HNC5.out] at hI'2 ⊢
      clear hM' hC' hv
      try go_wp2_with fail
      have hk2 := HS10.out _ HX5_2 HX8_2
      refine hK.out _ _ hk2 (fun _ => ?_)
      clear hK K
      try simp only [Act.put, List.setIfInBounds_toArray, List.set_cons_zero, List.set_cons_succ]
      refine wpAnyH_take (i := 10) (oi := { dst := some 53, op := Op.field 31 (Operand.tmp 52) 0, type := 26, pos := "laws.go:268", after := #[{ on := 9, ground := Ground.data }, { on := 7, ground := Ground.guard }], guard := some (7, true) }) (v := ?_) rfl (by kernel_rfl) (by kernel_rfl) (by kernel_rfl) (fun _ _ _ h => h) (Or.inl ⟨by rfl, ?_⟩) (by assumption) ?_
      rotate_left
      · (intro w hSw; (try dsimp only at hSw); go_simp) <;> with_reducible rfl
      try simp only [Act.put, List.setIfInBounds_toArray, List.set_cons_zero, List.set_cons_succ]
      refine wpAnyH_ready (rs := [12]) (by kernel_rfl) (by simp) ?_
      refine AllReadyH.cons (o := { dst := some 55, op := Op.call { callee := Callee.value (Operand.func 12), args := #[Operand.tmp 53, Operand.tmp 54], argTypes := #[26, 26] }, type := 4, pos := "laws.go:268", after := #[{ on := 10, ground := Ground.data }, { on := 11, ground := Ground.data }, { on := 9, ground := Ground.chain }, { on := 7, ground := Ground.guard }], guard := some (7, true) }) rfl (fun K hK => ?_) AllReadyH.nil
      go_simp
      go_at_call 12
      refine (CatR.lwCa_any _ _ c5 _ HS5.out hI'2 HI5_2).mono ?_
      rintro e q3 ⟨rfl, hq3⟩
      have HB_3 := HB_2.trans (hq3.mono HB_2.size)
      have HL_3 := HL_2.below hq3
      have HI5_3 := HI5_2.below hq3
      have HX5_3 := HX5_2.below hq3
      have HI8_3 := HI8_2.below hq3
      have HX8_3 := HX8_2.below hq3
      have HI9_3 := HI9_2.below hq3
      have HX9_3 := HX9_2.below hq3
      have HI11_3 := HI11_2.below hq3
      have HX11_3 := HX11_2.below hq3
      have HI13_3 := HI13_2.below hq3
      have HX13_3 := HX13_2.below hq3
      have I'_3 := hI'2.below hq3
      try go_wp2_with fail
      have hk3 := HS10.out _ HX5_3 HX8_3
      refine hK.out _ _ hk3 (fun _ => ?_)
      clear hK K
      try simp only [Act.put, List.setIfInBounds_toArray, List.set_cons_zero, List.set_cons_succ]
      refine wpAnyH_take (i := 13) (oi := { dst := some 56, op := Op.unOp UnOp.not 4 (Operand.tmp 55), type := 4, pos := "laws.go:268", after := #[{ on := 12, ground := Ground.data }, { on := 7, ground := Ground.guard }], guard := some (7, true) }) (v := ?_) rfl (by kernel_rfl) (by kernel_rfl) (by kernel_rfl) (fun _ _ _ h => h) (Or.inl ⟨by rfl, ?_⟩) (by assumption) ?_
      rotate_left
      · (intro w hSw; (try dsimp only at hSw); go_simp) <;> with_reducible rfl
      try simp only [Act.put, List.setIfInBounds_toArray, List.set_cons_zero, List.set_cons_succ]
      refine wpAnyH_take (i := 14) (oi := { dst := some 57, op := Op.pick (Operand.tmp 50) (Operand.tmp 56) (Operand.const (Value.bool false)), type := 4, pos := "laws.go:268", after := #[{ on := 7, ground := Ground.data }, { on := 13, ground := Ground.data }, { on := 4, ground := Ground.guard }], guard := some (4, false) }) (v := ?_) rfl (by kernel_rfl) (by kernel_rfl) (by kernel_rfl) (fun _ _ _ h => h) (Or.inl ⟨by rfl, ?_⟩) (by assumption) ?_
      rotate_left
      · (intro w hSw; (try dsimp only at hSw); go_simp) <;> with_reducible rfl
      try simp only [Act.put, List.setIfInBounds_toArray, List.set_cons_zero, List.set_cons_succ]
      refine wpAnyH_take (i := 15) (oi := { dst := some 58, op := Op.pick (Operand.tmp 47) (Operand.const (Value.bool true)) (Operand.tmp 57), type := 4, pos := "laws.go:268", after := #[{ on := 4, ground := Ground.data }, { on := 14, ground := Ground.data }], guard := none }) (v := ?_) rfl (by kernel_rfl) (by kernel_rfl) (by kernel_rfl) (fun _ _ _ h => h) (Or.inl ⟨by rfl, ?_⟩) (by assumption) ?_
      rotate_left
      · (intro w hSw; (try dsimp only at hSw); go_simp) <;> with_reducible rfl
      try simp only [Act.put, List.setIfInBounds_toArray, List.set_cons_zero, List.set_cons_succ]
      refine wpAnyH_take (i := 16) (oi := { dst := some 59, op := Op.move (Operand.tmp 58), type := 4, pos := "laws.go:268", after := #[{ on := 15, ground := Ground.data }, { on := 12, ground := Ground.chain }], guard := none }) (v := ?_) rfl (by kernel_rfl) (by kernel_rfl) (by kernel_rfl) (fun _ _ _ h => h) (Or.inl ⟨by rfl, ?_⟩) (by assumption) ?_
      rotate_left
      · (intro w hSw; (try dsimp only at hSw); go_simp) <;> with_reducible rfl
      try simp only [Act.put, List.setIfInBounds_toArray, List.set_cons_zero, List.set_cons_succ]
      refine wpAnyH_take (i := 17) (oi := { dst := some 60, op := Op.fieldAddr 31 (Operand.tmp 8) 1, type := 0, pos := "laws.go:268", after := #[{ on := 16, ground := Ground.guard }], guard := some (16, false) }) (v := ?_) rfl (by kernel_rfl) (by kernel_rfl) (by kernel_rfl) (fun _ _ _ h => h) (Or.inl ⟨by rfl, ?_⟩) (by assumption) ?_
      rotate_left
      · (intro w hSw; (try dsimp only at hSw); go_simp) <;> with_reducible rfl
      try simp only [Act.put, List.setIfInBounds_toArray, List.set_cons_zero, List.set_cons_succ]
      refine wpAnyH_take (i := 18) (oi := { dst := some 61, op := Op.load 2 (Operand.tmp 60), type := 2, pos := "laws.go:268", after := #[{ on := 17, ground := Ground.data }, { on := 16, ground := Ground.guard }], guard := some (16, false) }) (v := ?_) rfl (by kernel_rfl) (by kernel_rfl) (by kernel_rfl) (fun _ _ _ h => h) (Or.inl ⟨by rfl, ?_⟩) (by assumption) ?_
      rotate_left
      · (intro w hSw; (try dsimp only at hSw); go_simp) <;> with_reducible rfl
      try simp only [Act.put, List.setIfInBounds_toArray, List.set_cons_zero, List.set_cons_succ]
      refine wpAnyH_take (i := 19) (oi := { dst := some 62, op := Op.move (Operand.tmp 7), type := 9, pos := "laws.go:268", after := #[{ on := 16, ground := Ground.guard }], guard := some (16, false) }) (v := ?_) rfl (by kernel_rfl) (by kernel_rfl) (by kernel_rfl) (fun _ _ _ h => h) (Or.inl ⟨by rfl, ?_⟩) (by assumption) ?_
      rotate_left
      · (intro w hSw; (try dsimp only at hSw); go_simp) <;> with_reducible rfl
      try simp only [Act.put, List.setIfInBounds_toArray, List.set_cons_zero, List.set_cons_succ]
      refine wpAnyH_ready (rs := [20]) (by kernel_rfl) (by simp) ?_
      refine AllReadyH.cons (o := { dst := some 63, op := Op.call { callee := Callee.value (Operand.func 13), args := #[Operand.tmp 62], argTypes := #[9] }, type := 31, pos := "laws.go:268", after := #[{ on := 19, ground := Ground.data }, { on := 16, ground := Ground.chain }, { on := 16, ground := Ground.guard }], guard := some (16, false) }) rfl (fun K hK => ?_) AllReadyH.nil
      go_simp
      go_at_call 13
      refine (HRS.out _).mono ?_
      rintro e q4 ⟨v, rfl, hv, hq4⟩
      have HB_4 := HB_3.trans (hq4.mono HB_3.size)
      have HL_4 := HL_3.below hq4
      have HI5_4 := HI5_3.below hq4
      have HX5_4 := HX5_3.below hq4
      have HI8_4 := HI8_3.below hq4
      have HX8_4 := HX8_3.below hq4
      have HI9_4 := HI9_3.below hq4
      have HX9_4 := HX9_3.below hq4
      have HI11_4 := HI11_3.below hq4
      have HX11_4 := HX11_3.below hq4
      have HI13_4 := HI13_3.below hq4
      have HX13_4 := HX13_3.below hq4
      have I'_4 := I'_3.below hq4
      obtain ⟨ma', mc', ca', cc', rfl, hM', hC'⟩ := hv.reads
      have hI'4 : IsCa (.agg #[.slice ma' c8.ms.length mc', .slice ca' c8.cs.length cc']) c8 q4 := ⟨ma', mc', ca', cc', rfl, hM', hC'⟩
      rw [HNM8.out, HNC8.out] at hI'4 ⊢
      clear hM' hC' hv
      try go_wp2_with fail
      have hk4 := HS10.out _ HX5_4 HX8_4
      refine hK.out _ _ hk4 (fun _ => ?_)
      clear hK K
      try simp only [Act.put, List.setIfInBounds_toArray, List.set_cons_zero, List.set_cons_succ]
      refine wpAnyH_take (i := 21) (oi := { dst := some 64, op := Op.field 31 (Operand.tmp 63) 1, type := 2, pos := "laws.go:268", after := #[{ on := 20, ground := Ground.data }, { on := 16, ground := Ground.guard }], guard := some (16, false) }) (v := ?_) rfl (by kernel_rfl) (by kernel_rfl) (by kernel_rfl) (fun _ _ _ h => h) (Or.inl ⟨by rfl, ?_⟩) (by assumption) ?_
      rotate_left
      · (intro w hSw; (try dsimp only at hSw); go_simp) <;> with_reducible rfl
      try simp only [Act.put, List.setIfInBounds_toArray, List.set_cons_zero, List.set_cons_succ]
      refine wpAnyH_take (i := 22) (oi := { dst := some 65, op := Op.binOp BinOp.neq 2 (Operand.tmp 61) (Operand.tmp 64) 2, type := 4, pos := "laws.go:268", after := #[{ on := 18, ground := Ground.data }, { on := 21, ground := Ground.data }, { on := 16, ground := Ground.guard }], guard := some (16, false) }) (v := ?_) rfl (by kernel_rfl) (by kernel_rfl) (by kernel_rfl) (fun _ _ _ h => h) (Or.inl ⟨by rfl, ?_⟩) (by assumption) ?_
      rotate_left
      · (intro w hSw; (try dsimp only at hSw); go_simp) <;> with_reducible rfl
      try simp only [Act.put, List.setIfInBounds_toArray, List.set_cons_zero, List.set_cons_succ]
      refine wpAnyH_take (i := 23) (oi := { dst := some 66, op := Op.pick (Operand.tmp 59) (Operand.const (Value.bool true)) (Operand.tmp 65), type := 4, pos := "laws.go:268", after := #[{ on := 16, ground := Ground.data }, { on := 22, ground := Ground.data }], guard := none }) (v := ?_) rfl (by kernel_rfl) (by kernel_rfl) (by kernel_rfl) (fun _ _ _ h => h) (Or.inl ⟨by rfl, ?_⟩) (by assumption) ?_
      rotate_left
      · (intro w hSw; (try dsimp only at hSw); go_simp) <;> with_reducible rfl
      try simp only [Act.put, List.setIfInBounds_toArray, List.set_cons_zero, List.set_cons_succ]
      refine wpAnyH_take (i := 24) (oi := { dst := some 67, op := Op.move (Operand.tmp 66), type := 4, pos := "laws.go:268", after := #[{ on := 23, ground := Ground.data }, { on := 20, ground := Ground.chain }], guard := none }) (v := ?_) rfl (by kernel_rfl) (by kernel_rfl) (by kernel_rfl) (fun _ _ _ h => h) (Or.inl ⟨by rfl, ?_⟩) (by assumption) ?_
      rotate_left
      · (intro w hSw; (try dsimp only at hSw); go_simp) <;> with_reducible rfl
      try simp only [Act.put, List.setIfInBounds_toArray, List.set_cons_zero, List.set_cons_succ]
      refine wpAnyH_take (i := 25) (oi := { dst := some 68, op := Op.fieldAddr 31 (Operand.tmp 8) 0, type := 0, pos := "laws.go:268", after := #[{ on := 24, ground := Ground.guard }], guard := some (24, false) }) (v := ?_) rfl (by kernel_rfl) (by kernel_rfl) (by kernel_rfl) (fun _ _ _ h => h) (Or.inl ⟨by rfl, ?_⟩) (by assumption) ?_
      rotate_left
      · (intro w hSw; (try dsimp only at hSw); go_simp) <;> with_reducible rfl
      try simp only [Act.put, List.setIfInBounds_toArray, List.set_cons_zero, List.set_cons_succ]
      refine wpAnyH_take (i := 26) (oi := { dst := some 69, op := Op.load 26 (Operand.tmp 68), type := 26, pos := "laws.go:268", after := #[{ on := 25, ground := Ground.data }, { on := 24, ground := Ground.guard }], guard := some (24, false) }) (v := ?_) rfl (by kernel_rfl) (by kernel_rfl) (by kernel_rfl) (fun _ _ _ h => h) (Or.inl ⟨by rfl, ?_⟩) (by assumption) ?_
      rotate_left
      · (intro w hSw; (try dsimp only at hSw); go_simp) <;> with_reducible rfl
      try simp only [Act.put, List.setIfInBounds_toArray, List.set_cons_zero, List.set_cons_succ]
      refine wpAnyH_take (i := 27) (oi := { dst := some 70, op := Op.move (Operand.tmp 7), type := 9, pos := "laws.go:268", after := #[{ on := 24, ground := Ground.guard }], guard := some (24, false) }) (v := ?_) rfl (by kernel_rfl) (by kernel_rfl) (by kernel_rfl) (fun _ _ _ h => h) (Or.inl ⟨by rfl, ?_⟩) (by assumption) ?_
      rotate_left
      · (intro w hSw; (try dsimp only at hSw); go_simp) <;> with_reducible rfl
      try simp only [Act.put, List.setIfInBounds_toArray, List.set_cons_zero, List.set_cons_succ]
      refine wpAnyH_ready (rs := [28]) (by kernel_rfl) (by simp) ?_
      refine AllReadyH.cons (o := { dst := some 71, op := Op.call { callee := Callee.value (Operand.func 13), args := #[Operand.tmp 70], argTypes := #[9] }, type := 31, pos := "laws.go:268", after := #[{ on := 27, ground := Ground.data }, { on := 24, ground := Ground.chain }, { on := 24, ground := Ground.guard }], guard := some (24, false) }) rfl (fun K hK => ?_) AllReadyH.nil
      go_simp
      go_at_call 13
      refine (HRS.out _).mono ?_
      rintro e q5 ⟨v, rfl, hv, hq5⟩
      have HB_5 := HB_4.trans (hq5.mono HB_4.size)
      have HL_5 := HL_4.below hq5
      have HI5_5 := HI5_4.below hq5
      have HX5_5 := HX5_4.below hq5
      have HI8_5 := HI8_4.below hq5
      have HX8_5 := HX8_4.below hq5
      have HI9_5 := HI9_4.below hq5
      have HX9_5 := HX9_4.below hq5
      have HI11_5 := HI11_4.below hq5
      have HX11_5 := HX11_4.below hq5
      have HI13_5 := HI13_4.below hq5
      have HX13_5 := HX13_4.below hq5
      have I'_5 := hI'4.below hq5
      obtain ⟨ma', mc', ca', cc', rfl, hM', hC'⟩ := hv.reads
      have hI'5 : IsCa (.agg #[.slice ma' c8.ms.length mc', .slice ca' c8.cs.length cc']) c8 q5 := ⟨ma', mc', ca', cc', rfl, hM', hC'⟩
      rw [HNM8.out, HNC8.out] at hI'5 ⊢
      clear hM' hC' hv
      try go_wp2_with fail
      have hk5 := HS10.out _ HX5_5 HX8_5
      refine hK.out _ _ hk5 (fun _ => ?_)
      clear hK K
      try simp only [Act.put, List.setIfInBounds_toArray, List.set_cons_zero, List.set_cons_succ]
      refine wpAnyH_take (i := 29) (oi := { dst := some 72, op := Op.field 31 (Operand.tmp 71) 0, type := 26, pos := "laws.go:268", after := #[{ on := 28, ground := Ground.data }, { on := 24, ground := Ground.guard }], guard := some (24, false) }) (v := ?_) rfl (by kernel_rfl) (by kernel_rfl) (by kernel_rfl) (fun _ _ _ h => h) (Or.inl ⟨by rfl, ?_⟩) (by assumption) ?_
      rotate_left
      · (intro w hSw; (try dsimp only at hSw); go_simp) <;> with_reducible rfl
      try simp only [Act.put, List.setIfInBounds_toArray, List.set_cons_zero, List.set_cons_succ]
      refine wpAnyH_ready (rs := [30]) (by kernel_rfl) (by simp) ?_
      refine AllReadyH.cons (o := { dst := some 73, op := Op.call { callee := Callee.value (Operand.func 12), args := #[Operand.tmp 69, Operand.tmp 72], argTypes := #[26, 26] }, type := 4, pos := "laws.go:268", after := #[{ on := 26, ground := Ground.data }, { on := 29, ground := Ground.data }, { on := 28, ground := Ground.chain }, { on := 24, ground := Ground.guard }], guard := some (24, false) }) rfl (fun K hK => ?_) AllReadyH.nil
      go_simp
      go_at_call 12
      refine (CatR.lwCa_any _ _ c8 _ HS8.out HI8_5 hI'5).mono ?_
      rintro e q6 ⟨rfl, hq6⟩
      have HB_6 := HB_5.trans (hq6.mono HB_5.size)
      have HL_6 := HL_5.below hq6
      have HI5_6 := HI5_5.below hq6
      have HX5_6 := HX5_5.below hq6
      have HI8_6 := HI8_5.below hq6
      have HX8_6 := HX8_5.below hq6
      have HI9_6 := HI9_5.below hq6
      have HX9_6 := HX9_5.below hq6
      have HI11_6 := HI11_5.below hq6
      have HX11_6 := HX11_5.below hq6
      have HI13_6 := HI13_5.below hq6
      have HX13_6 := HX13_5.below hq6
      have I'_6 := hI'5.below hq6
      try go_wp2_with fail
      have hk6 := HS10.out _ HX5_6 HX8_6
      refine hK.out _ _ hk6 (fun _ => ?_)
      clear hK K
      try simp only [Act.put, List.setIfInBounds_toArray, List.set_cons_zero, List.set_cons_succ]
      refine wpAnyH_take (i := 31) (oi := { dst := some 74, op := Op.unOp UnOp.not 4 (Operand.tmp 73), type := 4, pos := "laws.go:268", after := #[{ on := 30, ground := Ground.data }, { on := 24, ground := Ground.guard }], guard := some (24, false) }) (v := ?_) rfl (by kernel_rfl) (by kernel_rfl) (by kernel_rfl) (fun _ _ _ h => h) (Or.inl ⟨by rfl, ?_⟩) (by assumption) ?_
      rotate_left
      · (intro w hSw; (try dsimp only at hSw); go_simp) <;> with_reducible rfl
      try simp only [Act.put, List.setIfInBounds_toArray, List.set_cons_zero, List.set_cons_succ]
      refine wpAnyH_take (i := 32) (oi := { dst := some 75, op := Op.pick (Operand.tmp 67) (Operand.const (Value.bool true)) (Operand.tmp 74), type := 4, pos := "laws.go:268", after := #[{ on := 24, ground := Ground.data }, { on := 31, ground := Ground.data }], guard := none }) (v := ?_) rfl (by kernel_rfl) (by kernel_rfl) (by kernel_rfl) (fun _ _ _ h => h) (Or.inl ⟨by rfl, ?_⟩) (by assumption) ?_
      rotate_left
      · (intro w hSw; (try dsimp only at hSw); go_simp) <;> with_reducible rfl
      try simp only [Act.put, List.setIfInBounds_toArray, List.set_cons_zero, List.set_cons_succ]
      refine wpAnyH_take (i := 33) (oi := { dst := some 76, op := Op.move (Operand.tmp 75), type := 4, pos := "laws.go:268", after := #[{ on := 32, ground := Ground.data }, { on := 30, ground := Ground.chain }], guard := none }) (v := ?_) rfl (by kernel_rfl) (by kernel_rfl) (by kernel_rfl) (fun _ _ _ h => h) (Or.inl ⟨by rfl, ?_⟩) (by assumption) ?_
      rotate_left
      · (intro w hSw; (try dsimp only at hSw); go_simp) <;> with_reducible rfl
      try simp only [Act.put, List.setIfInBounds_toArray, List.set_cons_zero, List.set_cons_succ]
      refine wpAnyH_take (i := 34) (oi := { dst := some 77, op := Op.fieldAddr 31 (Operand.tmp 8) 1, type := 0, pos := "laws.go:268", after := #[{ on := 33, ground := Ground.guard }], guard := some (33, false) }) (v := ?_) rfl (by kernel_rfl) (by kernel_rfl) (by kernel_rfl) (fun _ _ _ h => h) (Or.inl ⟨by rfl, ?_⟩) (by assumption) ?_
      rotate_left
      · (intro w hSw; (try dsimp only at hSw); go_simp) <;> with_reducible rfl
      try simp only [Act.put, List.setIfInBounds_toArray, List.set_cons_zero, List.set_cons_succ]
      refine wpAnyH_take (i := 35) (oi := { dst := some 78, op := Op.load 2 (Operand.tmp 77), type := 2, pos := "laws.go:268", after := #[{ on := 34, ground := Ground.data }, { on := 33, ground := Ground.guard }], guard := some (33, false) }) (v := ?_) rfl (by kernel_rfl) (by kernel_rfl) (by kernel_rfl) (fun _ _ _ h => h) (Or.inl ⟨by rfl, ?_⟩) (by assumption) ?_
      rotate_left
      · (intro w hSw; (try dsimp only at hSw); go_simp) <;> with_reducible rfl
      try simp only [Act.put, List.setIfInBounds_toArray, List.set_cons_zero, List.set_cons_succ]
      refine wpAnyH_take (i := 36) (oi := { dst := some 79, op := Op.binOp BinOp.eql 2 (Operand.tmp 78) (Operand.const (Value.int IntKind.i64 0)) 2, type := 4, pos := "laws.go:268", after := #[{ on := 35, ground := Ground.data }, { on := 33, ground := Ground.guard }], guard := some (33, false) }) (v := ?_) rfl (by kernel_rfl) (by kernel_rfl) (by kernel_rfl) (fun _ _ _ h => h) (Or.inl ⟨by rfl, ?_⟩) (by assumption) ?_
      rotate_left
      · (intro w hSw; (try dsimp only at hSw); go_simp) <;> with_reducible rfl
      try simp only [Act.put, List.setIfInBounds_toArray, List.set_cons_zero, List.set_cons_succ]
      refine wpAnyH_take (i := 37) (oi := { dst := some 80, op := Op.move (Operand.tmp 79), type := 4, pos := "laws.go:268", after := #[{ on := 36, ground := Ground.data }, { on := 33, ground := Ground.chain }, { on := 33, ground := Ground.guard }], guard := some (33, false) }) (v := ?_) rfl (by kernel_rfl) (by kernel_rfl) (by kernel_rfl) (fun _ _ _ h => h) (Or.inl ⟨by rfl, ?_⟩) (by assumption) ?_
      rotate_left
      · (intro w hSw; (try dsimp only at hSw); go_simp) <;> with_reducible rfl
      try simp only [Act.put, List.setIfInBounds_toArray, List.set_cons_zero, List.set_cons_succ]
      refine wpAnyH_take (i := 38) (oi := { dst := some 81, op := Op.fieldAddr 31 (Operand.tmp 8) 0, type := 0, pos := "laws.go:268", after := #[{ on := 37, ground := Ground.guard }], guard := some (37, true) }) (v := undef) rfl (by kernel_rfl) (by kernel_rfl) (by kernel_rfl) (fun _ _ _ h => h) (Or.inr ⟨by rfl, rfl⟩) (by assumption) ?_
      try simp only [Act.put, List.setIfInBounds_toArray, List.set_cons_zero, List.set_cons_succ]
      refine wpAnyH_take (i := 39) (oi := { dst := some 82, op := Op.load 26 (Operand.tmp 81), type := 26, pos := "laws.go:268", after := #[{ on := 38, ground := Ground.data }, { on := 37, ground := Ground.guard }], guard := some (37, true) }) (v := undef) rfl (by kernel_rfl) (by kernel_rfl) (by kernel_rfl) (fun _ _ _ h => h) (Or.inr ⟨by rfl, rfl⟩) (by assumption) ?_
      try simp only [Act.put, List.setIfInBounds_toArray, List.set_cons_zero, List.set_cons_succ]
      refine wpAnyH_take (i := 40) (oi := { dst := some 83, op := Op.call { callee := Callee.value (Operand.func 5), args := #[Operand.tmp 82], argTypes := #[26] }, type := 9, pos := "laws.go:268", after := #[{ on := 39, ground := Ground.data }, { on := 37, ground := Ground.chain }, { on := 37, ground := Ground.guard }], guard := some (37, true) }) (v := undef) rfl (by kernel_rfl) (by kernel_rfl) (by kernel_rfl) (fun _ _ _ h => h) (Or.inr ⟨by rfl, rfl⟩) (by assumption) ?_
      try simp only [Act.put, List.setIfInBounds_toArray, List.set_cons_zero, List.set_cons_succ]
      refine wpAnyH_take (i := 41) (oi := { dst := some 84, op := Op.move (Operand.tmp 7), type := 9, pos := "laws.go:268", after := #[{ on := 37, ground := Ground.guard }], guard := some (37, true) }) (v := undef) rfl (by kernel_rfl) (by kernel_rfl) (by kernel_rfl) (fun _ _ _ h => h) (Or.inr ⟨by rfl, rfl⟩) (by assumption) ?_
      try simp only [Act.put, List.setIfInBounds_toArray, List.set_cons_zero, List.set_cons_succ]
      refine wpAnyH_take (i := 42) (oi := { dst := some 85, op := Op.binOp BinOp.neq 9 (Operand.tmp 83) (Operand.tmp 84) 9, type := 4, pos := "laws.go:268", after := #[{ on := 40, ground := Ground.data }, { on := 41, ground := Ground.data }, { on := 37, ground := Ground.guard }], guard := some (37, true) }) (v := undef) rfl (by kernel_rfl) (by kernel_rfl) (by kernel_rfl) (fun _ _ _ h => h) (Or.inr ⟨by rfl, rfl⟩) (by assumption) ?_
      try simp only [Act.put, List.setIfInBounds_toArray, List.set_cons_zero, List.set_cons_succ]
      refine wpAnyH_take (i := 43) (oi := { dst := some 86, op := Op.pick (Operand.tmp 80) (Operand.tmp 85) (Operand.const (Value.bool false)), type := 4, pos := "laws.go:268", after := #[{ on := 37, ground := Ground.data }, { on := 42, ground := Ground.data }, { on := 33, ground := Ground.guard }], guard := some (33, false) }) (v := ?_) rfl (by kernel_rfl) (by kernel_rfl) (by kernel_rfl) (fun _ _ _ h => h) (Or.inl ⟨by rfl, ?_⟩) (by assumption) ?_
      rotate_left
      · (intro w hSw; (try dsimp only at hSw); go_simp) <;> with_reducible rfl
      try simp only [Act.put, List.setIfInBounds_toArray, List.set_cons_zero, List.set_cons_succ]
      refine wpAnyH_take (i := 44) (oi := { dst := some 87, op := Op.pick (Operand.tmp 76) (Operand.const (Value.bool true)) (Operand.tmp 86), type := 4, pos := "laws.go:268", after := #[{ on := 33, ground := Ground.data }, { on := 43, ground := Ground.data }], guard := none }) (v := ?_) rfl (by kernel_rfl) (by kernel_rfl) (by kernel_rfl) (fun _ _ _ h => h) (Or.inl ⟨by rfl, ?_⟩) (by assumption) ?_
      rotate_left
      · (intro w hSw; (try dsimp only at hSw); go_simp) <;> with_reducible rfl
      try simp only [Act.put, List.setIfInBounds_toArray, List.set_cons_zero, List.set_cons_succ]
      refine wpAnyH_done (by kernel_rfl) ?_ _
      clear HB_0 HB_1 HB_2 HB_3 HB_4 HB_5 HL_0 HL_1 HL_2 HL_3 HL_4 HL_5 HI5_0 HI5_1 HI5_2 HI5_3 HI5_4 HI5_5 HX5_0 HX5_1 HX5_2 HX5_3 HX5_4 HX5_5 HI8_0 HI8_1 HI8_2 HI8_3 HI8_4 HI8_5 HX8_0 HX8_1 HX8_2 HX8_3 HX8_4 HX8_5 HI9_0 HI9_1 HI9_2 HI9_3 HI9_4 HI9_5 HX9_0 HX9_1 HX9_2 HX9_3 HX9_4 HX9_5 HI11_0 HI11_1 HI11_2 HI11_3 HI11_4 HI11_5 HX11_0 HX11_1 HX11_2 HX11_3 HX11_4 HX11_5 HI13_0 HI13_1 HI13_2 HI13_3 HI13_4 HI13_5 HX13_0 HX13_1 HX13_2 HX13_3 HX13_4 HX13_5
      have hbz := (Below.refl q6.heap.size q6).drew
      have HB_z := HB_6.trans (hbz.mono HB_6.size)
      have HL_z := HL_6.below hbz
      have HI5_z := HI5_6.below hbz
      have HX5_z := HX5_6.below hbz
      have HI8_z := HI8_6.below hbz
      have HX8_z := HX8_6.below hbz
      have HI9_z := HI9_6.below hbz
      have HX9_z := HX9_6.below hbz
      have HI11_z := HI11_6.below hbz
      have HX11_z := HX11_6.below hbz
      have HI13_z := HI13_6.below hbz
      have HX13_z := HX13_6.below hbz
      clear hbz
      go_wp2_with fail
      refine wp_region_held_drew (S := (fun (W : World) => b5 < W.heap.size ∧ W.cell? ⟨b5, 0, none⟩ = some (.slice ma5 nm5 mc5) ∧ W.cell? ⟨b5, 1, none⟩ = some (.slice ca5 nc5 cc5) ∧ b9 < W.heap.size ∧ W.cell? ⟨b9, 0, none⟩ = some (.slice ma9 nm9 mc9) ∧ W.cell? ⟨b9, 1, none⟩ = some (.slice ca9 nc9 cc9) ∧ b11 < W.heap.size ∧ W.cell? ⟨b11, 0, none⟩ = some (.slice ma11 nm11 mc11) ∧ W.cell? ⟨b11, 1, none⟩ = some (.slice ca11 nc11 cc11) ∧ b13 < W.heap.size ∧ W.cell? ⟨b13, 0, none⟩ = some (.string m.n) ∧ W.cell? ⟨b13, 1, none⟩ = some (.int .i64 m.g) ∧ W.cell? ⟨b13, 2, none⟩ = some (.bool m.wh) ∧ W.cell? ⟨b13, 3, none⟩ = some (.int .i64 m.f) ∧ W.cell? ⟨b13, 4, none⟩ = some (.int .i64 m.l) ∧ W.cell? ⟨b13, 5, none⟩ = some (.slice ta tl tc))) (by kernel_rfl) (HS12.out _ HX5_z HX9_z HX11_z HX13_z) (fun hHeld => ?_)
      generalize q6.drew = kz at *
      refine wpAnyH_take (i := 0) (oi := { dst := some 88, op := Op.load 26 (Operand.tmp 9), type := 26, pos := "laws.go:271", after := #[], guard := none }) (v := ?_) rfl (by kernel_rfl) (by kernel_rfl) (by kernel_rfl) (fun _ _ _ h => h) (Or.inl ⟨by rfl, ?_⟩) (by assumption) ?_
      rotate_left
      · (intro w hSw; (try dsimp only at hSw); go_simp) <;> with_reducible rfl
      try simp only [Act.put, List.setIfInBounds_toArray, List.set_cons_zero, List.set_cons_succ]
      refine wpAnyH_take (i := 1) (oi := { dst := some 89, op := Op.move (Operand.tmp 10), type := 9, pos := "laws.go:271", after := #[], guard := none }) (v := ?_) rfl (by kernel_rfl) (by kernel_rfl) (by kernel_rfl) (fun _ _ _ h => h) (Or.inl ⟨by rfl, ?_⟩) (by assumption) ?_
      rotate_left
      · (intro w hSw; (try dsimp only at hSw); go_simp) <;> with_reducible rfl
      try simp only [Act.put, List.setIfInBounds_toArray, List.set_cons_zero, List.set_cons_succ]
      refine wpAnyH_take (i := 3) (oi := { dst := some 91, op := Op.load 26 (Operand.tmp 9), type := 26, pos := "laws.go:271", after := #[], guard := none }) (v := ?_) rfl (by kernel_rfl) (by kernel_rfl) (by kernel_rfl) (fun _ _ _ h => h) (Or.inl ⟨by rfl, ?_⟩) (by assumption) ?_
      rotate_left
      · (intro w hSw; (try dsimp only at hSw); go_simp) <;> with_reducible rfl
      try simp only [Act.put, List.setIfInBounds_toArray, List.set_cons_zero, List.set_cons_succ]
      refine wpAnyH_take (i := 4) (oi := { dst := some 92, op := Op.move (Operand.tmp 10), type := 9, pos := "laws.go:271", after := #[], guard := none }) (v := ?_) rfl (by kernel_rfl) (by kernel_rfl) (by kernel_rfl) (fun _ _ _ h => h) (Or.inl ⟨by rfl, ?_⟩) (by assumption) ?_
      rotate_left
      · (intro w hSw; (try dsimp only at hSw); go_simp) <;> with_reducible rfl
      try simp only [Act.put, List.setIfInBounds_toArray, List.set_cons_zero, List.set_cons_succ]
      refine wpAnyH_ready (rs := [2]) (by kernel_rfl) (by simp) ?_
      refine AllReadyH.cons (o := { dst := some 90, op := Op.call { callee := Callee.value (Operand.func 15), args := #[Operand.tmp 88, Operand.tmp 89], argTypes := #[26, 9] }, type := 37, pos := "laws.go:271", after := #[{ on := 0, ground := Ground.data }, { on := 1, ground := Ground.data }], guard := none }) rfl (fun K hK => ?_) AllReadyH.nil
      go_simp
      go_at_call 15
      refine (impl_mo _ c9 T9 _ (by have := HTz9.out; omega) HS9.out HI9_z HL_z).mono ?_
      rintro e q50 ⟨ta1, tc1, he, hT0, -, hq50⟩
      have HB_50 := HB_z.trans (hq50.mono HB_z.size)
      have HL_50 := HL_z.below hq50
      have HI5_50 := HI5_z.below hq50
      have HX5_50 := HX5_z.below hq50
      have HI8_50 := HI8_z.below hq50
      have HX8_50 := HX8_z.below hq50
      have HI9_50 := HI9_z.below hq50
      have HX9_50 := HX9_z.below hq50
      have HI11_50 := HI11_z.below hq50
      have HX11_50 := HX11_z.below hq50
      have HI13_50 := HI13_z.below hq50
      have HX13_50 := HX13_z.below hq50
      rw [← HMO.out] at he hT0
      subst he
      have hT150 := hT0
      try go_wp2_with fail
      have hk50 := HS12.out _ HX5_50 HX9_50 HX11_50 HX13_50
      refine hK.out _ _ hk50 (fun _ => ?_)
      clear hK K
      try simp only [Act.put, List.setIfInBounds_toArray, List.set_cons_zero, List.set_cons_succ]
      refine wpAnyH_ready (rs := [5]) (by kernel_rfl) (by simp) ?_
      refine AllReadyH.cons (o := { dst := some 93, op := Op.call { callee := Callee.value (Operand.func 16), args := #[Operand.tmp 91, Operand.tmp 92], argTypes := #[26, 9] }, type := 37, pos := "laws.go:271", after := #[{ on := 3, ground := Ground.data }, { on := 4, ground := Ground.data }, { on := 2, ground := Ground.chain }], guard := none }) rfl (fun K hK => ?_) AllReadyH.nil
      go_simp
      go_at_call 16
      refine (spec_mo _ c9 T9 _ (by have := HTz9.out; omega) HS9.out HI9_50).mono ?_
      rintro e q51 ⟨ta2, tc2, he, hT2, -, hq51⟩
      have HB_51 := HB_50.trans (hq51.mono HB_50.size)
      have HL_51 := HL_50.below hq51
      have HI5_51 := HI5_50.below hq51
      have HX5_51 := HX5_50.below hq51
      have HI8_51 := HI8_50.below hq51
      have HX8_51 := HX8_50.below hq51
      have HI9_51 := HI9_50.below hq51
      have HX9_51 := HX9_50.below hq51
      have HI11_51 := HI11_50.below hq51
      have HX11_51 := HX11_50.below hq51
      have HI13_51 := HI13_50.below hq51
      have HX13_51 := HX13_50.below hq51
      have T1_51 := hT150.below hq51
      rw [← HMO.out] at he hT2
      subst he
      try go_wp2_with fail
      have hk51 := HS12.out _ HX5_51 HX9_51 HX11_51 HX13_51
      refine hK.out _ _ hk51 (fun _ => ?_)
      clear hK K
      try simp only [Act.put, List.setIfInBounds_toArray, List.set_cons_zero, List.set_cons_succ]
      refine wpAnyH_ready (rs := [6]) (by kernel_rfl) (by simp) ?_
      refine AllReadyH.cons (o := { dst := some 94, op := Op.call { callee := Callee.value (Operand.func 14), args := #[Operand.tmp 90, Operand.tmp 93], argTypes := #[37, 37] }, type := 4, pos := "laws.go:271", after := #[{ on := 2, ground := Ground.data }, { on := 5, ground := Ground.data }, { on := 5, ground := Ground.chain }], guard := none }) rfl (fun K hK => ?_) AllReadyH.nil
      go_simp
      go_at_call 14
      refine (lwMe_any _ _ M _ HMS.out.2 ⟨ta1, tc1, rfl, T1_51⟩ ⟨ta2, tc2, rfl, hT2⟩).mono ?_
      rintro e q52 ⟨rfl, hq52⟩
      have HB_52 := HB_51.trans (hq52.mono HB_51.size)
      have HL_52 := HL_51.below hq52
      have HI5_52 := HI5_51.below hq52
      have HX5_52 := HX5_51.below hq52
      have HI8_52 := HI8_51.below hq52
      have HX8_52 := HX8_51.below hq52
      have HI9_52 := HI9_51.below hq52
      have HX9_52 := HX9_51.below hq52
      have HI11_52 := HI11_51.below hq52
      have HX11_52 := HX11_51.below hq52
      have HI13_52 := HI13_51.below hq52
      have HX13_52 := HX13_51.below hq52
      have T1_52 := T1_51.below hq52
      try go_wp2_with fail
      have hk52 := HS12.out _ HX5_52 HX9_52 HX11_52 HX13_52
      refine hK.out _ _ hk52 (fun _ => ?_)
      clear hK K
      try simp only [Act.put, List.setIfInBounds_toArray, List.set_cons_zero, List.set_cons_succ]
      refine wpAnyH_take (i := 7) (oi := { dst := some 95, op := Op.unOp UnOp.not 4 (Operand.tmp 94), type := 4, pos := "laws.go:271", after := #[{ on := 6, ground := Ground.data }], guard := none }) (v := ?_) rfl (by kernel_rfl) (by kernel_rfl) (by kernel_rfl) (fun _ _ _ h => h) (Or.inl ⟨by rfl, ?_⟩) (by assumption) ?_
      rotate_left
      · (intro w hSw; (try dsimp only at hSw); go_simp) <;> with_reducible rfl
      try simp only [Act.put, List.setIfInBounds_toArray, List.set_cons_zero, List.set_cons_succ]
      refine wpAnyH_take (i := 8) (oi := { dst := some 96, op := Op.move (Operand.tmp 95), type := 4, pos := "laws.go:271", after := #[{ on := 7, ground := Ground.data }, { on := 6, ground := Ground.chain }], guard := none }) (v := ?_) rfl (by kernel_rfl) (by kernel_rfl) (by kernel_rfl) (fun _ _ _ h => h) (Or.inl ⟨by rfl, ?_⟩) (by assumption) ?_
      rotate_left
      · (intro w hSw; (try dsimp only at hSw); go_simp) <;> with_reducible rfl
      try simp only [Act.put, List.setIfInBounds_toArray, List.set_cons_zero, List.set_cons_succ]
      refine wpAnyH_take (i := 9) (oi := { dst := some 97, op := Op.load 26 (Operand.tmp 11), type := 26, pos := "laws.go:271", after := #[{ on := 8, ground := Ground.guard }], guard := some (8, false) }) (v := ?_) rfl (by kernel_rfl) (by kernel_rfl) (by kernel_rfl) (fun _ _ _ h => h) (Or.inl ⟨by rfl, ?_⟩) (by assumption) ?_
      rotate_left
      · (intro w hSw; (try dsimp only at hSw); go_simp) <;> with_reducible rfl
      try simp only [Act.put, List.setIfInBounds_toArray, List.set_cons_zero, List.set_cons_succ]
      refine wpAnyH_take (i := 10) (oi := { dst := some 98, op := Op.move (Operand.tmp 12), type := 9, pos := "laws.go:271", after := #[{ on := 8, ground := Ground.guard }], guard := some (8, false) }) (v := ?_) rfl (by kernel_rfl) (by kernel_rfl) (by kernel_rfl) (fun _ _ _ h => h) (Or.inl ⟨by rfl, ?_⟩) (by assumption) ?_
      rotate_left
      · (intro w hSw; (try dsimp only at hSw); go_simp) <;> with_reducible rfl
      try simp only [Act.put, List.setIfInBounds_toArray, List.set_cons_zero, List.set_cons_succ]
      refine wpAnyH_take (i := 12) (oi := { dst := some 100, op := Op.load 26 (Operand.tmp 11), type := 26, pos := "laws.go:271", after := #[{ on := 8, ground := Ground.guard }], guard := some (8, false) }) (v := ?_) rfl (by kernel_rfl) (by kernel_rfl) (by kernel_rfl) (fun _ _ _ h => h) (Or.inl ⟨by rfl, ?_⟩) (by assumption) ?_
      rotate_left
      · (intro w hSw; (try dsimp only at hSw); go_simp) <;> with_reducible rfl
      try simp only [Act.put, List.setIfInBounds_toArray, List.set_cons_zero, List.set_cons_succ]
      refine wpAnyH_take (i := 13) (oi := { dst := some 101, op := Op.move (Operand.tmp 12), type := 9, pos := "laws.go:271", after := #[{ on := 8, ground := Ground.guard }], guard := some (8, false) }) (v := ?_) rfl (by kernel_rfl) (by kernel_rfl) (by kernel_rfl) (fun _ _ _ h => h) (Or.inl ⟨by rfl, ?_⟩) (by assumption) ?_
      rotate_left
      · (intro w hSw; (try dsimp only at hSw); go_simp) <;> with_reducible rfl
      try simp only [Act.put, List.setIfInBounds_toArray, List.set_cons_zero, List.set_cons_succ]
      refine wpAnyH_ready (rs := [11]) (by kernel_rfl) (by simp) ?_
      refine AllReadyH.cons (o := { dst := some 99, op := Op.call { callee := Callee.value (Operand.func 17), args := #[Operand.tmp 97, Operand.tmp 98], argTypes := #[26, 9] }, type := 2, pos := "laws.go:271", after := #[{ on := 9, ground := Ground.data }, { on := 10, ground := Ground.data }, { on := 8, ground := Ground.chain }, { on := 8, ground := Ground.guard }], guard := some (8, false) }) rfl (fun K hK => ?_) AllReadyH.nil
      go_simp
      go_at_call 17
      refine (impl_cr _ c11 T11 _ HS11.out HI11_52 HL_52).mono ?_
      rintro e q53 ⟨rfl, hq53⟩
      have HB_53 := HB_52.trans (hq53.mono HB_52.size)
      have HL_53 := HL_52.below hq53
      have HI5_53 := HI5_52.below hq53
      have HX5_53 := HX5_52.below hq53
      have HI8_53 := HI8_52.below hq53
      have HX8_53 := HX8_52.below hq53
      have HI9_53 := HI9_52.below hq53
      have HX9_53 := HX9_52.below hq53
      have HI11_53 := HI11_52.below hq53
      have HX11_53 := HX11_52.below hq53
      have HI13_53 := HI13_52.below hq53
      have HX13_53 := HX13_52.below hq53
      have T1_53 := T1_52.below hq53
      try go_wp2_with fail
      have hk53 := HS12.out _ HX5_53 HX9_53 HX11_53 HX13_53
      refine hK.out _ _ hk53 (fun _ => ?_)
      clear hK K
      try simp only [Act.put, List.setIfInBounds_toArray, List.set_cons_zero, List.set_cons_succ]
      refine wpAnyH_ready (rs := [14]) (by kernel_rfl) (by simp) ?_
      refine AllReadyH.cons (o := { dst := some 102, op := Op.call { callee := Callee.value (Operand.func 18), args := #[Operand.tmp 100, Operand.tmp 101], argTypes := #[26, 9] }, type := 2, pos := "laws.go:271", after := #[{ on := 12, ground := Ground.data }, { on := 13, ground := Ground.data }, { on := 11, ground := Ground.chain }, { on := 8, ground := Ground.guard }], guard := some (8, false) }) rfl (fun K hK => ?_) AllReadyH.nil
      go_simp
      go_at_call 18
      refine (spec_cr _ c11 T11 _ (by have := HTz11.out; omega) HS11.out HI11_53).mono ?_
      rintro e q54 ⟨rfl, hq54⟩
      have HB_54 := HB_53.trans (hq54.mono HB_53.size)
      have HL_54 := HL_53.below hq54
      have HI5_54 := HI5_53.below hq54
      have HX5_54 := HX5_53.below hq54
      have HI8_54 := HI8_53.below hq54
      have HX8_54 := HX8_53.below hq54
      have HI9_54 := HI9_53.below hq54
      have HX9_54 := HX9_53.below hq54
      have HI11_54 := HI11_53.below hq54
      have HX11_54 := HX11_53.below hq54
      have HI13_54 := HI13_53.below hq54
      have HX13_54 := HX13_53.below hq54
      have T1_54 := T1_53.below hq54
      try go_wp2_with fail
      have hk54 := HS12.out _ HX5_54 HX9_54 HX11_54 HX13_54
      refine hK.out _ _ hk54 (fun _ => ?_)
      clear hK K
      try simp only [Act.put, List.setIfInBounds_toArray, List.set_cons_zero, List.set_cons_succ]
      refine wpAnyH_take (i := 15) (oi := { dst := some 103, op := Op.binOp BinOp.neq 2 (Operand.tmp 99) (Operand.tmp 102) 2, type := 4, pos := "laws.go:271", after := #[{ on := 11, ground := Ground.data }, { on := 14, ground := Ground.data }, { on := 8, ground := Ground.guard }], guard := some (8, false) }) (v := ?_) rfl (by kernel_rfl) (by kernel_rfl) (by kernel_rfl) (fun _ _ _ h => h) (Or.inl ⟨by rfl, ?_⟩) (by assumption) ?_
      rotate_left
      · (intro w hSw; (try dsimp only at hSw); go_simp) <;> with_reducible rfl
      try simp only [Act.put, List.setIfInBounds_toArray, List.set_cons_zero, List.set_cons_succ]
      refine wpAnyH_take (i := 16) (oi := { dst := some 104, op := Op.pick (Operand.tmp 96) (Operand.const (Value.bool true)) (Operand.tmp 103), type := 4, pos := "laws.go:271", after := #[{ on := 8, ground := Ground.data }, { on := 15, ground := Ground.data }], guard := none }) (v := ?_) rfl (by kernel_rfl) (by kernel_rfl) (by kernel_rfl) (fun _ _ _ h => h) (Or.inl ⟨by rfl, ?_⟩) (by assumption) ?_
      rotate_left
      · (intro w hSw; (try dsimp only at hSw); go_simp) <;> with_reducible rfl
      try simp only [Act.put, List.setIfInBounds_toArray, List.set_cons_zero, List.set_cons_succ]
      refine wpAnyH_take (i := 17) (oi := { dst := some 105, op := Op.move (Operand.tmp 104), type := 4, pos := "laws.go:271", after := #[{ on := 16, ground := Ground.data }, { on := 14, ground := Ground.chain }], guard := none }) (v := ?_) rfl (by kernel_rfl) (by kernel_rfl) (by kernel_rfl) (fun _ _ _ h => h) (Or.inl ⟨by rfl, ?_⟩) (by assumption) ?_
      rotate_left
      · (intro w hSw; (try dsimp only at hSw); go_simp) <;> with_reducible rfl
      try simp only [Act.put, List.setIfInBounds_toArray, List.set_cons_zero, List.set_cons_succ]
      refine wpAnyH_take (i := 18) (oi := { dst := some 106, op := Op.load 37 (Operand.tmp 13), type := 37, pos := "laws.go:271", after := #[{ on := 17, ground := Ground.guard }], guard := some (17, false) }) (v := ?_) rfl (by kernel_rfl) (by kernel_rfl) (by kernel_rfl) (fun _ _ _ h => h) (Or.inl ⟨by rfl, ?_⟩) (by assumption) ?_
      rotate_left
      · (intro w hSw; (try dsimp only at hSw); go_simp) <;> with_reducible rfl
      try simp only [Act.put, List.setIfInBounds_toArray, List.set_cons_zero, List.set_cons_succ]
      refine wpAnyH_take (i := 20) (oi := { dst := some 108, op := Op.load 37 (Operand.tmp 13), type := 37, pos := "laws.go:271", after := #[{ on := 17, ground := Ground.guard }], guard := some (17, false) }) (v := ?_) rfl (by kernel_rfl) (by kernel_rfl) (by kernel_rfl) (fun _ _ _ h => h) (Or.inl ⟨by rfl, ?_⟩) (by assumption) ?_
      rotate_left
      · (intro w hSw; (try dsimp only at hSw); go_simp) <;> with_reducible rfl
      try simp only [Act.put, List.setIfInBounds_toArray, List.set_cons_zero, List.set_cons_succ]
      refine wpAnyH_ready (rs := [19]) (by kernel_rfl) (by simp) ?_
      refine AllReadyH.cons (o := { dst := some 107, op := Op.call { callee := Callee.value (Operand.func 19), args := #[Operand.tmp 106], argTypes := #[37] }, type := 4, pos := "laws.go:271", after := #[{ on := 18, ground := Ground.data }, { on := 17, ground := Ground.chain }, { on := 17, ground := Ground.guard }], guard := some (17, false) }) rfl (fun K hK => ?_) AllReadyH.nil
      go_simp
      go_at_call 19
      refine (impl_meter _ m _ (by have := HM1.out; omega) (by have := HM2.out; have := HTL.out; omega) HI13_54).mono ?_
      rintro e q55 ⟨rfl, hq55⟩
      have HB_55 := HB_54.trans (hq55.mono HB_54.size)
      have HL_55 := HL_54.below hq55
      have HI5_55 := HI5_54.below hq55
      have HX5_55 := HX5_54.below hq55
      have HI8_55 := HI8_54.below hq55
      have HX8_55 := HX8_54.below hq55
      have HI9_55 := HI9_54.below hq55
      have HX9_55 := HX9_54.below hq55
      have HI11_55 := HI11_54.below hq55
      have HX11_55 := HX11_54.below hq55
      have HI13_55 := HI13_54.below hq55
      have HX13_55 := HX13_54.below hq55
      have T1_55 := T1_54.below hq55
      try go_wp2_with fail
      have hk55 := HS12.out _ HX5_55 HX9_55 HX11_55 HX13_55
      refine hK.out _ _ hk55 (fun _ => ?_)
      clear hK K
      try simp only [Act.put, List.setIfInBounds_toArray, List.set_cons_zero, List.set_cons_succ]
      refine wpAnyH_ready (rs := [21]) (by kernel_rfl) (by simp) ?_
      refine AllReadyH.cons (o := { dst := some 109, op := Op.call { callee := Callee.value (Operand.func 20), args := #[Operand.tmp 108], argTypes := #[37] }, type := 4, pos := "laws.go:271", after := #[{ on := 20, ground := Ground.data }, { on := 19, ground := Ground.chain }, { on := 17, ground := Ground.guard }], guard := some (17, false) }) rfl (fun K hK => ?_) AllReadyH.nil
      go_simp
      go_at_call 20
      refine (spec_meter _ m _ (by have := HM1.out; omega) (by have := HM2.out; have := HTL.out; omega) HI13_55).mono ?_
      rintro e q56 ⟨rfl, hq56⟩
      have HB_56 := HB_55.trans (hq56.mono HB_55.size)
      have HL_56 := HL_55.below hq56
      have HI5_56 := HI5_55.below hq56
      have HX5_56 := HX5_55.below hq56
      have HI8_56 := HI8_55.below hq56
      have HX8_56 := HX8_55.below hq56
      have HI9_56 := HI9_55.below hq56
      have HX9_56 := HX9_55.below hq56
      have HI11_56 := HI11_55.below hq56
      have HX11_56 := HX11_55.below hq56
      have HI13_56 := HI13_55.below hq56
      have HX13_56 := HX13_55.below hq56
      have T1_56 := T1_55.below hq56
      try go_wp2_with fail
      have hk56 := HS12.out _ HX5_56 HX9_56 HX11_56 HX13_56
      refine hK.out _ _ hk56 (fun _ => ?_)
      clear hK K
      try simp only [Act.put, List.setIfInBounds_toArray, List.set_cons_zero, List.set_cons_succ]
      refine wpAnyH_take (i := 22) (oi := { dst := some 110, op := Op.binOp BinOp.neq 4 (Operand.tmp 107) (Operand.tmp 109) 4, type := 4, pos := "laws.go:271", after := #[{ on := 19, ground := Ground.data }, { on := 21, ground := Ground.data }, { on := 17, ground := Ground.guard }], guard := some (17, false) }) (v := ?_) rfl (by kernel_rfl) (by kernel_rfl) (by kernel_rfl) (fun _ _ _ h => h) (Or.inl ⟨by rfl, ?_⟩) (by assumption) ?_
      rotate_left
      · (intro w hSw; (try dsimp only at hSw); go_simp) <;> with_reducible rfl
      try simp only [Act.put, List.setIfInBounds_toArray, List.set_cons_zero, List.set_cons_succ]
      refine wpAnyH_take (i := 23) (oi := { dst := some 111, op := Op.pick (Operand.tmp 105) (Operand.const (Value.bool true)) (Operand.tmp 110), type := 4, pos := "laws.go:271", after := #[{ on := 17, ground := Ground.data }, { on := 22, ground := Ground.data }], guard := none }) (v := ?_) rfl (by kernel_rfl) (by kernel_rfl) (by kernel_rfl) (fun _ _ _ h => h) (Or.inl ⟨by rfl, ?_⟩) (by assumption) ?_
      rotate_left
      · (intro w hSw; (try dsimp only at hSw); go_simp) <;> with_reducible rfl
      try simp only [Act.put, List.setIfInBounds_toArray, List.set_cons_zero, List.set_cons_succ]
      refine wpAnyH_take (i := 24) (oi := { dst := some 112, op := Op.move (Operand.tmp 111), type := 4, pos := "laws.go:271", after := #[{ on := 23, ground := Ground.data }, { on := 21, ground := Ground.chain }], guard := none }) (v := ?_) rfl (by kernel_rfl) (by kernel_rfl) (by kernel_rfl) (fun _ _ _ h => h) (Or.inl ⟨by rfl, ?_⟩) (by assumption) ?_
      rotate_left
      · (intro w hSw; (try dsimp only at hSw); go_simp) <;> with_reducible rfl
      try simp only [Act.put, List.setIfInBounds_toArray, List.set_cons_zero, List.set_cons_succ]
      refine wpAnyH_take (i := 25) (oi := { dst := some 113, op := Op.load 26 (Operand.tmp 5), type := 26, pos := "laws.go:271", after := #[{ on := 24, ground := Ground.guard }], guard := some (24, false) }) (v := ?_) rfl (by kernel_rfl) (by kernel_rfl) (by kernel_rfl) (fun _ _ _ h => h) (Or.inl ⟨by rfl, ?_⟩) (by assumption) ?_
      rotate_left
      · (intro w hSw; (try dsimp only at hSw); go_simp) <;> with_reducible rfl
      try simp only [Act.put, List.setIfInBounds_toArray, List.set_cons_zero, List.set_cons_succ]
      refine wpAnyH_take (i := 27) (oi := { dst := some 115, op := Op.load 26 (Operand.tmp 5), type := 26, pos := "laws.go:271", after := #[{ on := 24, ground := Ground.guard }], guard := some (24, false) }) (v := ?_) rfl (by kernel_rfl) (by kernel_rfl) (by kernel_rfl) (fun _ _ _ h => h) (Or.inl ⟨by rfl, ?_⟩) (by assumption) ?_
      rotate_left
      · (intro w hSw; (try dsimp only at hSw); go_simp) <;> with_reducible rfl
      try simp only [Act.put, List.setIfInBounds_toArray, List.set_cons_zero, List.set_cons_succ]
      refine wpAnyH_ready (rs := [26]) (by kernel_rfl) (by simp) ?_
      refine AllReadyH.cons (o := { dst := some 114, op := Op.call { callee := Callee.value (Operand.func 21), args := #[Operand.tmp 113], argTypes := #[26] }, type := 4, pos := "laws.go:271", after := #[{ on := 25, ground := Ground.data }, { on := 24, ground := Ground.chain }, { on := 24, ground := Ground.guard }], guard := some (24, false) }) rfl (fun K hK => ?_) AllReadyH.nil
      go_simp
      go_at_call 21
      refine (impl_ca _ c5 _ HS5.out HI5_56 HL_56).mono ?_
      rintro e q57 ⟨rfl, hq57⟩
      have HB_57 := HB_56.trans (hq57.mono HB_56.size)
      have HL_57 := HL_56.below hq57
      have HI5_57 := HI5_56.below hq57
      have HX5_57 := HX5_56.below hq57
      have HI8_57 := HI8_56.below hq57
      have HX8_57 := HX8_56.below hq57
      have HI9_57 := HI9_56.below hq57
      have HX9_57 := HX9_56.below hq57
      have HI11_57 := HI11_56.below hq57
      have HX11_57 := HX11_56.below hq57
      have HI13_57 := HI13_56.below hq57
      have HX13_57 := HX13_56.below hq57
      have T1_57 := T1_56.below hq57
      try go_wp2_with fail
      have hk57 := HS12.out _ HX5_57 HX9_57 HX11_57 HX13_57
      refine hK.out _ _ hk57 (fun _ => ?_)
      clear hK K
      try simp only [Act.put, List.setIfInBounds_toArray, List.set_cons_zero, List.set_cons_succ]
      refine wpAnyH_ready (rs := [28]) (by kernel_rfl) (by simp) ?_
      refine AllReadyH.cons (o := { dst := some 116, op := Op.call { callee := Callee.value (Operand.func 22), args := #[Operand.tmp 115], argTypes := #[26] }, type := 4, pos := "laws.go:271", after := #[{ on := 27, ground := Ground.data }, { on := 26, ground := Ground.chain }, { on := 24, ground := Ground.guard }], guard := some (24, false) }) rfl (fun K hK => ?_) AllReadyH.nil
      go_simp
      go_at_call 22
      refine (spec_ca _ c5 _ HS5.out HI5_57).mono ?_
      rintro e q58 ⟨rfl, hq58⟩
      have HB_58 := HB_57.trans (hq58.mono HB_57.size)
      have HL_58 := HL_57.below hq58
      have HI5_58 := HI5_57.below hq58
      have HX5_58 := HX5_57.below hq58
      have HI8_58 := HI8_57.below hq58
      have HX8_58 := HX8_57.below hq58
      have HI9_58 := HI9_57.below hq58
      have HX9_58 := HX9_57.below hq58
      have HI11_58 := HI11_57.below hq58
      have HX11_58 := HX11_57.below hq58
      have HI13_58 := HI13_57.below hq58
      have HX13_58 := HX13_57.below hq58
      have T1_58 := T1_57.below hq58
      try go_wp2_with fail
      have hk58 := HS12.out _ HX5_58 HX9_58 HX11_58 HX13_58
      refine hK.out _ _ hk58 (fun _ => ?_)
      clear hK K
      try simp only [Act.put, List.setIfInBounds_toArray, List.set_cons_zero, List.set_cons_succ]
      refine wpAnyH_take (i := 29) (oi := { dst := some 117, op := Op.binOp BinOp.neq 4 (Operand.tmp 114) (Operand.tmp 116) 4, type := 4, pos := "laws.go:271", after := #[{ on := 26, ground := Ground.data }, { on := 28, ground := Ground.data }, { on := 24, ground := Ground.guard }], guard := some (24, false) }) (v := ?_) rfl (by kernel_rfl) (by kernel_rfl) (by kernel_rfl) (fun _ _ _ h => h) (Or.inl ⟨by rfl, ?_⟩) (by assumption) ?_
      rotate_left
      · (intro w hSw; (try dsimp only at hSw); go_simp) <;> with_reducible rfl
      try simp only [Act.put, List.setIfInBounds_toArray, List.set_cons_zero, List.set_cons_succ]
      refine wpAnyH_take (i := 30) (oi := { dst := some 118, op := Op.pick (Operand.tmp 112) (Operand.const (Value.bool true)) (Operand.tmp 117), type := 4, pos := "laws.go:271", after := #[{ on := 24, ground := Ground.data }, { on := 29, ground := Ground.data }], guard := none }) (v := ?_) rfl (by kernel_rfl) (by kernel_rfl) (by kernel_rfl) (fun _ _ _ h => h) (Or.inl ⟨by rfl, ?_⟩) (by assumption) ?_
      rotate_left
      · (intro w hSw; (try dsimp only at hSw); go_simp) <;> with_reducible rfl
      try simp only [Act.put, List.setIfInBounds_toArray, List.set_cons_zero, List.set_cons_succ]
      refine wpAnyH_done (by kernel_rfl) ?_ _
      have ZHB := hid_intro HB_58
      have ZHL := hid_intro HL_58
      have ZHI5 := hid_intro HI5_58
      have ZHX5 := hid_intro HX5_58
      clear HB_50 HB_51 HB_52 HB_53 HB_54 HB_55 HB_56 HB_57 HB_58 HL_50 HL_51 HL_52 HL_53 HL_54 HL_55 HL_56 HL_57 HL_58 HI5_50 HI5_51 HI5_52 HI5_53 HI5_54 HI5_55 HI5_56 HI5_57 HI5_58 HX5_50 HX5_51 HX5_52 HX5_53 HX5_54 HX5_55 HX5_56 HX5_57 HX5_58 HI8_50 HI8_51 HI8_52 HI8_53 HI8_54 HI8_55 HI8_56 HI8_57 HI8_58 HX8_50 HX8_51 HX8_52 HX8_53 HX8_54 HX8_55 HX8_56 HX8_57 HX8_58 HI9_50 HI9_51 HI9_52 HI9_53 HI9_54 HI9_55 HI9_56 HI9_57 HI9_58 HX9_50 HX9_51 HX9_52 HX9_53 HX9_54 HX9_55 HX9_56 HX9_57 HX9_58 HI11_50 HI11_51 HI11_52 HI11_53 HI11_54 HI11_55 HI11_56 HI11_57 HI11_58 HX11_50 HX11_51 HX11_52 HX11_53 HX11_54 HX11_55 HX11_56 HX11_57 HX11_58 HI13_50 HI13_51 HI13_52 HI13_53 HI13_54 HI13_55 HI13_56 HI13_57 HI13_58 HX13_50 HX13_51 HX13_52 HX13_53 HX13_54 HX13_55 HX13_56 HX13_57 HX13_58
      have x5_0 : q58.cell? ⟨b5, 0, none⟩ = some (.slice ma5 nm5 mc5) := ZHX5.out.2 0 (by simp)
      have xl5 := ZHX5.out.1
      go_wp2_with fail
      clear x5_0 xl5
      go_loopw [14] (fun z wr => ∃ k : Nat, k ≤ nm5 ∧ z = .int .i64 k ∧ Hid (Below w.heap.size w wr) ∧ Hid (Laid wr) ∧ Hid (IsCa (.agg #[.slice ma5 nm5 mc5, .slice ca5 nc5 cc5]) c5 wr) ∧ Hid (Blk b5 [.slice ma5 nm5 mc5, .slice ca5 nc5 cc5] wr)) (fun z _ => nm5 - (intOf z).toNat)
      case atStart => exact ⟨0, by omega, rfl, ZHB, ZHL, ZHI5, ZHX5⟩
      case round =>
        obtain ⟨k, hk, rfl, HB, HL, HI5, HX5⟩ := hrel
        clear ZHB ZHL ZHI5 ZHX5
        have x5_0 : wr.cell? ⟨b5, 0, none⟩ = some (.slice ma5 nm5 mc5) := HX5.out.2 0 (by simp)
        have x5_1 : wr.cell? ⟨b5, 1, none⟩ = some (.slice ca5 nc5 cc5) := HX5.out.2 1 (by simp)
        have xl5 := HX5.out.1
        have hnm5 : nm5 ≤ 1048576 := by rw [← HNM5.out]; exact HS5.out.ml
        by_cases hlt : k < nm5
        · have hlt2 : (k : Int) < (nm5 : Int) := by omega
          go_wp2_with fail
          refine (spec_ca _ c5 _ HS5.out HI5.out).mono ?_
          rintro e w1 ⟨rfl, hb⟩
          replace HB := hid_intro (HB.out.trans (hb.mono HB.out.size))
          replace HL := hid_intro (HL.out.below hb)
          replace HI5 := hid_intro (HI5.out.below hb)
          replace HX5 := hid_intro (HX5.out.below hb)
          clear hb x5_0 x5_1 xl5
          rw [HCB.out]
          have x5_0 : w1.cell? ⟨b5, 0, none⟩ = some (.slice ma5 nm5 mc5) := HX5.out.2 0 (by simp)
          have x5_1 : w1.cell? ⟨b5, 1, none⟩ = some (.slice ca5 nc5 cc5) := HX5.out.2 1 (by simp)
          have xl5 := HX5.out.1
          obtain ⟨ma', mc', ca', cc', e', hM', -⟩ := HI5.out
          have hkc : k < c5.ms.length := by rw [HNM5.out]; exact hlt
          obtain ⟨b, off, hma, hbl, tb, tcb, d0, d1, d2, d3, d4, d5, hTb⟩ := mes_at hM' k hkc
          have hms := mO_self HCB.out k hkc
          have hsm := HS5.out.ms k hkc
          have d0' : w1.cell? ⟨b, off + k * 6, none⟩ = some (.string (mN c5.ms k)) := d0
          obtain ⟨nk, hnk⟩ : ∃ nk, nk = mN c5.ms k := ⟨_, rfl⟩
          rw [← hnk] at d0' hms
          have hnz : nk.size ≤ 1048576 := by rw [hnk]; exact hsm.1
          obtain ⟨X, hX⟩ : ∃ X, X = c5.ms.getD k Me.zero := ⟨_, rfl⟩
          rw [← hX] at hms hsm d1 d2 d3 d4 d5 hTb
          have hXn : X.n = nk := by rw [hX, hnk]; rfl
          simp only [Value.agg.injEq, Array.mk.injEq, List.cons.injEq, Value.slice.injEq, and_true] at e'
          obtain ⟨⟨rfl, -, rfl⟩, rfl, -, rfl⟩ := e'
          subst hma
          have HTb := hid_intro hTb
          have HSM := hid_intro hsm
          have HMS2 := hid_intro hms
          have HXn := hid_intro hXn
          have HLM : Hid (∀ W, Below w1.heap.size w1 W → ∀ ta1 tc1, Tis ta1 X.ts.length X.ts W → Calls Tryd.prog 14 #[.agg #[.string X.n, .int .i64 X.g, .bool X.wh, .int .i64 X.f, .int .i64 X.l, .slice ta1 X.ts.length tc1], .agg #[.string nk, .int .i64 X.g, .bool X.wh, .int .i64 X.f, .int .i64 X.l, .slice tb X.ts.length tcb]] W fun e w' => e = .returned (.bool true) ∧ Below W.heap.size W w') := hid_intro (fun W hb ta1 tc1 h1 => by rw [← HXn.out]; exact lwMe_any _ _ X W HSM.out.2 ⟨ta1, tc1, rfl, h1⟩ ⟨tb, tcb, rfl, HTb.out.below hb⟩)
          clear hM' hkc d0 hTb hsm hms hnk hX hXn
          have HSX : Hid (∀ W, Below w1.heap.size w1 W → (fun (W : World) => b5 < W.heap.size ∧ W.cell? ⟨b5, 0, none⟩ = some (.slice (some ⟨b, off, none⟩) nm5 mc5) ∧ W.cell? ⟨b5, 1, none⟩ = some (.slice ca5 nc5 cc5) ∧ b < W.heap.size ∧ W.cell? ⟨b, off + k * 6, none⟩ = some (.string nk) ∧ W.cell? ⟨b, off + k * 6 + 1, none⟩ = some (.int .i64 X.g) ∧ W.cell? ⟨b, off + k * 6 + 2, none⟩ = some (.bool X.wh) ∧ W.cell? ⟨b, off + k * 6 + 3, none⟩ = some (.int .i64 X.f) ∧ W.cell? ⟨b, off + k * 6 + 4, none⟩ = some (.int .i64 X.l) ∧ W.cell? ⟨b, off + k * 6 + 5, none⟩ = some (.slice tb X.ts.length tcb)) W) := hid_intro (fun W hb => ⟨by have := hb.size; omega, (hb.cell (p := ⟨b5, 0, none⟩) xl5).trans x5_0, (hb.cell (p := ⟨b5, 1, none⟩) xl5).trans x5_1, by have := hb.size; omega, (hb.cell (p := ⟨b, off + k * 6, none⟩) hbl).trans d0', (hb.cell (p := ⟨b, off + k * 6 + 1, none⟩) hbl).trans d1, (hb.cell (p := ⟨b, off + k * 6 + 2, none⟩) hbl).trans d2, (hb.cell (p := ⟨b, off + k * 6 + 3, none⟩) hbl).trans d3, (hb.cell (p := ⟨b, off + k * 6 + 4, none⟩) hbl).trans d4, (hb.cell (p := ⟨b, off + k * 6 + 5, none⟩) hbl).trans d5⟩)
          go_wp2_with fail
          have hq0 := (Below.refl w1.heap.size w1).drew
          have HQ0 := hid_intro hq0
          clear x5_0 x5_1 d0' d1 d2 d3 d4 d5 hq0
          go_region_held3 (fun (W : World) => b5 < W.heap.size ∧ W.cell? ⟨b5, 0, none⟩ = some (.slice (some ⟨b, off, none⟩) nm5 mc5) ∧ W.cell? ⟨b5, 1, none⟩ = some (.slice ca5 nc5 cc5) ∧ b < W.heap.size ∧ W.cell? ⟨b, off + k * 6, none⟩ = some (.string nk) ∧ W.cell? ⟨b, off + k * 6 + 1, none⟩ = some (.int .i64 X.g) ∧ W.cell? ⟨b, off + k * 6 + 2, none⟩ = some (.bool X.wh) ∧ W.cell? ⟨b, off + k * 6 + 3, none⟩ = some (.int .i64 X.f) ∧ W.cell? ⟨b, off + k * 6 + 4, none⟩ = some (.int .i64 X.l) ∧ W.cell? ⟨b, off + k * 6 + 5, none⟩ = some (.slice tb X.ts.length tcb))
            (first | assumption | exact HSX.out _ HQ0.out | exact HSX.out _ HQ1.out | exact HSX.out _ HQ2.out)
            (first | (go_at_call 15; refine (impl_mo _ c5 nk _ hnz HS5.out (HI5.out.below HQ0.out) (HL.out.below HQ0.out)).mono ?_; rintro e q1 ⟨ta1, tc1, he, hT1, -, hq⟩; rw [HMS2.out] at he hT1; subst he; have HQ1 := hid_intro (HQ0.out.trans (hq.mono HQ0.out.size)); have HT1 := hid_intro hT1; clear hT1 hq) | (go_at_call 14; refine (HLM.out q1 HQ1.out ta1 tc1 HT1.out).mono ?_; rintro e q2 ⟨rfl, hq⟩; have HQ2 := hid_intro (HQ1.out.trans (hq.mono HQ1.out.size)); clear hq))
          have HB2 := hid_intro (HB.out.trans (HQ2.out.mono HB.out.size))
          have HL2 := hid_intro (HL.out.below HQ2.out)
          have HI2 := hid_intro (HI5.out.below HQ2.out)
          have HX2 := hid_intro (HX5.out.below HQ2.out)
          go_simp
          go_wp2_with fail
          go_simp
          refine ⟨⟨_, .int .i64 ((k : Int) + 1), ⟨k + 1, by omega, by go_num⟩, rfl, rfl, HCB.out⟩, ?_⟩
          simp [intOf]
          omega
        · have hlt2 : ¬ (k : Int) < (nm5 : Int) := by omega
          go_wp2_with fail
          go_ret
          exact ⟨rfl, HB.out⟩
theorem walk (a0 : Option Addr) (len0 cap0 : Nat) (z0 : List Int) (a1 : Option Addr) (len1 cap1 : Nat) (z1 : List Int) (w : World) (w0 : IsRow .u8 w a0 len0 cap0 z0) (w1 : IsRow .u8 w a1 len1 cap1 z1) (hL : Laid w) :
    Calls Tryd.prog 3 #[.slice a0 len0 cap0, .slice a1 len1 cap1] w fun e w' => e = .returned (.bool true) ∧ Below w.heap.size w w' := by
  have l0 := w0.len
  have l1 := w1.len
  unfold maxLen at l0 l1
  by_cases h0 : len0 ≤ 1048576
  · by_cases h1 : len1 ≤ 1048576
    · exact law_in w a0 a1 len0 cap0 len1 cap1 h0 h1 w0.bytes w1.bytes hL
    · have q0 : ¬ (1048576 : Int) < (len0 : Int) := by omega
      have q1 : (1048576 : Int) < (len1 : Int) := by omega
      clear w0 w1 hL
      go_enter Tryd.func3, Tryd.ntmps3
      go_wp2_with fail
      go_ret
      exact ⟨rfl, Below.refl _ _⟩
  · have q0 : (1048576 : Int) < (len0 : Int) := by omega
    clear w0 w1 hL
    go_enter Tryd.func3, Tryd.ntmps3
    go_wp2_with fail
    go_ret
    exact ⟨rfl, Below.refl _ _⟩
set_option maxRecDepth 100000 in
theorem lifted (os : Os) (started : os.Started) (H : Type) (enc : TypeId × Value → H) :
    ReturnsInHanded {} Tryd.checked os 3 .any (fun w args => (Rows.fnCatalogSpec.pre enc Tryd.prog Tryd.f3 [] false w args ∧ laidMetH Tryd.prog Snm.laid w) ∧ sizedMet enc Tryd.prog Tryd.f3 (OpenSpec.ofChange Rows.fnCatalogSpec) false w args)
      (Rows.fnCatalogSpec.post enc Tryd.prog Tryd.f3 false true false false) := by
  refine returnsInHanded_of_change_and (C := Tryd.checked) (X := fun w _ => laidMetH Tryd.prog Snm.laid w) (fun _ _ _ hh h => h.of_heap hh) Snm.own started (by kernel_rfl) Tryd.func3
    (ChangeSpec.witness_shaped (enc := enc) (C := Tryd.checked) (os := os) (X := fun w _ => laidMetH Tryd.prog Snm.laid w) false (World.doorLaid Tryd.prog 400 os) #[.slice none 0 0, .slice none 0 0] 8 rfl (World.shaped_of_RefB (by kernel_rfl) (by kernel_rfl)) (by kernel_rfl) (by kernel_rfl) (by kernel_rfl) (Snm.door_met os _)) ?_
  intro W base args ds gs before hval0 hW _ _ hL _
  have hval : ∀ (j : Nat) t v, Tryd.f3.params[j]? = some t → args[j]? = some v → Value.okWide Tryd.prog W .any base t v := hval0
  have hW' := hW
  obtain ⟨p, q, hA0, hV0, rfl, hfz, hnd⟩ := hW
  have hA : DataW.TrodAll enc Tryd.prog W 0 (fun _ => true) true Tryd.f3.params.toList args.toList ds p := hA0
  have hV : DataW.TrodVars enc Tryd.prog W (fun _ => true) ["loop.example/g00562/impl.errNoMeter"] gs q := hV0
  rw [Tryd.params3] at hA hval
  obtain ⟨v0, v1, d0, d1, p0, p1, rfl, rfl, rfl, h0, h1⟩ := trodAll_two hA
  have k0 := h0
  have lt0 : ∀ x ∈ p0, x.block < W.heap.size := fun x hx => hW'.lt x (by simp [hx])
  obtain ⟨a0, len0, cap0, rfl⟩ := okWide_slice Tryd.underlying22 (hval 0 22 v0 rfl rfl)
  obtain ⟨z0, w0⟩ : ∃ zs, IsRow .u8 W a0 len0 cap0 zs := by
    obtain ⟨fuel, hf⟩ := h0
    rcases open_ints Tryd.underlying22 Tryd.underlying5 (by kernel_rfl) hf with ⟨hcs, _⟩ | ⟨x, l, c, zs, hcs, _, hl, hm, hz, _, hcell, hwz⟩
    · simp [Value.cells] at hcs
      obtain ⟨rfl, rfl, rfl⟩ := hcs
      exact ⟨[], .inl ⟨rfl, rfl, rfl, rfl⟩⟩
    · simp [Value.cells] at hcs
      obtain ⟨rfl, rfl, rfl⟩ := hcs
      exact ⟨zs, .inr ⟨_, rfl, hl, hm, by simpa using hz, hcell, hwz⟩⟩
  have k1 := h1
  have lt1 : ∀ x ∈ p1, x.block < W.heap.size := fun x hx => hW'.lt x (by simp [hx])
  obtain ⟨a1, len1, cap1, rfl⟩ := okWide_slice Tryd.underlying22 (hval 1 22 v1 rfl rfl)
  obtain ⟨z1, w1⟩ : ∃ zs, IsRow .u8 W a1 len1 cap1 zs := by
    obtain ⟨fuel, hf⟩ := h1
    rcases open_ints Tryd.underlying22 Tryd.underlying5 (by kernel_rfl) hf with ⟨hcs, _⟩ | ⟨x, l, c, zs, hcs, _, hl, hm, hz, _, hcell, hwz⟩
    · simp [Value.cells] at hcs
      obtain ⟨rfl, rfl, rfl⟩ := hcs
      exact ⟨[], .inl ⟨rfl, rfl, rfl, rfl⟩⟩
    · simp [Value.cells] at hcs
      obtain ⟨rfl, rfl, rfl⟩ := hcs
      exact ⟨zs, .inr ⟨_, rfl, hl, hm, by simpa using hz, hcell, hwz⟩⟩
  obtain ⟨av, hv⟩ := Snm.of_laid hL
  have hl := Snm.laid_of hv
  obtain ⟨rfl, rfl⟩ := hV.unique (vars_read1 enc Snm.gv Snm.gt Tryd.underlying59 hv trivial _)
  refine (walk a0 len0 cap0 z0 a1 len1 cap1 z1 W w0 w1 hl).mono fun e W' ⟨he, bel⟩ => ?_
  subst he
  exact ⟨_, rfl, _, _, _, _, _, _, hW', trodAll_mk1 (shut_bool Tryd.underlying4 true), trodAll_mk2 (Below.trod Snm.laidOut (by kernel_rfl) (of_decide_eq_true (by kernel_rfl)) k0 bel lt0) (Below.trod Snm.laidOut (by kernel_rfl) (of_decide_eq_true (by kernel_rfl)) k1 bel lt1), vars_read1 enc Snm.gv Snm.gt Tryd.underlying59 (Snm.var_below hl hv bel) trivial _, bel.frame _, fun h => by cases h⟩
theorem row_holds : Rows.FnCatalogSaid :=
  OpenClaim.holds_of_wide 3 Tryd.f3 rfl rfl rfl rfl rfl rfl rfl ⟨rfl, rfl, rfl, rfl, rfl⟩ rfl rfl rfl rfl rfl (by kernel_rfl) Tryd.func3 (by kernel_rfl)
    (of_decide_eq_true (by kernel_rfl)) (by unfold Func.isWrapper; rw [if_neg (of_decide_eq_false (by kernel_rfl))]; exact ⟨rfl, rfl⟩)
    (fun os started H enc _ => lifted os started H enc)
theorem card_holds : Rows.FnCatalogCardSaid :=
  Claim7.holds_tied_plain_at .later [] [.sentinel] true Rows.fnCatalogCard.stood.harness true
    row_holds (fun _ h => by cases h) (by kernel_rfl) (fun _ h => by cases h) fnCatalog_row_tie rfl ⟨rfl, rfl⟩ (by kernel_rfl) rfl
    (fun f fn hf hfn => by
      obtain rfl : f = 3 := Option.some.inj ((show Tryd.prog.funcNamed "loop.example/g00562/laws.FnCatalog" = some 3 by kernel_rfl).symm.trans hf) |>.symm
      obtain rfl : fn = Tryd.f3 := (Option.some.inj (Tryd.func3.symm.trans hfn)).symm
      exact ⟨by kernel_rfl, fun j t ht => by
        rw [Tryd.params3] at ht
        have hm : t ∈ [22, 22] := by simpa using Array.mem_of_getElem? ht
        have hall : ([22, 22].all fun u => !Tryd.prog.wantsStandIn u) = true := by kernel_rfl
        exact (show Tryd.prog.wantsStandIn t = false by simpa using List.all_eq_true.1 hall t hm)⟩)
    (by kernel_rfl)

end CatalogLaw
/-- THE STATEMENT: THE CARD -/
theorem fnCatalog_card : Rows.FnCatalogCardSaid := CatalogLaw.card_holds
#print axioms fnCatalog_card
namespace CatalogLaw
end CatalogLaw
end Go.Proofs.YtaedolophhcjjaaDoor
