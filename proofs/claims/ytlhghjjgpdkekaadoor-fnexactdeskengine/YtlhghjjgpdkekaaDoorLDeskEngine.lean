/-
  FnExactDeskEngine: the law's call returns true (the program's DeskEngine hands back what the model's does, its answer owns its memory, behind another call too). The condition is the card's: the program's variable starts as its text lays it.
-/
import Derived.Test.YtlhghjjgpdkekaaDoorDkE
import Derived.Test.YtlhghjjgpdkekaaDoorSentM
import Derived.Test.YtlhghjjgpdkekaaDoorCards
import Derived.Carry
import Derived.OpenVars
import Derived.Lib.SmallJoins
import Derived.SevenTiedAt
namespace Go.Proofs.YtlhghjjgpdkekaaDoor
open Go.ChangeShapes Go.WideShapes Go.ChangeAt Go.RowKit
open Go.ChangeMaps (open_string shut_string)
set_option linter.unusedVariables false
namespace DeskEngineL
open CatR StxR EngR DeskC ChG
open RowG (cellsAll)
/-- Nothing outside has changed. -/
structure OtC (g top : Nat) (w w' : World) : Prop where
  os : w'.os = w.os
  tape : w'.tape = w.tape
  output : w'.output = w.output
  size : w.heap.size ≤ w'.heap.size
  block : ∀ b, b < w.heap.size → (b < g ∨ top ≤ b) → w'.heap[b]? = w.heap[b]?
theorem OtC.out {g top B : Nat} {a w w' : World} (h : OtC g top w w') (hb : Below B a w) (hB : B ≤ g) (ha : B ≤ a.heap.size) : Below B a w' :=
  ⟨h.os.trans hb.os, h.tape.trans hb.tape, h.output.trans hb.output, Nat.le_trans hb.size h.size, fun k hk => (h.block k (by have := hb.size; omega) (.inl (by omega))).trans (hb.block k hk)⟩
theorem ot_blk {g top b : Nat} {cs : List Value} {w w' : World} (h : OtC g top w w') (hb : Blk b cs w) (hq : b < g ∨ top ≤ b) : Blk b cs w' := by
  have eb := h.block b hb.1 hq
  exact ⟨Nat.lt_of_lt_of_le hb.1 h.size, fun i hi => (World.cell?_of_block (a := ⟨b, i, none⟩) eb).trans (hb.2 i hi)⟩
set_option maxRecDepth 100000 in
set_option maxHeartbeats 8000000 in
theorem law_in (R : Value → World → Prop) (O : Nat → Value → World → Prop) (w : World) (hL : Laid w)
    (hR : ∀ v W W', R v W → Below W.heap.size W W' → R v W')
    (hOR : ∀ b v W, O b v W → R v W)
    (hF : ∀ b v W, O b v W → ∃ (ao : Option Addr) (n c : Nat) (la : Option Addr) (k d : Nat) (sa : Option Addr) (p q : Nat), v = .agg #[.slice ao n c, .slice la k d, .slice sa p q, .slice none 0 0, .slice none 0 0, .slice none 0 0, .int .i64 0])
    (hS : ∀ W, Calls Tryd.prog 4 #[] W fun e w' => ∃ v, e = .returned v ∧ O W.heap.size v w' ∧ Below W.heap.size W w')
    (hM : ∀ W, Laid W → Calls Tryd.prog 5 #[] W fun e w' => ∃ v, e = .returned v ∧ O W.heap.size v w' ∧ Below W.heap.size W w')
    (hE : ∀ v v' W, R v W → R v' W → Calls Tryd.prog 6 #[v, v'] W fun e w' => e = .returned (.bool true) ∧ Below W.heap.size W w')
    (hK : ∀ base v W Wt, O base v Wt → Below Wt.heap.size Wt W → Calls Tryd.prog 7 #[v, .int .i64 1] W fun e w' => ∃ KK : Nat, e = .returned (.int .i64 KK) ∧ OtC base Wt.heap.size W w' ∧ ∀ w2, Below w'.heap.size w' w2 → Calls Tryd.prog 8 #[v, .int .i64 1] w2 fun e w3 => e = .returned (.int .i64 KK) ∧ Below w2.heap.size w2 w3) :
    Calls Tryd.prog 3 #[] w fun e w' => e = .returned (.bool true) ∧ Below w.heap.size w w' := by
  have HLD := hid_intro hL
  have HR := hid_intro hR
  have HOR := hid_intro hOR
  have HF := hid_intro hF
  have HS := hid_intro hS
  have HM := hid_intro hM
  have HE := hid_intro hE
  have HK := hid_intro hK
  clear hR hOR hF hS hM hE hK hL
  go_enter Tryd.func3, Tryd.ntmps3
  go_wp2_with fail
  refine (HS.out _).mono ?_
  rintro e w1 ⟨v, rfl, hv, hb⟩
  have HR1 := hid_intro (HOR.out _ _ _ hv)
  have HB := hid_intro hb
  obtain ⟨a1, n1, c1, l1, k1, d1, s1, p1, q1, rfl⟩ := HF.out _ _ _ hv
  obtain ⟨w2, hw2⟩ : ∃ z, z = w1.alloc (.cells #[.slice a1 n1 c1, .slice l1 k1 d1, .slice s1 p1 q1, .slice none 0 0, .slice none 0 0, .slice none 0 0, .int .i64 0] 31) := ⟨_, rfl⟩
  have al : Below w1.heap.size w1 w2 := by rw [hw2]; exact (Below.refl _ _).alloc (Nat.le_refl _) _
  have HX1 : Hid (Blk w1.heap.size [.slice a1 n1 c1, .slice l1 k1 d1, .slice s1 p1 q1, .slice none 0 0, .slice none 0 0, .slice none 0 0, .int .i64 0] w2) := hid_intro (by rw [hw2]; exact Blk.new w1 [.slice a1 n1 c1, .slice l1 k1 d1, .slice s1 p1 q1, .slice none 0 0, .slice none 0 0, .slice none 0 0, .int .i64 0] 31)
  replace HR1 := hid_intro (HR.out _ _ _ HR1.out al)
  replace HB := hid_intro (HB.out.trans (al.mono HB.out.size))
  obtain ⟨B1, hB1⟩ : ∃ z, z = w1.heap.size := ⟨_, rfl⟩
  rw [← hB1] at HX1
  have HW := hid_intro hw2
  have HBB := hid_intro hB1
  clear hv hb al hw2 hB1
  go_wp2_with fail
  rw [← HW.out, ← HBB.out]
  clear HW HBB
  refine (HM.out _ (HLD.out.below HB.out)).mono ?_
  rintro e w3 ⟨v, rfl, hv, hb⟩
  have HO2 := hid_intro hv
  have HB3 := hid_intro hb
  obtain ⟨a2, n2, c2, l2, k2, d2, s2, p2, q2, rfl⟩ := HF.out _ _ _ hv
  obtain ⟨w4, hw4⟩ : ∃ z, z = w3.alloc (.cells #[.slice a2 n2 c2, .slice l2 k2 d2, .slice s2 p2 q2, .slice none 0 0, .slice none 0 0, .slice none 0 0, .int .i64 0] 31) := ⟨_, rfl⟩
  have al : Below w3.heap.size w3 w4 := by rw [hw4]; exact (Below.refl _ _).alloc (Nat.le_refl _) _
  have HX2 : Hid (Blk w3.heap.size [.slice a2 n2 c2, .slice l2 k2 d2, .slice s2 p2 q2, .slice none 0 0, .slice none 0 0, .slice none 0 0, .int .i64 0] w4) := hid_intro (by rw [hw4]; exact Blk.new w3 [.slice a2 n2 c2, .slice l2 k2 d2, .slice s2 p2 q2, .slice none 0 0, .slice none 0 0, .slice none 0 0, .int .i64 0] 31)
  have HAL := hid_intro al
  have HX1z := hid_intro (HX1.out.below hb)
  have HX1a := hid_intro ((HX1.out.below hb).below al)
  have HRa := hid_intro (HR.out _ _ _ (HR.out _ _ _ HR1.out hb) al)
  have HRb := hid_intro (HR.out _ _ _ (HOR.out _ _ _ hv) al)
  obtain ⟨B2, hB2⟩ : ∃ z, z = w3.heap.size := ⟨_, rfl⟩
  rw [← hB2] at HX2
  have HW := hid_intro hw4
  have HBB := hid_intro hB2
  clear hv hb al hw4 hB2
  have x1_0 : w3.cell? ⟨B1, 0, none⟩ = some (.slice a1 n1 c1) := HX1z.out.2 0 (by simp)
  have x1_1 : w3.cell? ⟨B1, 1, none⟩ = some (.slice l1 k1 d1) := HX1z.out.2 1 (by simp)
  have x1_2 : w3.cell? ⟨B1, 2, none⟩ = some (.slice s1 p1 q1) := HX1z.out.2 2 (by simp)
  have x1_3 : w3.cell? ⟨B1, 3, none⟩ = some (.slice none 0 0) := HX1z.out.2 3 (by simp)
  have x1_4 : w3.cell? ⟨B1, 4, none⟩ = some (.slice none 0 0) := HX1z.out.2 4 (by simp)
  have x1_5 : w3.cell? ⟨B1, 5, none⟩ = some (.slice none 0 0) := HX1z.out.2 5 (by simp)
  have x1_6 : w3.cell? ⟨B1, 6, none⟩ = some (.int .i64 0) := HX1z.out.2 6 (by simp)
  have xl1 := HX1z.out.1
  go_wp2_with fail
  rw [← HW.out, ← HBB.out]
  clear HW
  have HBW : Hid (Below w2.heap.size w2 w4) := hid_intro (HB3.out.trans (HAL.out.mono HB3.out.size))
  refine (HE.out _ _ _ HRb.out HRa.out).mono ?_
  rintro e w5 ⟨rfl, hb⟩
  replace HBW := hid_intro (HBW.out.trans (hb.mono HBW.out.size))
  have HTW : Hid (Below w3.heap.size w3 w5) := hid_intro (HAL.out.trans (hb.mono HAL.out.size))
  replace HX1a := hid_intro (HX1a.out.below hb)
  replace HX2 := hid_intro (HX2.out.below hb)
  clear hb HX1z
  clear x1_0 x1_1 x1_2 x1_3 x1_4 x1_5 x1_6 xl1
  have x2_0 : w5.cell? ⟨B2, 0, none⟩ = some (.slice a2 n2 c2) := HX2.out.2 0 (by simp)
  have x2_1 : w5.cell? ⟨B2, 1, none⟩ = some (.slice l2 k2 d2) := HX2.out.2 1 (by simp)
  have x2_2 : w5.cell? ⟨B2, 2, none⟩ = some (.slice s2 p2 q2) := HX2.out.2 2 (by simp)
  have x2_3 : w5.cell? ⟨B2, 3, none⟩ = some (.slice none 0 0) := HX2.out.2 3 (by simp)
  have x2_4 : w5.cell? ⟨B2, 4, none⟩ = some (.slice none 0 0) := HX2.out.2 4 (by simp)
  have x2_5 : w5.cell? ⟨B2, 5, none⟩ = some (.slice none 0 0) := HX2.out.2 5 (by simp)
  have x2_6 : w5.cell? ⟨B2, 6, none⟩ = some (.int .i64 0) := HX2.out.2 6 (by simp)
  have xl2 := HX2.out.1
  have HMK := hid_intro (HK.out _ _ _ _ HO2.out HTW.out)
  go_wp2_with fail
  refine HMK.out.mono ?_
  rintro e w6 ⟨KK, rfl, hot, hh⟩
  have HH := hid_intro hh
  have hlB1 : B1 < w2.heap.size := HX1.out.1
  replace HBW := hid_intro (hot.out HBW.out (Nat.le_refl _) (Nat.le_refl _))
  replace HX2 := hid_intro (ot_blk hot HX2.out (.inr (Nat.le_of_eq HBB.out.symm)))
  replace HX1a := hid_intro (ot_blk hot HX1a.out (.inl hlB1))
  clear hot hh HMK
  clear x2_0 x2_1 x2_2 x2_3 x2_4 x2_5 x2_6 xl2
  have x2_0 : w6.cell? ⟨B2, 0, none⟩ = some (.slice a2 n2 c2) := HX2.out.2 0 (by simp)
  have x2_1 : w6.cell? ⟨B2, 1, none⟩ = some (.slice l2 k2 d2) := HX2.out.2 1 (by simp)
  have x2_2 : w6.cell? ⟨B2, 2, none⟩ = some (.slice s2 p2 q2) := HX2.out.2 2 (by simp)
  have x2_3 : w6.cell? ⟨B2, 3, none⟩ = some (.slice none 0 0) := HX2.out.2 3 (by simp)
  have x2_4 : w6.cell? ⟨B2, 4, none⟩ = some (.slice none 0 0) := HX2.out.2 4 (by simp)
  have x2_5 : w6.cell? ⟨B2, 5, none⟩ = some (.slice none 0 0) := HX2.out.2 5 (by simp)
  have x2_6 : w6.cell? ⟨B2, 6, none⟩ = some (.int .i64 0) := HX2.out.2 6 (by simp)
  have xl2 := HX2.out.1
  have hk0 : ¬ ((KK : Nat) : Int) < 0 := by omega
  go_wp2_with fail
  refine (HH.out _ (Below.refl _ _)).mono ?_
  rintro e w7 ⟨rfl, hb⟩
  have H67 := hid_intro hb
  replace HBW := hid_intro (HBW.out.trans (hb.mono HBW.out.size))
  replace HX2 := hid_intro (HX2.out.below hb)
  replace HX1a := hid_intro (HX1a.out.below hb)
  clear hb
  clear x2_0 x2_1 x2_2 x2_3 x2_4 x2_5 x2_6 xl2
  go_wp2_with fail
  refine (HM.out _ (HLD.out.below (HB.out.trans (HBW.out.mono HB.out.size)))).mono ?_
  rintro e w8 ⟨v, rfl, hv, hb⟩
  obtain ⟨a3, n3, c3, l3, k3, d3, s3, p3, q3, rfl⟩ := HF.out _ _ _ hv
  obtain ⟨w9, hw9⟩ : ∃ z, z = w8.alloc (.cells #[.slice a3 n3 c3, .slice l3 k3 d3, .slice s3 p3 q3, .slice none 0 0, .slice none 0 0, .slice none 0 0, .int .i64 0] 31) := ⟨_, rfl⟩
  have al : Below w8.heap.size w8 w9 := by rw [hw9]; exact (Below.refl _ _).alloc (Nat.le_refl _) _
  have HX3 : Hid (Blk w8.heap.size [.slice a3 n3 c3, .slice l3 k3 d3, .slice s3 p3 q3, .slice none 0 0, .slice none 0 0, .slice none 0 0, .int .i64 0] w9) := hid_intro (by rw [hw9]; exact Blk.new w8 [.slice a3 n3 c3, .slice l3 k3 d3, .slice s3 p3 q3, .slice none 0 0, .slice none 0 0, .slice none 0 0, .int .i64 0] 31)
  have HRc := hid_intro (HR.out _ _ _ (HOR.out _ _ _ hv) al)
  have H79 : Hid (Below w7.heap.size w7 w9) := hid_intro (hb.trans (al.mono hb.size))
  replace HBW := hid_intro (HBW.out.trans (H79.out.mono HBW.out.size))
  replace HX2 := hid_intro (HX2.out.below H79.out)
  have HX1z := hid_intro (HX1a.out.below hb)
  replace HX1a := hid_intro (HX1a.out.below H79.out)
  have HRd := hid_intro (HR.out _ _ _ HR1.out HBW.out)
  obtain ⟨B3, hB3⟩ : ∃ z, z = w8.heap.size := ⟨_, rfl⟩
  rw [← hB3] at HX3
  have HW := hid_intro hw9
  have HBC := hid_intro hB3
  clear hv hb al hw9 hB3
  have x1_0 : w8.cell? ⟨B1, 0, none⟩ = some (.slice a1 n1 c1) := HX1z.out.2 0 (by simp)
  have x1_1 : w8.cell? ⟨B1, 1, none⟩ = some (.slice l1 k1 d1) := HX1z.out.2 1 (by simp)
  have x1_2 : w8.cell? ⟨B1, 2, none⟩ = some (.slice s1 p1 q1) := HX1z.out.2 2 (by simp)
  have x1_3 : w8.cell? ⟨B1, 3, none⟩ = some (.slice none 0 0) := HX1z.out.2 3 (by simp)
  have x1_4 : w8.cell? ⟨B1, 4, none⟩ = some (.slice none 0 0) := HX1z.out.2 4 (by simp)
  have x1_5 : w8.cell? ⟨B1, 5, none⟩ = some (.slice none 0 0) := HX1z.out.2 5 (by simp)
  have x1_6 : w8.cell? ⟨B1, 6, none⟩ = some (.int .i64 0) := HX1z.out.2 6 (by simp)
  have xl1 := HX1z.out.1
  go_wp2_with fail
  rw [← HW.out, ← HBC.out]
  clear HW HBC
  refine (HE.out _ _ _ HRc.out HRd.out).mono ?_
  rintro e w10 ⟨rfl, hb⟩
  replace HBW := hid_intro (HBW.out.trans (hb.mono HBW.out.size))
  replace HX2 := hid_intro (HX2.out.below hb)
  have H610 : Hid (Below w6.heap.size w6 w10) := hid_intro ((H67.out.trans (H79.out.mono H67.out.size)).trans (hb.mono (H67.out.trans (H79.out.mono H67.out.size)).size))
  clear hb HX1z
  clear x1_0 x1_1 x1_2 x1_3 x1_4 x1_5 x1_6 xl1
  have x2_0 : w10.cell? ⟨B2, 0, none⟩ = some (.slice a2 n2 c2) := HX2.out.2 0 (by simp)
  have x2_1 : w10.cell? ⟨B2, 1, none⟩ = some (.slice l2 k2 d2) := HX2.out.2 1 (by simp)
  have x2_2 : w10.cell? ⟨B2, 2, none⟩ = some (.slice s2 p2 q2) := HX2.out.2 2 (by simp)
  have x2_3 : w10.cell? ⟨B2, 3, none⟩ = some (.slice none 0 0) := HX2.out.2 3 (by simp)
  have x2_4 : w10.cell? ⟨B2, 4, none⟩ = some (.slice none 0 0) := HX2.out.2 4 (by simp)
  have x2_5 : w10.cell? ⟨B2, 5, none⟩ = some (.slice none 0 0) := HX2.out.2 5 (by simp)
  have x2_6 : w10.cell? ⟨B2, 6, none⟩ = some (.int .i64 0) := HX2.out.2 6 (by simp)
  have xl2 := HX2.out.1
  go_wp2_with fail
  refine (HH.out _ H610.out).mono ?_
  rintro e w11 ⟨rfl, hb⟩
  replace HBW := hid_intro (HBW.out.trans (hb.mono HBW.out.size))
  clear hb
  clear x2_0 x2_1 x2_2 x2_3 x2_4 x2_5 x2_6 xl2
  have HBF := hid_intro (HB.out.trans (HBW.out.mono HB.out.size))
  go_wp2_with fail
  go_ret
  exact ⟨rfl, HBF.out⟩
theorem walk (w : World) (hL : Laid w) :
    Calls Tryd.prog 3 #[] w fun e w' => e = .returned (.bool true) ∧ Below w.heap.size w w' := by
  obtain ⟨h1, h2, h3, h4, h5⟩ := en_small (c := deskCa) (ns := dns) desk_small
  exact law_in (fun v W => EdR v (enA deskCa dns) (enS deskCa dns) W) (fun b v W => EdO b v (enA deskCa dns) (enS deskCa dns) W) w hL (fun v W W' h hb => h.below hb) (fun b v W h => h.reads)
    (fun b v W h => by
      obtain ⟨ma, mc, ca, cc, sa, sc, e, _⟩ := h.reads
      exact ⟨_, _, _, _, _, _, _, _, _, e⟩)
    (fun W => sdeskE W) (fun W hL => ideskE W hL)
    (fun v v' W h h' => by
      obtain ⟨ma, mc, ca, cc, sa, sc, rfl, g1, g2, g3⟩ := h
      obtain ⟨ma', mc', ca', cc', sa', sc', rfl, g1', g2', g3'⟩ := h'
      exact eqNew ma ma' ca ca' sa sa' mc mc' cc cc' sc sc' _ _ W h1 (by omega) g1 g2 g3 g1' g2' g3')
    (fun base v W Wt h hb => by
      obtain ⟨vm, va, cp, sa, sc, rfl, g1, g2, g3⟩ := h
      obtain ⟨K, T, ma, ml, mc, rfl, hh, hT⟩ := mkh_new base vm va sa cp sc _ _ h2 h3 h4 h5 Wt W g1 g2 g3 ⟨hb.size, fun k _ hk => hb.block k hk⟩
      refine (hh (fun _ => False) W (Chg.refl _ _) (fun b q => q.elim)).mono ?_
      rintro e w' ⟨rfl, q1, q2⟩
      exact ⟨K, rfl, ⟨q1.os, q1.tape, q1.output, q1.size, fun b hb hq => q1.block b hb (fun q => by have := hT b q; omega)⟩, fun w2 hb2 => q2 (fun _ => False) w2 (Chg.of_below hb2) (fun b q => q.elim)⟩)
set_option maxRecDepth 100000 in
theorem lifted (os : Os) (started : os.Started) (H : Type) (enc : TypeId × Value → H) :
    ReturnsInHanded {} Tryd.checked os 3 .any (fun w args => (Rows.fnExactDeskEngineSpec.pre enc Tryd.prog Tryd.f3 [] false w args ∧ laidMetH Tryd.prog Snm.laid w) ∧ sizedMet enc Tryd.prog Tryd.f3 (OpenSpec.ofChange Rows.fnExactDeskEngineSpec) false w args)
      (Rows.fnExactDeskEngineSpec.post enc Tryd.prog Tryd.f3 false true false false) := by
  refine returnsInHanded_of_change_and (C := Tryd.checked) (X := fun w _ => laidMetH Tryd.prog Snm.laid w) (fun _ _ _ hh h => h.of_heap hh) Snm.own started (by kernel_rfl) Tryd.func3
    (ChangeSpec.witness_shaped (enc := enc) (C := Tryd.checked) (os := os) (X := fun w _ => laidMetH Tryd.prog Snm.laid w) false (World.doorLaid Tryd.prog 400 os) #[] 8 rfl (World.shaped_of_RefB (by kernel_rfl) (by kernel_rfl)) (by kernel_rfl) (by kernel_rfl) (by kernel_rfl) (Snm.door_met os _)) ?_
  intro W base args ds gs before hval0 hW _ _ hL _
  have hval : ∀ (j : Nat) t v, Tryd.f3.params[j]? = some t → args[j]? = some v → Value.okWide Tryd.prog W .any base t v := hval0
  have hW' := hW
  obtain ⟨p, q, hA0, hV0, rfl, hfz, hnd⟩ := hW
  have hA : DataW.TrodAll enc Tryd.prog W 0 (fun _ => true) true Tryd.f3.params.toList args.toList ds p := hA0
  have hV : DataW.TrodVars enc Tryd.prog W (fun _ => true) ["loop.example/g00562/impl.errNoMeter"] gs q := hV0
  rw [Tryd.params3] at hA hval
  obtain ⟨rfl, rfl, rfl⟩ := trodAll_none hA
  obtain ⟨av, hv⟩ := Snm.of_laid hL
  have hl := Snm.laid_of hv
  obtain ⟨rfl, rfl⟩ := hV.unique (vars_read1 enc Snm.gv Snm.gt Tryd.underlying111 hv trivial _)
  refine (walk  W  hl).mono fun e W' ⟨he, bel⟩ => ?_
  subst he
  exact ⟨_, rfl, _, _, _, _, _, _, hW', trodAll_mk1 (shut_bool Tryd.underlying4 true), trodAll_mk0 , vars_read1 enc Snm.gv Snm.gt Tryd.underlying111 (Snm.var_below hl hv bel) trivial _, bel.frame _, fun h => by cases h⟩
theorem row_holds : Rows.FnExactDeskEngineSaid :=
  OpenClaim.holds_of_wide 3 Tryd.f3 rfl rfl rfl rfl rfl rfl rfl ⟨rfl, rfl, rfl, rfl, rfl⟩ rfl rfl rfl rfl rfl (by kernel_rfl) Tryd.func3 (by kernel_rfl)
    (of_decide_eq_true (by kernel_rfl)) (by unfold Func.isWrapper; rw [if_neg (of_decide_eq_false (by kernel_rfl))]; exact ⟨rfl, rfl⟩)
    (fun os started H enc _ => lifted os started H enc)
theorem card_holds : Rows.FnExactDeskEngineCardSaid :=
  Claim7.holds_tied_plain_at .later [] [.sentinel] true Rows.fnExactDeskEngineCard.stood.harness true
    row_holds (fun _ h => by cases h) (by kernel_rfl) (fun _ h => by cases h) fnExactDeskEngine_row_tie rfl ⟨rfl, rfl⟩ (by kernel_rfl) rfl
    (fun f fn hf hfn => by
      obtain rfl : f = 3 := Option.some.inj ((show Tryd.prog.funcNamed "loop.example/g00562/laws.FnExactDeskEngine" = some 3 by kernel_rfl).symm.trans hf) |>.symm
      obtain rfl : fn = Tryd.f3 := (Option.some.inj (Tryd.func3.symm.trans hfn)).symm
      exact ⟨by kernel_rfl, fun j t ht => by
        rw [Tryd.params3] at ht
        exact absurd ht (by simp)⟩)
    (by kernel_rfl)

end DeskEngineL
/-- THE STATEMENT: THE CARD -/
theorem fnExactDeskEngine_holds : Rows.FnExactDeskEngineCardSaid := DeskEngineL.card_holds
#print axioms fnExactDeskEngine_holds
end Go.Proofs.YtlhghjjgpdkekaaDoor
