/-
  FnExactMarkOf: for every engine the law's call returns true (the program's MarkOf tells what the model's does, and writes into no engine), and what came in reads as it did. The condition: the program's own variables hold what its text lays.
-/
import Derived.Test.YtdgomcpkbahfeaaGreatDoorCards
import Derived.Deep.RegionHeld3
import Derived.Test.YtdgomcpkbahfeaaGreatDoorE34
namespace Go.Proofs.YtdgomcpkbahfeaaGreatDoor
open Go.ChangeShapes Go.WideShapes Go.ChangeAt Go.RowKit
open Go.ChangeMaps (open_string shut_string)
set_option linter.unusedVariables false
namespace MarkOfL
open CatR EngR
/-- What is held through the last region. -/
def BX (w5 : World) (B1 B2 : Nat) (a0 a1 a2 a3 a4 a5 a6 b0 b1 b2 b3 b4 b5 b6 : Value) (W : World) : Prop := Below w5.heap.size w5 W ∧ B1 < W.heap.size ∧ B2 < W.heap.size ∧ W.cell? ⟨B1, 0, none⟩ = some a0 ∧ W.cell? ⟨B1, 1, none⟩ = some a1 ∧ W.cell? ⟨B1, 2, none⟩ = some a2 ∧ W.cell? ⟨B1, 3, none⟩ = some a3 ∧ W.cell? ⟨B1, 4, none⟩ = some a4 ∧ W.cell? ⟨B1, 5, none⟩ = some a5 ∧ W.cell? ⟨B1, 6, none⟩ = some a6 ∧ W.cell? ⟨B2, 0, none⟩ = some b0 ∧ W.cell? ⟨B2, 1, none⟩ = some b1 ∧ W.cell? ⟨B2, 2, none⟩ = some b2 ∧ W.cell? ⟨B2, 3, none⟩ = some b3 ∧ W.cell? ⟨B2, 4, none⟩ = some b4 ∧ W.cell? ⟨B2, 5, none⟩ = some b5 ∧ W.cell? ⟨B2, 6, none⟩ = some b6
theorem BX.below {w5 : World} {B1 B2 : Nat} {a0 a1 a2 a3 a4 a5 a6 b0 b1 b2 b3 b4 b5 b6 : Value} {W W' : World} (h : BX w5 B1 B2 a0 a1 a2 a3 a4 a5 a6 b0 b1 b2 b3 b4 b5 b6 W) (hb : Below W.heap.size W W') : BX w5 B1 B2 a0 a1 a2 a3 a4 a5 a6 b0 b1 b2 b3 b4 b5 b6 W' := by
  obtain ⟨h0, l1, l2, p0, p1, p2, p3, p4, p5, p6, p7, p8, p9, p10, p11, p12, p13⟩ := h
  have f := fun o => hb.cell (p := ⟨B1, o, none⟩) l1
  have g := fun o => hb.cell (p := ⟨B2, o, none⟩) l2
  have hs := hb.size
  exact ⟨h0.trans (hb.mono h0.size), by omega, by omega, (f 0).trans p0, (f 1).trans p1, (f 2).trans p2, (f 3).trans p3, (f 4).trans p4, (f 5).trans p5, (f 6).trans p6, (g 0).trans p7, (g 1).trans p8, (g 2).trans p9, (g 3).trans p10, (g 4).trans p11, (g 5).trans p12, (g 6).trans p13⟩
theorem BX.drew {w5 : World} {B1 B2 : Nat} {a0 a1 a2 a3 a4 a5 a6 b0 b1 b2 b3 b4 b5 b6 : Value} {W : World} (h : BX w5 B1 B2 a0 a1 a2 a3 a4 a5 a6 b0 b1 b2 b3 b4 b5 b6 W) : BX w5 B1 B2 a0 a1 a2 a3 a4 a5 a6 b0 b1 b2 b3 b4 b5 b6 W.drew := ⟨h.1.drew, h.2⟩
set_option maxRecDepth 100000 in
set_option maxHeartbeats 8000000 in
theorem law_in (P : Prop) (M : Value → World → Prop) (L : World → Prop) (ma : Option Addr) (ml mc : Nat) (ca : Option Addr) (cl cc : Nat) (sa : Option Addr) (sl sc : Nat) (ea : Option Addr) (el ec : Nat) (ua : Option Addr) (ul uc : Nat) (da : Option Addr) (dl dc : Nat) (fr : Int) (r : Int) (w : World) (hI : M (.agg #[.slice ma ml mc, .slice ca cl cc, .slice sa sl sc, .slice ea el ec, .slice ua ul uc, .slice da dl dc, .int .i64 fr]) w) (hL : L w)
    (hk : ∀ v w w', M v w → Below w.heap.size w w' → M v w') (hkl : ∀ w w', L w → Below w.heap.size w w' → L w')
    (hZ : ∀ w, M (.agg #[.slice ma ml mc, .slice ca cl cc, .slice sa sl sc, .slice ea el ec, .slice ua ul uc, .slice da dl dc, .int .i64 fr]) w → Calls Tryz.prog 5 #[.agg #[.slice ma ml mc, .slice ca cl cc, .slice sa sl sc, .slice ea el ec, .slice ua ul uc, .slice da dl dc, .int .i64 fr], .int .i64 1048576] w fun e w' => SzOut 1048576 P e ∧ Below w.heap.size w w')
    (hT : P → ∀ w, M (.agg #[.slice ma ml mc, .slice ca cl cc, .slice sa sl sc, .slice ea el ec, .slice ua ul uc, .slice da dl dc, .int .i64 fr]) w → Calls Tryz.prog 7 #[.agg #[.slice ma ml mc, .slice ca cl cc, .slice sa sl sc, .slice ea el ec, .slice ua ul uc, .slice da dl dc, .int .i64 fr]] w fun e w' => (∃ (pma pca psa pea pua pda : Option Addr) (pmc pcc psc pec puc pdc : Nat), e = .returned (.agg #[.slice pma ml pmc, .slice pca cl pcc, .slice psa sl psc, .slice pea el pec, .slice pua ul puc, .slice pda dl pdc, .int .i64 fr]) ∧ M (.agg #[.slice pma ml pmc, .slice pca cl pcc, .slice psa sl psc, .slice pea el pec, .slice pua ul puc, .slice pda dl pdc, .int .i64 fr]) w') ∧ Below w.heap.size w w')
    (hS : P → ∀ v w, M v w → L w → Calls Tryz.prog 10 #[v] w fun e w' => e = .returned (.int .i64 r) ∧ Below w.heap.size w w')
    (hM : P → ∀ v w, M v w → L w → Calls Tryz.prog 11 #[v] w fun e w' => e = .returned (.int .i64 r) ∧ Below w.heap.size w w')
    (hE : P → ∀ v v' w, M v w → M v' w → Calls Tryz.prog 9 #[v, v'] w fun e w' => e = .returned (.bool true) ∧ Below w.heap.size w w') :
    Calls Tryz.prog 4 #[.agg #[.slice ma ml mc, .slice ca cl cc, .slice sa sl sc, .slice ea el ec, .slice ua ul uc, .slice da dl dc, .int .i64 fr]] w fun e w' => e = .returned (.bool true) ∧ Below w.heap.size w w' := by
  have HI := hid_intro hI
  have HL := hid_intro hL
  have HK := hid_intro hk
  have HKL := hid_intro hkl
  have HZ := hid_intro hZ
  have HT9 := hid_intro hT
  have HS9 := hid_intro hS
  have HM9 := hid_intro hM
  have HE9 := hid_intro hE
  clear hI hL hk hkl hZ hT hS hM hE
  have HA0 : Hid (Blk w.heap.size [.slice ma ml mc, .slice ca cl cc, .slice sa sl sc, .slice ea el ec, .slice ua ul uc, .slice da dl dc, .int .i64 fr] (w.alloc (.cells #[.slice ma ml mc, .slice ca cl cc, .slice sa sl sc, .slice ea el ec, .slice ua ul uc, .slice da dl dc, .int .i64 fr] 31))) := hid_intro (Blk.new w _ _)
  have HB0 : Hid (Below w.heap.size w (w.alloc (.cells #[.slice ma ml mc, .slice ca cl cc, .slice sa sl sc, .slice ea el ec, .slice ua ul uc, .slice da dl dc, .int .i64 fr] 31))) := hid_intro ((Below.refl _ _).alloc (Nat.le_refl _) _)
  go_enter Tryz.func4, Tryz.ntmps4
  go_wp2_with fail
  refine (HZ.out _ (HK.out _ _ _ HI.out HB0.out)).mono ?_
  rintro e w1 ⟨⟨L1, rfl, hL1⟩, hb1⟩
  rcases hL1 with rfl | ⟨hL1, _, hsm⟩
  · have HB1 := hid_intro (HB0.out.trans (hb1.mono HB0.out.size))
    clear hb1
    go_wp2_with fail
    go_ret
    exact ⟨rfl, HB1.out⟩
  have hL2 : ¬ L1 < 0 := by omega
  have HT := hid_intro (HT9.out hsm)
  have HS := hid_intro (HS9.out hsm)
  have HM := hid_intro (HM9.out hsm)
  have HE := hid_intro (HE9.out hsm)
  clear HT9 HS9 HM9 HE9 hsm
  have HA1 := hid_intro (HA0.out.below hb1)
  have HB1 := hid_intro (HB0.out.trans (hb1.mono HB0.out.size))
  have hl1 := HA1.out.1
  clear hb1 HA0 HB0
  have p0 : w1.cell? ⟨w.heap.size, 0, none⟩ = some (.slice ma ml mc) := HA1.out.2 0 (by simp)
  have p1 : w1.cell? ⟨w.heap.size, 1, none⟩ = some (.slice ca cl cc) := HA1.out.2 1 (by simp)
  have p2 : w1.cell? ⟨w.heap.size, 2, none⟩ = some (.slice sa sl sc) := HA1.out.2 2 (by simp)
  have p3 : w1.cell? ⟨w.heap.size, 3, none⟩ = some (.slice ea el ec) := HA1.out.2 3 (by simp)
  have p4 : w1.cell? ⟨w.heap.size, 4, none⟩ = some (.slice ua ul uc) := HA1.out.2 4 (by simp)
  have p5 : w1.cell? ⟨w.heap.size, 5, none⟩ = some (.slice da dl dc) := HA1.out.2 5 (by simp)
  have p6 : w1.cell? ⟨w.heap.size, 6, none⟩ = some (.int .i64 fr) := HA1.out.2 6 (by simp)
  go_wp2_with fail
  refine (HT.out _ (HK.out _ _ _ HI.out HB1.out)).mono ?_
  rintro e w2 ⟨⟨yma, yca, ysa, yea, yua, yda, ymc, ycc, ysc, yec, yuc, ydc, rfl, hN⟩, hb2⟩
  have HA2 := hid_intro (HA1.out.below hb2)
  have HB2 := hid_intro (HB1.out.trans (hb2.mono HB1.out.size))
  have HN2 := hid_intro hN
  clear hb2 hN HA1 HB1 hl1 p0 p1 p2 p3 p4 p5 p6
  go_wp2_with fail
  refine (HS.out _ _ HN2.out (HKL.out _ _ HL.out HB2.out)).mono ?_
  rintro e w3 ⟨rfl, hb3⟩
  have HA3 := hid_intro (HA2.out.below hb3)
  have HB3 := hid_intro (HB2.out.trans (hb3.mono HB2.out.size))
  have hl3 := HA3.out.1
  clear hb3 HA2 HB2 HN2
  have q0 : w3.cell? ⟨w.heap.size, 0, none⟩ = some (.slice ma ml mc) := HA3.out.2 0 (by simp)
  have q1 : w3.cell? ⟨w.heap.size, 1, none⟩ = some (.slice ca cl cc) := HA3.out.2 1 (by simp)
  have q2 : w3.cell? ⟨w.heap.size, 2, none⟩ = some (.slice sa sl sc) := HA3.out.2 2 (by simp)
  have q3 : w3.cell? ⟨w.heap.size, 3, none⟩ = some (.slice ea el ec) := HA3.out.2 3 (by simp)
  have q4 : w3.cell? ⟨w.heap.size, 4, none⟩ = some (.slice ua ul uc) := HA3.out.2 4 (by simp)
  have q5 : w3.cell? ⟨w.heap.size, 5, none⟩ = some (.slice da dl dc) := HA3.out.2 5 (by simp)
  have q6 : w3.cell? ⟨w.heap.size, 6, none⟩ = some (.int .i64 fr) := HA3.out.2 6 (by simp)
  go_wp2_with fail
  refine (HT.out _ (HK.out _ _ _ HI.out HB3.out)).mono ?_
  rintro e w4 ⟨⟨xma, xca, xsa, xea, xua, xda, xmc, xcc, xsc, xec, xuc, xdc, rfl, hN⟩, hb4⟩
  obtain ⟨W4, hW4⟩ : ∃ z, z = w4.alloc (.cells #[.slice xma ml xmc, .slice xca cl xcc, .slice xsa sl xsc, .slice xea el xec, .slice xua ul xuc, .slice xda dl xdc, .int .i64 fr] 43) := ⟨_, rfl⟩
  have hal : Below w4.heap.size w4 W4 := by rw [hW4]; exact (Below.refl _ _).alloc (Nat.le_refl _) _
  have HB4' := hid_intro (HB3.out.trans (hb4.mono HB3.out.size))
  have HA4 := hid_intro ((HA3.out.below hb4).below hal)
  have HB4 := hid_intro (HB4'.out.trans (hal.mono HB4'.out.size))
  have HX4 : Hid (Blk w4.heap.size [.slice xma ml xmc, .slice xca cl xcc, .slice xsa sl xsc, .slice xea el xec, .slice xua ul xuc, .slice xda dl xdc, .int .i64 fr] W4) := hid_intro (by rw [hW4]; exact Blk.new w4 _ _)
  have HN4 := hid_intro (HK.out _ _ _ hN hal)
  have HW4 := hid_intro hW4
  clear hb4 hN HA3 HB3 hl3 HB4' hal hW4 q0 q1 q2 q3 q4 q5 q6
  go_wp2_with fail
  rw [← HW4.out]
  clear HW4
  refine (HM.out _ _ HN4.out (HKL.out _ _ HL.out HB4.out)).mono ?_
  rintro e w5 ⟨rfl, hb5⟩
  have HA5 := hid_intro (HA4.out.below hb5)
  have HX5 := hid_intro (HX4.out.below hb5)
  have HN5 := hid_intro (HK.out _ _ _ HN4.out hb5)
  have HB5 := hid_intro (HB4.out.trans (hb5.mono HB4.out.size))
  have hl5 := HA5.out.1
  have hm5 := HX5.out.1
  clear hb5 HA4 HX4 HN4 HB4
  have HS0 : Hid (BX w5 w.heap.size w4.heap.size (.slice ma ml mc) (.slice ca cl cc) (.slice sa sl sc) (.slice ea el ec) (.slice ua ul uc) (.slice da dl dc) (.int .i64 fr) (.slice xma ml xmc) (.slice xca cl xcc) (.slice xsa sl xsc) (.slice xea el xec) (.slice xua ul xuc) (.slice xda dl xdc) (.int .i64 fr) w5) := hid_intro ⟨Below.refl _ _, hl5, hm5, HA5.out.2 0 (by simp), HA5.out.2 1 (by simp), HA5.out.2 2 (by simp), HA5.out.2 3 (by simp), HA5.out.2 4 (by simp), HA5.out.2 5 (by simp), HA5.out.2 6 (by simp), HX5.out.2 0 (by simp), HX5.out.2 1 (by simp), HX5.out.2 2 (by simp), HX5.out.2 3 (by simp), HX5.out.2 4 (by simp), HX5.out.2 5 (by simp), HX5.out.2 6 (by simp)⟩
  have HS1 := hid_intro HS0.out.drew
  have HM5 : Hid (∀ W, Below w5.heap.size w5 W → Calls Tryz.prog 7 #[.agg #[.slice ma ml mc, .slice ca cl cc, .slice sa sl sc, .slice ea el ec, .slice ua ul uc, .slice da dl dc, .int .i64 fr]] W fun e w' => (∃ (pma pca psa pea pua pda : Option Addr) (pmc pcc psc pec puc pdc : Nat), e = .returned (.agg #[.slice pma ml pmc, .slice pca cl pcc, .slice psa sl psc, .slice pea el pec, .slice pua ul puc, .slice pda dl pdc, .int .i64 fr]) ∧ M (.agg #[.slice pma ml pmc, .slice pca cl pcc, .slice psa sl psc, .slice pea el pec, .slice pua ul puc, .slice pda dl pdc, .int .i64 fr]) w' ∧ M (.agg #[.slice xma ml xmc, .slice xca cl xcc, .slice xsa sl xsc, .slice xea el xec, .slice xua ul xuc, .slice xda dl xdc, .int .i64 fr]) w') ∧ Below W.heap.size W w') := hid_intro (fun W hW => (HT.out _ (HK.out _ _ _ HI.out (HB5.out.trans (hW.mono HB5.out.size)))).mono fun e w' h => by
    obtain ⟨⟨pma, pca, psa, pea, pua, pda, pmc, pcc, psc, pec, puc, pdc, he, h1⟩, hb⟩ := h
    exact ⟨⟨pma, pca, psa, pea, pua, pda, pmc, pcc, psc, pec, puc, pdc, he, h1, HK.out _ _ _ HN5.out (hW.trans (hb.mono hW.size))⟩, hb⟩)
  clear HA5 HX5 hl5 hm5
  · go_wp2_with fail
    go_region_held3 (fun W => Below w5.heap.size w5 W ∧ w.heap.size < W.heap.size ∧ w4.heap.size < W.heap.size ∧ W.cell? ⟨w.heap.size, 0, none⟩ = some (.slice ma ml mc) ∧ W.cell? ⟨w.heap.size, 1, none⟩ = some (.slice ca cl cc) ∧ W.cell? ⟨w.heap.size, 2, none⟩ = some (.slice sa sl sc) ∧ W.cell? ⟨w.heap.size, 3, none⟩ = some (.slice ea el ec) ∧ W.cell? ⟨w.heap.size, 4, none⟩ = some (.slice ua ul uc) ∧ W.cell? ⟨w.heap.size, 5, none⟩ = some (.slice da dl dc) ∧ W.cell? ⟨w.heap.size, 6, none⟩ = some (.int .i64 fr) ∧ W.cell? ⟨w4.heap.size, 0, none⟩ = some (.slice xma ml xmc) ∧ W.cell? ⟨w4.heap.size, 1, none⟩ = some (.slice xca cl xcc) ∧ W.cell? ⟨w4.heap.size, 2, none⟩ = some (.slice xsa sl xsc) ∧ W.cell? ⟨w4.heap.size, 3, none⟩ = some (.slice xea el xec) ∧ W.cell? ⟨w4.heap.size, 4, none⟩ = some (.slice xua ul xuc) ∧ W.cell? ⟨w4.heap.size, 5, none⟩ = some (.slice xda dl xdc) ∧ W.cell? ⟨w4.heap.size, 6, none⟩ = some (.int .i64 fr)) (first | assumption | (exact HS0.out) | (exact HS1.out) | (exact BX.below (w5 := w5) (B1 := w.heap.size) (B2 := w4.heap.size) (by assumption) hb6) | (exact BX.below (w5 := w5) (B1 := w.heap.size) (B2 := w4.heap.size) (by assumption) hb7))
      (first | (go_at_call 7; refine (HM5.out _ (by first | exact (by assumption : BX w5 _ _ _ _ _ _ _ _ _ _ _ _ _ _ _ _ _).1 | exact HS0.out.1 | exact HS1.out.1)).mono ?_; rintro e w6 ⟨⟨zma, zca, zsa, zea, zua, zda, zmc, zcc, zsc, zec, zuc, zdc, rfl, hN6, hN7⟩, hb6⟩) | (go_at_call 9; refine (HE.out _ _ _ hN7 hN6).mono ?_; rintro e w7 ⟨rfl, hb7⟩))
    rename_i hS
    have HBF := hid_intro (HB5.out.trans (hS.1.mono HB5.out.size))
    clear hS
    go_wp2_with fail
    go_ret
    exact ⟨rfl, HBF.out⟩
theorem walk (x : Eng) (v : Value) (w : World) (hI : IsEng v x w) (hin : x.In) (hd : ∀ d ∈ x.ds, (Lit.int .i64 d.mo).wf = true) (hL : LayE.Ok w) :
    Calls Tryz.prog 4 #[v] w fun e w' => e = .returned (.bool true) ∧ Below w.heap.size w w' := by
  obtain ⟨n, n1, n2⟩ := start_num x.fr
  have hI' := hI
  obtain ⟨ma, mc, ca, cc, sa, sc, ea, ec, ua, uc, da, dc, rfl, _⟩ := hI'
  exact law_in x.Small (fun v w => IsEng v x w) LayE.Ok ma x.c.ms.length mc ca x.c.cs.length cc sa x.ss.length sc ea x.es.length ec ua x.ws.length uc da x.ds.length dc x.fr (marB x n) w hI hL (fun v w w' h hb => h.below hb) (fun w w' h hb => h.below hb)
    (fun w h => szEng _ x w hin h)
    (fun hs w h => (toEng _ x w hs h).mono fun e w' h2 => by
      obtain ⟨v', rfl, hE, hb⟩ := h2
      have hE' := hE
      obtain ⟨ma', mc', ca', cc', sa', sc', ea', ec', ua', uc', da', dc', rfl, _⟩ := hE'
      exact ⟨⟨ma', ca', sa', ea', ua', da', mc', cc', sc', ec', uc', dc', rfl, hE⟩, hb⟩)
    (fun hs v w h hl => spec_mark v x n w hs h (fun a b W hW => n2 a b W))
    (fun hs v w h hl => impl_mark v x n w hs h hd (fun W hW => (hl.below hW).1) (fun W hW => (hl.below hW).2) (fun a b W hW => n1 a b W (hl.below hW).2))
    (fun hs v v' w h h' => eqEngA v v' x w hs h h')
set_option maxRecDepth 100000 in
theorem lifted (os : Os) (started : os.Started) (H : Type) (enc : TypeId × Value → H) :
    ReturnsInHanded {} Tryz.checked os 4 .any (fun w args => (Rows.fnExactMarkOfSpec.pre enc Tryz.prog Tryz.f4 [] false w args ∧ laidMetH Tryz.prog LayE.laid w) ∧ sizedMet enc Tryz.prog Tryz.f4 (OpenSpec.ofChange Rows.fnExactMarkOfSpec) false w args)
      (Rows.fnExactMarkOfSpec.post enc Tryz.prog Tryz.f4 false true false false) := by
  refine returnsInHanded_of_change_and (C := Tryz.checked) (X := fun w _ => laidMetH Tryz.prog LayE.laid w) (fun _ _ _ hh h => h.of_heap hh) LayE.own started (by kernel_rfl) Tryz.func4
    (ChangeSpec.witness_shaped (enc := enc) (C := Tryz.checked) (os := os) (X := fun w _ => laidMetH Tryz.prog LayE.laid w) false (World.doorLaid Tryz.prog 400 os) #[.agg #[.slice none 0 0, .slice none 0 0, .slice none 0 0, .slice none 0 0, .slice none 0 0, .slice none 0 0, .int .i64 0]] 8 rfl (World.shaped_of_RefB (by kernel_rfl) (by kernel_rfl)) (by kernel_rfl) (by kernel_rfl) (by kernel_rfl) (LayE.door_met os _)) ?_
  intro W base args ds gs before hval0 hW _ _ hL _
  have hval : ∀ (j : Nat) t v, Tryz.f4.params[j]? = some t → args[j]? = some v → Value.okWide Tryz.prog W .any base t v := hval0
  have hW' := hW
  obtain ⟨p, q, hA0, hV0, rfl, hfz, hnd⟩ := hW
  have hA : DataW.TrodAll enc Tryz.prog W 0 (fun _ => true) true Tryz.f4.params.toList args.toList ds p := hA0
  have hV : DataW.TrodVars enc Tryz.prog W (fun _ => true) ["loop.example/g00562/impl.errNoMeter", "loop.example/g00562/impl.monthLengths"] gs q := hV0
  rw [Tryz.params4] at hA hval
  obtain ⟨v0, d0, rfl, rfl, h0⟩ := trodAll_one hA
  have k0 := h0
  have lt0 : ∀ x ∈ p, x.block < W.heap.size := fun x hx => hW'.lt x (by simp [hx])
  obtain ⟨cs0, rfl, _⟩ := okWide_struct Tryz.underlying31 (hval 0 31 v0 rfl rfl)
  obtain ⟨fuel0, hf0⟩ := h0
  obtain ⟨x0, ma0, mc0, ca0, cc0, sa0, sc0, ea0, ec0, ua0, uc0, da0, dc0, hcs0, hin0, hdw0, hI0⟩ := EngR.eng_open hf0
  obtain rfl : cs0 = EngR.ecells x0 ma0 mc0 ca0 cc0 sa0 sc0 ea0 ec0 ua0 uc0 da0 dc0 := by
    obtain ⟨l⟩ := cs0
    exact Array.ext' (by simpa [Value.cells] using hcs0)
  have hl := LayE.of_laid hL
  obtain ⟨_, _, _, _, _, _, _, _, _, _, _, _, rfl, _⟩ := trodVars_two hV
  refine (walk x0 _ W hI0 hin0 hdw0 hl).mono fun e W' ⟨he, bel⟩ => ?_
  subst he
  exact ⟨_, rfl, _, _, _, _, _, _, hW', trodAll_mk1 (shut_bool Tryz.underlying4 true), trodAll_mk1 (Below.trod LayE.laidOut (by kernel_rfl) (of_decide_eq_true (by kernel_rfl)) k0 bel lt0), bel.trodVars LayE.laidOut (by kernel_rfl) hV, bel.frame _, fun h => by cases h⟩
theorem row_holds : Rows.FnExactMarkOfSaid :=
  OpenClaim.holds_of_wide 4 Tryz.f4 rfl rfl rfl rfl rfl rfl rfl ⟨rfl, rfl, rfl, rfl, rfl⟩ rfl rfl rfl rfl rfl (by kernel_rfl) Tryz.func4 (by kernel_rfl)
    (of_decide_eq_true (by kernel_rfl)) (by unfold Func.isWrapper; rw [if_neg (of_decide_eq_false (by kernel_rfl))]; exact ⟨rfl, rfl⟩)
    (fun os started H enc _ => lifted os started H enc)
theorem card_holds : Rows.FnExactMarkOfCardSaid :=
  Claim7.holds_tied_plain_at .later [] [.data, .sentinel] true Rows.fnExactMarkOfCard.stood.harness true
    row_holds (fun _ h => by cases h) (by kernel_rfl) (fun _ h => by cases h) fnExactMarkOf_row_tie rfl ⟨rfl, rfl⟩ (by kernel_rfl) rfl
    (fun f fn hf hfn => by
      obtain rfl : f = 4 := Option.some.inj ((show Tryz.prog.funcNamed "loop.example/g00562/laws.FnExactMarkOf" = some 4 by kernel_rfl).symm.trans hf) |>.symm
      obtain rfl : fn = Tryz.f4 := (Option.some.inj (Tryz.func4.symm.trans hfn)).symm
      exact ⟨by kernel_rfl, fun j t ht => by
        rw [Tryz.params4] at ht
        have hm : t ∈ [31] := by simpa using Array.mem_of_getElem? ht
        have hall : ([31].all fun u => !Tryz.prog.wantsStandIn u) = true := by kernel_rfl
        exact (show Tryz.prog.wantsStandIn t = false by simpa using List.all_eq_true.1 hall t hm)⟩)
    (by kernel_rfl)

end MarkOfL
/-- THE STATEMENT -/
theorem fnExactMarkOf_card : Rows.FnExactMarkOfCardSaid := MarkOfL.card_holds
#print axioms fnExactMarkOf_card
end Go.Proofs.YtdgomcpkbahfeaaGreatDoor
