/-
  FnExactCatalogRight: for every catalog the law's call returns true (the program's CatalogRight tells what the model's does, and writes into no catalog), and what came in reads as it did. The condition: the program's own error stands in its variable.
-/
import Derived.Test.YtnpnegcmohgnfaaDoorCaR
import Derived.Test.YtnpnegcmohgnfaaDoorSCa
import Derived.Test.YtnpnegcmohgnfaaDoorCatIn
import Derived.Test.YtnpnegcmohgnfaaDoorBlk
import Derived.Test.YtnpnegcmohgnfaaDoorSentM
import Derived.Test.YtnpnegcmohgnfaaDoorCards
import Derived.Deep.RegionHeld3
namespace Go.Proofs.YtnpnegcmohgnfaaDoor
open Go.ChangeShapes Go.WideShapes Go.ChangeAt Go.RowKit
open Go.ChangeMaps (open_string shut_string)
set_option linter.unusedVariables false
namespace CatalogRightL
open CatR
/-- What is held through the last region. -/
def BX (w5 : World) (B1 B2 : Nat) (a0 a1 b0 b1 : Value) (W : World) : Prop := Below w5.heap.size w5 W ∧ B1 < W.heap.size ∧ B2 < W.heap.size ∧ W.cell? ⟨B1, 0, none⟩ = some a0 ∧ W.cell? ⟨B1, 1, none⟩ = some a1 ∧ W.cell? ⟨B2, 0, none⟩ = some b0 ∧ W.cell? ⟨B2, 1, none⟩ = some b1
theorem BX.below {w5 : World} {B1 B2 : Nat} {a0 a1 b0 b1 : Value} {W W' : World} (h : BX w5 B1 B2 a0 a1 b0 b1 W) (hb : Below W.heap.size W W') : BX w5 B1 B2 a0 a1 b0 b1 W' := by
  obtain ⟨h0, l1, l2, p0, p1, p2, p3⟩ := h
  have f := fun o => hb.cell (p := ⟨B1, o, none⟩) l1
  have g := fun o => hb.cell (p := ⟨B2, o, none⟩) l2
  have hs := hb.size
  exact ⟨h0.trans (hb.mono h0.size), by omega, by omega, (f 0).trans p0, (f 1).trans p1, (g 0).trans p2, (g 1).trans p3⟩
theorem BX.drew {w5 : World} {B1 B2 : Nat} {a0 a1 b0 b1 : Value} {W : World} (h : BX w5 B1 B2 a0 a1 b0 b1 W) : BX w5 B1 B2 a0 a1 b0 b1 W.drew := ⟨h.1.drew, h.2⟩
set_option maxRecDepth 100000 in
set_option maxHeartbeats 4000000 in
theorem law_in (P : Prop) (M : Value → World → Prop) (L : World → Prop) (ma : Option Addr) (ml mc : Nat) (ca : Option Addr) (cl cc : Nat) (r : Bool) (w : World) (hI : M (.agg #[.slice ma ml mc, .slice ca cl cc]) w) (hL : L w)
    (hk : ∀ v w w', M v w → Below w.heap.size w w' → M v w') (hkl : ∀ w w', L w → Below w.heap.size w w' → L w')
    (hZ : ∀ w, M (.agg #[.slice ma ml mc, .slice ca cl cc]) w → Calls Tryd.prog 7 #[.agg #[.slice ma ml mc, .slice ca cl cc], .int .i64 1048576] w fun e w' => SzOut 1048576 P e ∧ Below w.heap.size w w')
    (hT : P → ∀ v w, M v w → Calls Tryd.prog 9 #[v] w fun e w' => (∃ g h, e = .returned (.agg #[.slice (some ⟨g, 0, none⟩) ml ml, .slice (some ⟨h, 0, none⟩) cl cl]) ∧ M (.agg #[.slice (some ⟨g, 0, none⟩) ml ml, .slice (some ⟨h, 0, none⟩) cl cl]) w') ∧ Below w.heap.size w w')
    (hS : P → ∀ v w, M v w → Calls Tryd.prog 8 #[v] w fun e w' => e = .returned (.bool r) ∧ Below w.heap.size w w')
    (hM : P → ∀ v w, M v w → L w → Calls Tryd.prog 10 #[v] w fun e w' => e = .returned (.bool r) ∧ Below w.heap.size w w')
    (hE : P → ∀ v v' w, M v w → M v' w → Calls Tryd.prog 11 #[v, v'] w fun e w' => e = .returned (.bool true) ∧ Below w.heap.size w w') :
    Calls Tryd.prog 3 #[.agg #[.slice ma ml mc, .slice ca cl cc]] w fun e w' => e = .returned (.bool true) ∧ Below w.heap.size w w' := by
  have HI := hid_intro hI
  have HL := hid_intro hL
  have HK := hid_intro hk
  have HKL := hid_intro hkl
  have HZ := hid_intro hZ
  have HT0 := hid_intro hT
  have HS0 := hid_intro hS
  have HM0 := hid_intro hM
  have HE0 := hid_intro hE
  clear hI hL hk hkl hZ hT hS hM hE
  have HA0 : Hid (Blk w.heap.size [.slice ma ml mc, .slice ca cl cc] (w.alloc (.cells #[.slice ma ml mc, .slice ca cl cc] 25))) := hid_intro (Blk.new w _ _)
  have HB0 : Hid (Below w.heap.size w (w.alloc (.cells #[.slice ma ml mc, .slice ca cl cc] 25))) := hid_intro ((Below.refl _ _).alloc (Nat.le_refl _) _)
  go_enter Tryd.func3, Tryd.ntmps3
  go_wp2_with fail
  refine (HZ.out _ (HK.out _ _ _ HI.out HB0.out)).mono ?_
  rintro e w1 ⟨⟨L1, rfl, hL1⟩, hb1⟩
  rcases hL1 with rfl | ⟨hL1, _, hsm⟩
  · have HB1 := hid_intro (HB0.out.trans (hb1.mono HB0.out.size))
    clear hb1
    go_wp2_with fail
    go_ret
    exact ⟨rfl, HB1.out⟩
  have hL2 : ¬ L1 < 0 := by omega
  have HT := hid_intro (HT0.out hsm)
  have HS := hid_intro (HS0.out hsm)
  have HM := hid_intro (HM0.out hsm)
  have HE := hid_intro (HE0.out hsm)
  clear HT0 HS0 HM0 HE0 hsm
  have HA1 := hid_intro (HA0.out.below hb1)
  have HB1 := hid_intro (HB0.out.trans (hb1.mono HB0.out.size))
  have hl1 := HA1.out.1
  clear hb1
  have p0 : w1.cell? ⟨w.heap.size, 0, none⟩ = some (.slice ma ml mc) := HA1.out.2 0 (by simp)
  have p1 : w1.cell? ⟨w.heap.size, 1, none⟩ = some (.slice ca cl cc) := HA1.out.2 1 (by simp)
  go_wp2_with fail
  refine (HT.out _ _ (HK.out _ _ _ HI.out HB1.out)).mono ?_
  rintro e w2 ⟨⟨b2, c2, rfl, hN⟩, hb2⟩
  have HA2 := hid_intro (HA1.out.below hb2)
  have HB2 := hid_intro (HB1.out.trans (hb2.mono HB1.out.size))
  have HN2 := hid_intro hN
  clear hb2 hN HA1 HB1 hl1 p0 p1
  go_wp2_with fail
  refine (HS.out _ _ HN2.out).mono ?_
  rintro e w3 ⟨rfl, hb3⟩
  have HA3 := hid_intro (HA2.out.below hb3)
  have HB3 := hid_intro (HB2.out.trans (hb3.mono HB2.out.size))
  have hl3 := HA3.out.1
  clear hb3 HA2 HB2 HN2
  have q0 : w3.cell? ⟨w.heap.size, 0, none⟩ = some (.slice ma ml mc) := HA3.out.2 0 (by simp)
  have q1 : w3.cell? ⟨w.heap.size, 1, none⟩ = some (.slice ca cl cc) := HA3.out.2 1 (by simp)
  go_wp2_with fail
  refine (HT.out _ _ (HK.out _ _ _ HI.out HB3.out)).mono ?_
  rintro e w4 ⟨⟨bb, bc, rfl, hN⟩, hb4⟩
  have HA4 := hid_intro ((HA3.out.below hb4).alloc (.cells #[.slice (some ⟨bb, 0, none⟩) ml ml, .slice (some ⟨bc, 0, none⟩) cl cl] 31))
  have HB4' := hid_intro (HB3.out.trans (hb4.mono HB3.out.size))
  have HB4 := hid_intro (HB4'.out.alloc HB4'.out.size (.cells #[.slice (some ⟨bb, 0, none⟩) ml ml, .slice (some ⟨bc, 0, none⟩) cl cl] 31))
  have HX4 : Hid (Blk w4.heap.size [.slice (some ⟨bb, 0, none⟩) ml ml, .slice (some ⟨bc, 0, none⟩) cl cl] (w4.alloc (.cells #[.slice (some ⟨bb, 0, none⟩) ml ml, .slice (some ⟨bc, 0, none⟩) cl cl] 31))) := hid_intro (Blk.new w4 _ _)
  have HN4 := hid_intro (HK.out _ _ _ hN ((Below.refl w4.heap.size w4).alloc (Nat.le_refl _) (.cells #[.slice (some ⟨bb, 0, none⟩) ml ml, .slice (some ⟨bc, 0, none⟩) cl cl] 31)))
  clear hb4 hN HA3 HB3 hl3 HB4' q0 q1
  go_wp2_with fail
  refine (HM.out _ _ HN4.out (HKL.out _ _ HL.out HB4.out)).mono ?_
  rintro e w5 ⟨rfl, hb5⟩
  have HA5 := hid_intro (HA4.out.below hb5)
  have HX5 := hid_intro (HX4.out.below hb5)
  have HN5 := hid_intro (HK.out _ _ _ HN4.out hb5)
  have HB5 := hid_intro (HB4.out.trans (hb5.mono HB4.out.size))
  have hl5 := HA5.out.1
  have hm5 := HX5.out.1
  clear hb5 HA4 HX4 HN4 HB4
  have r0 : w5.cell? ⟨w.heap.size, 0, none⟩ = some (.slice ma ml mc) := HA5.out.2 0 (by simp)
  have r1 : w5.cell? ⟨w.heap.size, 1, none⟩ = some (.slice ca cl cc) := HA5.out.2 1 (by simp)
  have s0 : w5.cell? ⟨w4.heap.size, 0, none⟩ = some (.slice (some ⟨bb, 0, none⟩) ml ml) := HX5.out.2 0 (by simp)
  have s1 : w5.cell? ⟨w4.heap.size, 1, none⟩ = some (.slice (some ⟨bc, 0, none⟩) cl cl) := HX5.out.2 1 (by simp)
  have HS0 : Hid (BX w5 w.heap.size w4.heap.size (.slice ma ml mc) (.slice ca cl cc) (.slice (some ⟨bb, 0, none⟩) ml ml) (.slice (some ⟨bc, 0, none⟩) cl cl) w5) := hid_intro ⟨Below.refl _ _, hl5, hm5, r0, r1, s0, s1⟩
  have HS1 := hid_intro HS0.out.drew
  have HM5 : Hid (∀ W, Below w5.heap.size w5 W → Calls Tryd.prog 9 #[.agg #[.slice ma ml mc, .slice ca cl cc]] W fun e w' => (∃ g h, e = .returned (.agg #[.slice (some ⟨g, 0, none⟩) ml ml, .slice (some ⟨h, 0, none⟩) cl cl]) ∧ M (.agg #[.slice (some ⟨g, 0, none⟩) ml ml, .slice (some ⟨h, 0, none⟩) cl cl]) w' ∧ M (.agg #[.slice (some ⟨bb, 0, none⟩) ml ml, .slice (some ⟨bc, 0, none⟩) cl cl]) w') ∧ Below W.heap.size W w') := hid_intro (fun W hW => (HT.out _ _ (HK.out _ _ _ HI.out (HB5.out.trans (hW.mono HB5.out.size)))).mono fun e w' h => by
    obtain ⟨⟨g, h, he, h1⟩, hb⟩ := h
    exact ⟨⟨g, h, he, h1, HK.out _ _ _ HN5.out (hW.trans (hb.mono hW.size))⟩, hb⟩)
  clear HA5 HX5
  cases r
  all_goals (
    go_wp2_with fail
    go_region_held3 (fun W => Below w5.heap.size w5 W ∧ w.heap.size < W.heap.size ∧ w4.heap.size < W.heap.size ∧ W.cell? ⟨w.heap.size, 0, none⟩ = some (.slice ma ml mc) ∧ W.cell? ⟨w.heap.size, 1, none⟩ = some (.slice ca cl cc) ∧ W.cell? ⟨w4.heap.size, 0, none⟩ = some (.slice (some ⟨bb, 0, none⟩) ml ml) ∧ W.cell? ⟨w4.heap.size, 1, none⟩ = some (.slice (some ⟨bc, 0, none⟩) cl cl)) (first | assumption | (exact HS0.out) | (exact HS1.out) | (exact BX.below (w5 := w5) (B1 := w.heap.size) (B2 := w4.heap.size) (by assumption) hb6) | (exact BX.below (w5 := w5) (B1 := w.heap.size) (B2 := w4.heap.size) (by assumption) hb7))
      (first | (go_at_call 9; refine (HM5.out _ (by first | exact (by assumption : BX w5 _ _ _ _ _ _ _).1 | exact HS0.out.1 | exact HS1.out.1)).mono ?_; rintro e w6 ⟨⟨b6, c6, rfl, hN6, hN7⟩, hb6⟩) | (go_at_call 11; refine (HE.out _ _ _ hN7 hN6).mono ?_; rintro e w7 ⟨rfl, hb7⟩))
    rename_i hS
    have HBF := hid_intro (HB5.out.trans (hS.1.mono HB5.out.size))
    clear hS
    go_wp2_with fail
    go_ret
    exact ⟨rfl, HBF.out⟩)
theorem walk (c : Ca) (v : Value) (w : World) (hI : IsCa v c w) (hin : c.In) (hL : Laid w) :
    Calls Tryd.prog 3 #[v] w fun e w' => e = .returned (.bool true) ∧ Below w.heap.size w w' := by
  obtain ⟨ma, mc, ca, cc, rfl, hM, hR⟩ := hI
  exact law_in c.Small (fun v w => IsCa v c w) Laid ma c.ms.length mc ca c.cs.length cc (caB c)  w ⟨ma, mc, ca, cc, rfl, hM, hR⟩ hL (fun v w w' h hb => h.below hb) (fun w w' h hb => h.below hb)
      (fun w h => szCa_any _ c w hin h)
      (fun hs v w h => (toCa_any v c w hs h).mono fun e w' h2 => by
        obtain ⟨⟨v', he, hN⟩, hb⟩ := h2
        have hN2 := hN.is
        obtain ⟨g, bs, h, rfl, _⟩ := hN
        exact ⟨⟨g, h, he, hN2⟩, hb⟩)
      (fun hs v w h => spec_ca v c w hs h) (fun hs v w h hL => impl_ca v c w hs h hL) (fun hs v v' w h h' => eqCa_any v v' c w hs h h')
set_option maxRecDepth 100000 in
theorem lifted (os : Os) (started : os.Started) (H : Type) (enc : TypeId × Value → H) :
    ReturnsInHanded {} Tryd.checked os 3 .any (fun w args => (Rows.fnExactCatalogRightSpec.pre enc Tryd.prog Tryd.f3 [] false w args ∧ laidMetH Tryd.prog Snm.laid w) ∧ sizedMet enc Tryd.prog Tryd.f3 (OpenSpec.ofChange Rows.fnExactCatalogRightSpec) false w args)
      (Rows.fnExactCatalogRightSpec.post enc Tryd.prog Tryd.f3 false true false false) := by
  refine returnsInHanded_of_change_and (C := Tryd.checked) (X := fun w _ => laidMetH Tryd.prog Snm.laid w) (fun _ _ _ hh h => h.of_heap hh) Snm.own started (by kernel_rfl) Tryd.func3
    (ChangeSpec.witness_shaped (enc := enc) (C := Tryd.checked) (os := os) (X := fun w _ => laidMetH Tryd.prog Snm.laid w) false (World.doorLaid Tryd.prog 400 os) #[.agg #[.slice none 0 0, .slice none 0 0]] 8 rfl (World.shaped_of_RefB (by kernel_rfl) (by kernel_rfl)) (by kernel_rfl) (by kernel_rfl) (by kernel_rfl) (Snm.door_met os _)) ?_
  intro W base args ds gs before hval0 hW _ _ hL _
  have hval : ∀ (j : Nat) t v, Tryd.f3.params[j]? = some t → args[j]? = some v → Value.okWide Tryd.prog W .any base t v := hval0
  have hW' := hW
  obtain ⟨p, q, hA0, hV0, rfl, hfz, hnd⟩ := hW
  have hA : DataW.TrodAll enc Tryd.prog W 0 (fun _ => true) true Tryd.f3.params.toList args.toList ds p := hA0
  have hV : DataW.TrodVars enc Tryd.prog W (fun _ => true) ["loop.example/g00562/impl.errNoMeter"] gs q := hV0
  rw [Tryd.params3] at hA hval
  obtain ⟨v0, d0, rfl, rfl, h0⟩ := trodAll_one hA
  have k0 := h0
  have lt0 : ∀ x ∈ p, x.block < W.heap.size := fun x hx => hW'.lt x (by simp [hx])
  obtain ⟨cs0, rfl, _⟩ := okWide_struct Tryd.underlying25 (hval 0 25 v0 rfl rfl)
  obtain ⟨fuel0, hf0⟩ := h0
  obtain ⟨ma0, ml0, mc0, ca0, cl0, cc0, hcs0, ⟨n0, y0, t0⟩, ⟨n0', y0', t0'⟩⟩ := CatR.ca_cells Tryd.underlying25 (by kernel_rfl) (by kernel_rfl) Tryd.underlying22 Tryd.underlying23 hf0
  obtain ⟨wl0, ms0, hml0, wi0, hM0⟩ := CatR.mes_open (tt := 0) Tryd.underlying22 Tryd.underlying79 (by kernel_rfl) (by kernel_rfl) Tryd.underlying9 Tryd.underlying2 Tryd.underlying4 Tryd.underlying2 Tryd.underlying2 Tryd.underlying77 Tryd.underlying118 (by kernel_rfl) (by kernel_rfl) Tryd.underlying2 Tryd.underlying2 t0
  obtain ⟨wl0', rs0, hcl0, wi0', hR0⟩ := CatR.crs_open Tryd.underlying23 Tryd.underlying81 (by kernel_rfl) (by kernel_rfl) Tryd.underlying9 Tryd.underlying2 t0'
  subst hml0 hcl0
  obtain rfl : cs0 = #[.slice ma0 ms0.length mc0, .slice ca0 rs0.length cc0] := by
    obtain ⟨l⟩ := cs0
    simp [Value.cells] at hcs0
    rw [hcs0]
  obtain ⟨av, hv⟩ := Snm.of_laid hL
  have hl := Snm.laid_of hv
  obtain ⟨rfl, rfl⟩ := hV.unique (vars_read1 enc Snm.gv Snm.gt Tryd.underlying66 hv trivial _)
  refine (walk ⟨ms0, rs0⟩ _ W ⟨ma0, mc0, ca0, cc0, rfl, hM0, hR0⟩ ⟨wl0, wi0, wl0', wi0'⟩ hl).mono fun e W' ⟨he, bel⟩ => ?_
  subst he
  exact ⟨_, rfl, _, _, _, _, _, _, hW', trodAll_mk1 (shut_bool Tryd.underlying4 true), trodAll_mk1 (Below.trod Snm.laidOut (by kernel_rfl) (of_decide_eq_true (by kernel_rfl)) k0 bel lt0), vars_read1 enc Snm.gv Snm.gt Tryd.underlying66 (Snm.var_below hl hv bel) trivial _, bel.frame _, fun h => by cases h⟩
theorem row_holds : Rows.FnExactCatalogRightSaid :=
  OpenClaim.holds_of_wide 3 Tryd.f3 rfl rfl rfl rfl rfl rfl rfl ⟨rfl, rfl, rfl, rfl, rfl⟩ rfl rfl rfl rfl rfl (by kernel_rfl) Tryd.func3 (by kernel_rfl)
    (of_decide_eq_true (by kernel_rfl)) (by unfold Func.isWrapper; rw [if_neg (of_decide_eq_false (by kernel_rfl))]; exact ⟨rfl, rfl⟩)
    (fun os started H enc _ => lifted os started H enc)
theorem card_holds : Rows.FnExactCatalogRightCardSaid :=
  Claim7.holds_tied_plain_at .later [] [.sentinel] true Rows.fnExactCatalogRightCard.stood.harness true
    row_holds (fun _ h => by cases h) (by kernel_rfl) (fun _ h => by cases h) fnExactCatalogRight_row_tie rfl ⟨rfl, rfl⟩ (by kernel_rfl) rfl
    (fun f fn hf hfn => by
      obtain rfl : f = 3 := Option.some.inj ((show Tryd.prog.funcNamed "loop.example/g00562/laws.FnExactCatalogRight" = some 3 by kernel_rfl).symm.trans hf) |>.symm
      obtain rfl : fn = Tryd.f3 := (Option.some.inj (Tryd.func3.symm.trans hfn)).symm
      exact ⟨by kernel_rfl, fun j t ht => by
        rw [Tryd.params3] at ht
        have hm : t ∈ [25] := by simpa using Array.mem_of_getElem? ht
        have hall : ([25].all fun u => !Tryd.prog.wantsStandIn u) = true := by kernel_rfl
        exact (show Tryd.prog.wantsStandIn t = false by simpa using List.all_eq_true.1 hall t hm)⟩)
    (by kernel_rfl)

end CatalogRightL
/-- THE STATEMENT -/
theorem fnExactCatalogRight_card : Rows.FnExactCatalogRightCardSaid := CatalogRightL.card_holds
#print axioms fnExactCatalogRight_card
end Go.Proofs.YtnpnegcmohgnfaaDoor
