/-
  FnExactCatalogRead: for every text the law's call returns true (the program's CatalogRead hands back what the model's does, its answer owns its memory, behind another call too). The condition is the card's: the program's variable starts as its text lays it.
-/
import Derived.Test.YtgaihlhoegaliaaDoorCards
import Derived.Carry
import Derived.OpenVars
import Derived.Lib.SmallJoins
import Derived.SevenTiedAt
import Derived.Test.YtgaihlhoegaliaaDoorC4
namespace Go.Proofs.YtgaihlhoegaliaaDoor
open Go.ChangeShapes Go.WideShapes Go.ChangeAt Go.RowKit
open Go.ChangeMaps (open_string shut_string)
set_option linter.unusedVariables false
namespace CatalogReadL
open CatR
open RowG (hid_intro)
theorem ot_blk {g top b : Nat} {cs : List Value} {w w' : World} (h : OtC g top w w') (hb : Blk b cs w) (hq : b < g ∨ top ≤ b) : Blk b cs w' := by
  have eb := h.block b hb.1 hq
  exact ⟨Nat.lt_of_lt_of_le hb.1 h.size, fun i hi => (World.cell?_of_block (a := ⟨b, i, none⟩) eb).trans (hb.2 i hi)⟩
set_option maxRecDepth 100000 in
set_option maxHeartbeats 8000000 in
theorem law_in (R : Value → World → Prop) (O : Nat → Value → World → Prop) (s : ByteArray) (w : World) (hs : s.size ≤ 1048576) (hL : Laid w)
    (hR : ∀ v W W', R v W → Below W.heap.size W W' → R v W')
    (hOR : ∀ b v W, O b v W → R v W)
    (hF : ∀ b v W, O b v W → ∃ (ao : Option Addr) (n c : Nat) (la : Option Addr) (k d : Nat) (cd : Int), v = .agg #[.slice ao n c, .slice la k d, .int .i64 cd])
    (hS : ∀ W, Calls Tryd.prog 4 #[.string s] W fun e w' => ∃ v, e = .returned v ∧ O W.heap.size v w' ∧ Below W.heap.size W w')
    (hM : ∀ W, Laid W → Calls Tryd.prog 5 #[.string s] W fun e w' => ∃ v, e = .returned v ∧ O W.heap.size v w' ∧ Below W.heap.size W w')
    (hE : ∀ v v' W, R v W → R v' W → Calls Tryd.prog 6 #[v, v'] W fun e w' => e = .returned (.bool true) ∧ Below W.heap.size W w')
    (hK : ∀ base v W Wt, O base v Wt → Below Wt.heap.size Wt W → Calls Tryd.prog 7 #[v, .int .i64 1] W fun e w' => ∃ KK : Nat, e = .returned (.int .i64 KK) ∧ OtC base Wt.heap.size W w' ∧ ∀ w2, Below w'.heap.size w' w2 → Calls Tryd.prog 8 #[v, .int .i64 1] w2 fun e w3 => e = .returned (.int .i64 KK) ∧ Below w2.heap.size w2 w3) :
    Calls Tryd.prog 3 #[.string s] w fun e w' => e = .returned (.bool true) ∧ Below w.heap.size w w' := by
  have HLD := hid_intro hL
  have HR := hid_intro hR
  have HOR := hid_intro hOR
  have HF := hid_intro hF
  have HS := hid_intro hS
  have HM := hid_intro hM
  have HE := hid_intro hE
  have HK := hid_intro hK
  have hs2 : ¬ (1048576 : Int) < (s.size : Int) := by omega
  clear hR hOR hF hS hM hE hK hL
  go_enter Tryd.func3, Tryd.ntmps3
  go_wp2_with fail
  refine (HS.out _).mono ?_
  rintro e w1 ⟨v, rfl, hv, hb⟩
  have HR1 := hid_intro (HOR.out _ _ _ hv)
  have HB := hid_intro hb
  obtain ⟨a1, n1, c1, l1, k1, d1, e1, rfl⟩ := HF.out _ _ _ hv
  obtain ⟨w2, hw2⟩ : ∃ z, z = w1.alloc (.cells #[.slice a1 n1 c1, .slice l1 k1 d1, .int .i64 e1] 27) := ⟨_, rfl⟩
  have al : Below w1.heap.size w1 w2 := by rw [hw2]; exact (Below.refl _ _).alloc (Nat.le_refl _) _
  have HX1 : Hid (Blk w1.heap.size [.slice a1 n1 c1, .slice l1 k1 d1, .int .i64 e1] w2) := hid_intro (by rw [hw2]; exact Blk.new w1 [.slice a1 n1 c1, .slice l1 k1 d1, .int .i64 e1] 27)
  replace HR1 := hid_intro (HR.out _ _ _ HR1.out al)
  replace HB := hid_intro (HB.out.trans (al.mono HB.out.size))
  obtain ⟨B1, hB1⟩ : ∃ z, z = w1.heap.size := ⟨_, rfl⟩
  rw [← hB1] at HX1
  have HW := hid_intro hw2
  have HBB := hid_intro hB1
  clear hv hb al hw2 hB1
  go_wp2_with fail
  rw [← HW.out, ← HBB.out]
  clear HW HBB
  refine (HM.out _ (HLD.out.below HB.out)).mono ?_
  rintro e w3 ⟨v, rfl, hv, hb⟩
  have HO2 := hid_intro hv
  have HB3 := hid_intro hb
  obtain ⟨a2, n2, c2, l2, k2, d2, e2, rfl⟩ := HF.out _ _ _ hv
  obtain ⟨w4, hw4⟩ : ∃ z, z = w3.alloc (.cells #[.slice a2 n2 c2, .slice l2 k2 d2, .int .i64 e2] 27) := ⟨_, rfl⟩
  have al : Below w3.heap.size w3 w4 := by rw [hw4]; exact (Below.refl _ _).alloc (Nat.le_refl _) _
  have HX2 : Hid (Blk w3.heap.size [.slice a2 n2 c2, .slice l2 k2 d2, .int .i64 e2] w4) := hid_intro (by rw [hw4]; exact Blk.new w3 [.slice a2 n2 c2, .slice l2 k2 d2, .int .i64 e2] 27)
  have HAL := hid_intro al
  have HX1z := hid_intro (HX1.out.below hb)
  have HX1a := hid_intro ((HX1.out.below hb).below al)
  have HRa := hid_intro (HR.out _ _ _ (HR.out _ _ _ HR1.out hb) al)
  have HRb := hid_intro (HR.out _ _ _ (HOR.out _ _ _ hv) al)
  obtain ⟨B2, hB2⟩ : ∃ z, z = w3.heap.size := ⟨_, rfl⟩
  rw [← hB2] at HX2
  have HW := hid_intro hw4
  have HBB := hid_intro hB2
  clear hv hb al hw4 hB2
  have x1_0 : w3.cell? ⟨B1, 0, none⟩ = some (.slice a1 n1 c1) := HX1z.out.2 0 (by simp)
  have x1_1 : w3.cell? ⟨B1, 1, none⟩ = some (.slice l1 k1 d1) := HX1z.out.2 1 (by simp)
  have x1_2 : w3.cell? ⟨B1, 2, none⟩ = some (.int .i64 e1) := HX1z.out.2 2 (by simp)
  have xl1 := HX1z.out.1
  go_wp2_with fail
  rw [← HW.out, ← HBB.out]
  clear HW
  have HBW : Hid (Below w2.heap.size w2 w4) := hid_intro (HB3.out.trans (HAL.out.mono HB3.out.size))
  refine (HE.out _ _ _ HRb.out HRa.out).mono ?_
  rintro e w5 ⟨rfl, hb⟩
  replace HBW := hid_intro (HBW.out.trans (hb.mono HBW.out.size))
  have HTW : Hid (Below w3.heap.size w3 w5) := hid_intro (HAL.out.trans (hb.mono HAL.out.size))
  replace HX1a := hid_intro (HX1a.out.below hb)
  replace HX2 := hid_intro (HX2.out.below hb)
  clear hb HX1z
  clear x1_0 x1_1 x1_2 xl1
  have x2_0 : w5.cell? ⟨B2, 0, none⟩ = some (.slice a2 n2 c2) := HX2.out.2 0 (by simp)
  have x2_1 : w5.cell? ⟨B2, 1, none⟩ = some (.slice l2 k2 d2) := HX2.out.2 1 (by simp)
  have x2_2 : w5.cell? ⟨B2, 2, none⟩ = some (.int .i64 e2) := HX2.out.2 2 (by simp)
  have xl2 := HX2.out.1
  have HMK := hid_intro (HK.out _ _ _ _ HO2.out HTW.out)
  go_wp2_with fail
  refine HMK.out.mono ?_
  rintro e w6 ⟨KK, rfl, hot, hh⟩
  have HH := hid_intro hh
  have hlB1 : B1 < w2.heap.size := HX1.out.1
  replace HBW := hid_intro (hot.out HBW.out (Nat.le_refl _) (Nat.le_refl _))
  replace HX2 := hid_intro (ot_blk hot HX2.out (.inr (Nat.le_of_eq HBB.out.symm)))
  replace HX1a := hid_intro (ot_blk hot HX1a.out (.inl hlB1))
  clear hot hh HMK
  clear x2_0 x2_1 x2_2 xl2
  have x2_0 : w6.cell? ⟨B2, 0, none⟩ = some (.slice a2 n2 c2) := HX2.out.2 0 (by simp)
  have x2_1 : w6.cell? ⟨B2, 1, none⟩ = some (.slice l2 k2 d2) := HX2.out.2 1 (by simp)
  have x2_2 : w6.cell? ⟨B2, 2, none⟩ = some (.int .i64 e2) := HX2.out.2 2 (by simp)
  have xl2 := HX2.out.1
  have hk0 : ¬ ((KK : Nat) : Int) < 0 := by omega
  go_wp2_with fail
  refine (HH.out _ (Below.refl _ _)).mono ?_
  rintro e w7 ⟨rfl, hb⟩
  have H67 := hid_intro hb
  replace HBW := hid_intro (HBW.out.trans (hb.mono HBW.out.size))
  replace HX2 := hid_intro (HX2.out.below hb)
  replace HX1a := hid_intro (HX1a.out.below hb)
  clear hb
  clear x2_0 x2_1 x2_2 xl2
  go_wp2_with fail
  refine (HM.out _ (HLD.out.below (HB.out.trans (HBW.out.mono HB.out.size)))).mono ?_
  rintro e w8 ⟨v, rfl, hv, hb⟩
  obtain ⟨a3, n3, c3, l3, k3, d3, e3, rfl⟩ := HF.out _ _ _ hv
  obtain ⟨w9, hw9⟩ : ∃ z, z = w8.alloc (.cells #[.slice a3 n3 c3, .slice l3 k3 d3, .int .i64 e3] 27) := ⟨_, rfl⟩
  have al : Below w8.heap.size w8 w9 := by rw [hw9]; exact (Below.refl _ _).alloc (Nat.le_refl _) _
  have HX3 : Hid (Blk w8.heap.size [.slice a3 n3 c3, .slice l3 k3 d3, .int .i64 e3] w9) := hid_intro (by rw [hw9]; exact Blk.new w8 [.slice a3 n3 c3, .slice l3 k3 d3, .int .i64 e3] 27)
  have HRc := hid_intro (HR.out _ _ _ (HOR.out _ _ _ hv) al)
  have H79 : Hid (Below w7.heap.size w7 w9) := hid_intro (hb.trans (al.mono hb.size))
  replace HBW := hid_intro (HBW.out.trans (H79.out.mono HBW.out.size))
  replace HX2 := hid_intro (HX2.out.below H79.out)
  have HX1z := hid_intro (HX1a.out.below hb)
  replace HX1a := hid_intro (HX1a.out.below H79.out)
  have HRd := hid_intro (HR.out _ _ _ HR1.out HBW.out)
  obtain ⟨B3, hB3⟩ : ∃ z, z = w8.heap.size := ⟨_, rfl⟩
  rw [← hB3] at HX3
  have HW := hid_intro hw9
  have HBC := hid_intro hB3
  clear hv hb al hw9 hB3
  have x1_0 : w8.cell? ⟨B1, 0, none⟩ = some (.slice a1 n1 c1) := HX1z.out.2 0 (by simp)
  have x1_1 : w8.cell? ⟨B1, 1, none⟩ = some (.slice l1 k1 d1) := HX1z.out.2 1 (by simp)
  have x1_2 : w8.cell? ⟨B1, 2, none⟩ = some (.int .i64 e1) := HX1z.out.2 2 (by simp)
  have xl1 := HX1z.out.1
  go_wp2_with fail
  rw [← HW.out, ← HBC.out]
  clear HW HBC
  refine (HE.out _ _ _ HRc.out HRd.out).mono ?_
  rintro e w10 ⟨rfl, hb⟩
  replace HBW := hid_intro (HBW.out.trans (hb.mono HBW.out.size))
  replace HX2 := hid_intro (HX2.out.below hb)
  have H610 : Hid (Below w6.heap.size w6 w10) := hid_intro ((H67.out.trans (H79.out.mono H67.out.size)).trans (hb.mono (H67.out.trans (H79.out.mono H67.out.size)).size))
  clear hb HX1z
  clear x1_0 x1_1 x1_2 xl1
  have x2_0 : w10.cell? ⟨B2, 0, none⟩ = some (.slice a2 n2 c2) := HX2.out.2 0 (by simp)
  have x2_1 : w10.cell? ⟨B2, 1, none⟩ = some (.slice l2 k2 d2) := HX2.out.2 1 (by simp)
  have x2_2 : w10.cell? ⟨B2, 2, none⟩ = some (.int .i64 e2) := HX2.out.2 2 (by simp)
  have xl2 := HX2.out.1
  go_wp2_with fail
  refine (HH.out _ H610.out).mono ?_
  rintro e w11 ⟨rfl, hb⟩
  replace HBW := hid_intro (HBW.out.trans (hb.mono HBW.out.size))
  clear hb
  clear x2_0 x2_1 x2_2 xl2
  have HBF := hid_intro (HB.out.trans (HBW.out.mono HB.out.size))
  go_wp2_with fail
  go_ret
  exact ⟨rfl, HBF.out⟩
set_option maxHeartbeats 4000000 in
theorem big (s : ByteArray) (w : World) (h1 : s.size ≤ maxLen) (h : ¬ s.size ≤ 1048576) : Calls Tryd.prog 3 #[.string s] w fun e w' => e = .returned (.bool true) ∧ Below w.heap.size w w' := by
  have hs2 : (1048576 : Int) < (s.size : Int) := by omega
  unfold maxLen at h1
  go_enter Tryd.func3, Tryd.ntmps3
  go_wp2_with fail
  go_ret
  exact ⟨rfl, Below.refl _ _⟩
theorem tot_five : ∀ ms : List Me, (∀ m ∈ ms, m.ts.length ≤ 5) → totM ms ≤ 15 * ms.length
  | [], _ => Nat.le_refl _
  | m :: ms, h => by
    have h1 := tot_five ms (fun d hd => h d (List.mem_cons_of_mem _ hd))
    have h2 := h m (List.mem_cons_self ..)
    simp only [totM, List.map_cons, List.sum_cons, List.length_cons] at *
    omega
theorem walk (s : ByteArray) (h1 : s.size ≤ maxLen) (w : World) (hL : Laid w) :
    Calls Tryd.prog 3 #[.string s] w fun e w' => e = .returned (.bool true) ∧ Below w.heap.size w w' := by
  by_cases h : s.size ≤ 1048576
  · obtain ⟨c, cd, hS, l6, c6, h5, hi, hsp⟩ := cread_both s h
    have ht := tot_five c.ms h5
    exact law_in (fun v W => CoR v c cd W) (fun b v W => CoO b v c cd W) s w h hL (fun v W W' h hb => h.below hb) (fun b v W h => h.reads) (fun b v W h => by
      obtain ⟨ma, mc, ca, cc, e, _⟩ := h.reads
      exact ⟨_, _, _, _, _, _, _, e⟩) hsp hi (fun v v' W h h' => eqCo v v' c cd W hS h h')
      (fun base v W Wt h hb => markCo base v c cd W (by omega) (fun d hd => by have := h5 d hd; omega) (by omega) (by omega) Wt h hb)
  · exact big s w h1 h
set_option maxRecDepth 100000 in
theorem lifted (os : Os) (started : os.Started) (H : Type) (enc : TypeId × Value → H) :
    ReturnsInHanded {} Tryd.checked os 3 .any (fun w args => (Rows.fnExactCatalogReadSpec.pre enc Tryd.prog Tryd.f3 [] false w args ∧ laidMetH Tryd.prog Snm.laid w) ∧ sizedMet enc Tryd.prog Tryd.f3 (OpenSpec.ofChange Rows.fnExactCatalogReadSpec) false w args)
      (Rows.fnExactCatalogReadSpec.post enc Tryd.prog Tryd.f3 false true false false) := by
  refine returnsInHanded_of_change_and (C := Tryd.checked) (X := fun w _ => laidMetH Tryd.prog Snm.laid w) (fun _ _ _ hh h => h.of_heap hh) Snm.own started (by kernel_rfl) Tryd.func3
    (ChangeSpec.witness_shaped (enc := enc) (C := Tryd.checked) (os := os) (X := fun w _ => laidMetH Tryd.prog Snm.laid w) false (World.doorLaid Tryd.prog 400 os) #[.string ByteArray.empty] 8 rfl (World.shaped_of_RefB (by kernel_rfl) (by kernel_rfl)) (by kernel_rfl) (by kernel_rfl) (by kernel_rfl) (Snm.door_met os _)) ?_
  intro W base args ds gs before hval0 hW _ _ hL _
  have hval : ∀ (j : Nat) t v, Tryd.f3.params[j]? = some t → args[j]? = some v → Value.okWide Tryd.prog W .any base t v := hval0
  have hW' := hW
  obtain ⟨p, q, hA0, hV0, rfl, hfz, hnd⟩ := hW
  have hA : DataW.TrodAll enc Tryd.prog W 0 (fun _ => true) true Tryd.f3.params.toList args.toList ds p := hA0
  have hV : DataW.TrodVars enc Tryd.prog W (fun _ => true) ["loop.example/g00562/impl.errNoMeter"] gs q := hV0
  rw [Tryd.params3] at hA hval
  obtain ⟨v0, d0, rfl, rfl, h0⟩ := trodAll_one hA
  have k0 := h0
  have lt0 : ∀ x ∈ p, x.block < W.heap.size := fun x hx => hW'.lt x (by simp [hx])
  obtain ⟨a0, rfl, rfl, rfl, w0⟩ := open_string Tryd.underlying9 (hval 0 9 v0 rfl rfl) h0
  obtain ⟨av, hv⟩ := Snm.of_laid hL
  have hl := Snm.laid_of hv
  obtain ⟨rfl, rfl⟩ := hV.unique (vars_read1 enc Snm.gv Snm.gt Tryd.underlying47 hv trivial _)
  refine (walk a0 w0 W  hl).mono fun e W' ⟨he, bel⟩ => ?_
  subst he
  exact ⟨_, rfl, _, _, _, _, _, _, hW', trodAll_mk1 (shut_bool Tryd.underlying4 true), trodAll_mk1 (Below.trod Snm.laidOut (by kernel_rfl) (of_decide_eq_true (by kernel_rfl)) k0 bel lt0), vars_read1 enc Snm.gv Snm.gt Tryd.underlying47 (Snm.var_below hl hv bel) trivial _, bel.frame _, fun h => by cases h⟩
theorem row_holds : Rows.FnExactCatalogReadSaid :=
  OpenClaim.holds_of_wide 3 Tryd.f3 rfl rfl rfl rfl rfl rfl rfl ⟨rfl, rfl, rfl, rfl, rfl⟩ rfl rfl rfl rfl rfl (by kernel_rfl) Tryd.func3 (by kernel_rfl)
    (of_decide_eq_true (by kernel_rfl)) (by unfold Func.isWrapper; rw [if_neg (of_decide_eq_false (by kernel_rfl))]; exact ⟨rfl, rfl⟩)
    (fun os started H enc _ => lifted os started H enc)
theorem card_holds : Rows.FnExactCatalogReadCardSaid :=
  Claim7.holds_tied_plain_at .later [] [.sentinel] true Rows.fnExactCatalogReadCard.stood.harness true
    row_holds (fun _ h => by cases h) (by kernel_rfl) (fun _ h => by cases h) fnExactCatalogRead_row_tie rfl ⟨rfl, rfl⟩ (by kernel_rfl) rfl
    (fun f fn hf hfn => by
      obtain rfl : f = 3 := Option.some.inj ((show Tryd.prog.funcNamed "loop.example/g00562/laws.FnExactCatalogRead" = some 3 by kernel_rfl).symm.trans hf) |>.symm
      obtain rfl : fn = Tryd.f3 := (Option.some.inj (Tryd.func3.symm.trans hfn)).symm
      exact ⟨by kernel_rfl, fun j t ht => by
        rw [Tryd.params3] at ht
        have hm : t ∈ [9] := by simpa using Array.mem_of_getElem? ht
        have hall : ([9].all fun u => !Tryd.prog.wantsStandIn u) = true := by kernel_rfl
        exact (show Tryd.prog.wantsStandIn t = false by simpa using List.all_eq_true.1 hall t hm)⟩)
    (by kernel_rfl)

end CatalogReadL
/-- THE STATEMENT: THE CARD -/
theorem fnExactCatalogRead_holds : Rows.FnExactCatalogReadCardSaid := CatalogReadL.card_holds
#print axioms fnExactCatalogRead_holds
end Go.Proofs.YtgaihlhoegaliaaDoor
