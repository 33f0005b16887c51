/-
  FnExactLedgerBytes: for every list of documents the law's call returns true (the program's LedgerBytes hands back what the model's does, and writes into no list), and the list reads as it did. No condition.
-/
import Derived.Test.YtnhpkcacjkebnaaLgC
import Derived.Test.YtnhpkcacjkebnaaLgN
namespace Go.Proofs.Ytnhpkcacjkebnaa
open Go.ChangeShapes Go.WideShapes Go.ChangeAt Go.RowKit
open Go.ChangeMaps (open_string shut_string)
set_option linter.unusedVariables false
namespace LedgerBytesL
open LedR RowG
set_option maxRecDepth 100000 in
set_option maxHeartbeats 8000000 in
theorem law_in (a : Option Addr) (cap : Nat) (ds : List DocR.D) (R : Int) (r : ByteArray) (w : World) (hR : ¬ R < 0) (hI : Dcs a ds w)
    (hZ : Calls Try.prog 14 #[.slice a ds.length cap, .int .i64 1048576] w fun e w' => e = .returned (.int .i64 R) ∧ Below w.heap.size w w')
    (hT : ∀ ao cap w, Dcs ao ds w → Calls Try.prog 16 #[.slice ao ds.length cap] w fun e w' => e = .returned (.slice (some ⟨w.heap.size, 0, none⟩) ds.length ds.length) ∧ Dcs (some ⟨w.heap.size, 0, none⟩) ds w' ∧ Below w.heap.size w w')
    (hE : ∀ ao bo cap cap' w, Dcs ao ds w → Dcs bo ds w → Calls Try.prog 18 #[.slice ao ds.length cap, .slice bo ds.length cap'] w fun e w' => e = .returned (.bool true) ∧ Below w.heap.size w w')
    (hS : ∀ ao cap w, Dcs ao ds w → Calls Try.prog 22 #[.slice ao ds.length cap] w fun e w' => e = .returned (.string r) ∧ Below w.heap.size w w')
    (hM : ∀ ao cap w, Dcs ao ds w → Calls Try.prog 23 #[.slice ao ds.length cap] w fun e w' => e = .returned (.string r) ∧ Below w.heap.size w w') :
    Calls Try.prog 6 #[.slice a ds.length cap] w fun e w' => e = .returned (.bool true) ∧ Below w.heap.size w w' := by
  have HI := hid_intro hI
  have HZ := hid_intro hZ
  have HT := hid_intro hT
  have HE := hid_intro hE
  have HS := hid_intro hS
  have HM := hid_intro hM
  clear hI hZ hT hE hS hM
  generalize ds.length = len at *
  go_enter Try.func6, Try.ntmps6
  go_wp2_with fail
  refine HZ.out.mono ?_
  rintro e w1 ⟨rfl, hb⟩
  have HB := hid_intro hb
  clear hb
  go_wp2_with fail
  refine (HT.out _ _ _ (HI.out.below HB.out)).mono ?_
  rintro e w2 ⟨rfl, hE2, hb⟩
  have HE2 := hid_intro hE2
  replace HB := hid_intro (HB.out.trans (hb.mono HB.out.size))
  clear hb hE2
  go_wp2_with fail
  refine (HS.out _ _ _ HE2.out).mono ?_
  rintro e w3 ⟨rfl, hb⟩
  replace HB := hid_intro (HB.out.trans (hb.mono HB.out.size))
  clear hb HE2
  go_wp2_with fail
  refine (HT.out _ _ _ (HI.out.below HB.out)).mono ?_
  rintro e w4 ⟨rfl, hE4, hb⟩
  have HX := hid_intro hE4
  replace HB := hid_intro (HB.out.trans (hb.mono HB.out.size))
  clear hb hE4
  go_wp2_with fail
  refine (HM.out _ _ _ HX.out).mono ?_
  rintro e w5 ⟨rfl, hb⟩
  replace HX := hid_intro (HX.out.below hb)
  replace HB := hid_intro (HB.out.trans (hb.mono HB.out.size))
  clear hb
  go_wp2_with fail
  refine (HT.out _ _ _ (HI.out.below HB.out)).mono ?_
  rintro e w6 ⟨rfl, hE6, hb⟩
  have HY := hid_intro hE6
  replace HX := hid_intro (HX.out.below hb)
  replace HB := hid_intro (HB.out.trans (hb.mono HB.out.size))
  clear hb hE6
  go_wp2_with fail
  refine (HE.out _ _ _ _ _ HX.out HY.out).mono ?_
  rintro e w7 ⟨rfl, hb⟩
  replace HB := hid_intro (HB.out.trans (hb.mono HB.out.size))
  clear hb
  go_wp2_with fail
  go_ret
  exact ⟨rfl, HB.out⟩
set_option maxRecDepth 100000 in
set_option maxHeartbeats 4000000 in
theorem walk (a : Option Addr) (cap : Nat) (ds : List DocR.D) (w : World) (h : IsDcs w a ds) :
    Calls Try.prog 6 #[.slice a ds.length cap] w fun e w' => e = .returned (.bool true) ∧ Below w.heap.size w w' := by
  have hZ := szDs a cap ds w h
  obtain ⟨hm, hI, hin⟩ := h
  by_cases hs : szDR ds < 0
  · have HZ := hid_intro hZ
    generalize szDR ds = R at *
    generalize ds.length = len at *
    clear hI hin hm hZ
    go_enter Try.func6, Try.ntmps6
    go_wp2_with fail
    refine HZ.out.mono ?_
    rintro e w1 ⟨rfl, hb⟩
    have HB := hid_intro hb
    clear hb
    go_wp2_with fail
    go_ret
    exact ⟨rfl, HB.out⟩
  · obtain ⟨hlen, hSm⟩ := szDR_small hs
    exact law_in a cap ds (szDR ds) (lbB ds) w hs hI hZ (fun ao cap w hI => toDs ao cap ds w hlen hSm hI) (fun ao bo cap cap' w hI hJ => eqDs ao bo cap cap' ds w hlen hSm hI hJ) (fun ao cap w hI => spec_lb ao cap ds w hlen hSm hI) (fun ao cap w hI => impl_lb ao cap ds w hlen hSm (fun d hd => (hin d hd).2) hI)
theorem own : ownKnob Try.prog.godebug = none := by kernel_rfl
theorem laidOut : laidOutB Try.prog = true := by kernel_rfl
set_option maxRecDepth 100000 in
theorem lifted (os : Os) (started : os.Started) (H : Type) (enc : TypeId × Value → H) :
    ReturnsInHanded {} Try.checked os 6 .any (Rows.fnExactLedgerBytesSpec.pre6 enc Try.prog Try.f6 Rows.fnExactLedgerBytesRow.domain false) (Rows.fnExactLedgerBytesSpec.post enc Try.prog Try.f6 false true false false) := by
  refine returnsInHanded_of_change (C := Try.checked) own started (by kernel_rfl) Try.func6
    (ChangeSpec.witness6 (enc := enc) (C := Try.checked) false ⟨#[], #[.slice none 0 0], []⟩ 8 (by kernel_rfl) (by kernel_rfl) (by kernel_rfl) (by kernel_rfl)) ?_
  intro W base args ds gs before hval0 hW hcnd _
  have hval : ∀ (j : Nat) t v, Try.f6.params[j]? = some t → args[j]? = some v → Value.okWide Try.prog W .any base t v := hval0
  obtain ⟨p, q, hA0, hV, hb0, hfz, hnd⟩ := id hW
  have hA : DataW.TrodAll enc Try.prog W 0 (fun _ => true) true Try.f6.params.toList args.toList ds p := hA0
  rw [Try.params6] at hA hval
  obtain ⟨v0, d0, rfl, rfl, h0⟩ := trodAll_one hA
  obtain ⟨rfl, rfl⟩ := trodVars_none hV
  obtain rfl := hb0
  have hW' := hW
  simp only [List.append_nil] at hW'
  have k0 := h0
  have lt0 : ∀ x ∈ p, x.block < W.heap.size := fun x hx => hW'.lt x (by simp [hx])
  obtain ⟨a0, len0, cap0, rfl⟩ := okWide_slice Try.underlying30 (hval 0 30 v0 rfl rfl)
  obtain ⟨z0, hz0, w0⟩ : ∃ ds, ds.length = len0 ∧ LedR.IsDcs W a0 ds := by
    obtain ⟨fuel, hf⟩ := h0
    exact LedR.docs_open Try.underlying30 Try.underlying55 (by kernel_rfl) (by kernel_rfl) Try.underlying9 Try.underlying2 Try.underlying2 Try.underlying22 Try.underlying43 (by kernel_rfl) (by kernel_rfl) Try.underlying9 Try.underlying2 (by simpa [Value.cells] using hf)
  subst hz0
  refine (walk a0 cap0 z0 W w0).mono fun e W' ⟨he, bel⟩ => ?_
  subst he
  exact ⟨_, rfl, _, _, _, _, _, _, hW', trodAll_mk1 (shut_bool Try.underlying4 true), trodAll_mk1 (Below.trod laidOut (by kernel_rfl) (of_decide_eq_true (by kernel_rfl)) k0 bel lt0), rfl, bel.frame _, fun h => by cases h⟩
theorem over : Rows.FnExactLedgerBytesSaid :=
  OpenClaim.holds_of_wide 6 Try.f6 rfl rfl rfl rfl rfl rfl rfl ⟨rfl, rfl, rfl, rfl, rfl⟩ rfl rfl rfl rfl rfl (by kernel_rfl) Try.func6 (by kernel_rfl)
    (of_decide_eq_true (by kernel_rfl)) (by unfold Func.isWrapper; rw [if_neg (of_decide_eq_false (by kernel_rfl))]; exact ⟨rfl, rfl⟩)
    (fun os started H enc _ => lifted os started H enc)

end LedgerBytesL
/-- THE STATEMENT -/
theorem fnExactLedgerBytes_holds : Rows.FnExactLedgerBytesSaid := LedgerBytesL.over
#print axioms fnExactLedgerBytes_holds
end Go.Proofs.Ytnhpkcacjkebnaa
