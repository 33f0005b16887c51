/-
  FnExactLinesRight: for every list of lines the law's call returns true (the program's LinesRight tells what the model's does, and writes into no list), and the list reads as it did. No condition.
-/
import Derived.Test.YtnhjodlcdfkpnaaLiZ
namespace Go.Proofs.Ytnhjodlcdfkpnaa
open Go.ChangeShapes Go.WideShapes Go.ChangeAt Go.RowKit
open Go.ChangeMaps (open_string shut_string)
set_option linter.unusedVariables false
namespace LinesRightL
open LinR RowG
set_option maxRecDepth 100000 in
set_option maxHeartbeats 4000000 in
theorem walk (a : Option Addr) (cap : Nat) (es : List N) (w : World) (h : IsLis w a es) :
    Calls Try.prog 3 #[.slice a es.length cap] w fun e w' => e = .returned (.bool true) ∧ Below w.heap.size w w' := by
  obtain ⟨hm, hI, hw⟩ := h
  have HZ := hid_intro (szs_any a cap es w hm hI hw)
  by_cases hs : szR es < 0
  · generalize szR es = R at *
    generalize es.length = len at *
    clear hI hw hm
    go_enter Try.func3, Try.ntmps3
    go_wp2_with fail
    refine HZ.out.mono ?_
    rintro e w1 ⟨rfl, hb⟩
    have HB := hid_intro hb
    clear hb
    go_wp2_with fail
    go_ret
    exact ⟨rfl, HB.out⟩
  · obtain ⟨hlen, hi, _, _⟩ := sz_small hs
    have HT := hid_intro (fun ao cap w hI => toLis_any ao cap es w hlen hI)
    have HS := hid_intro (fun ao cap w hI => spec_lines ao cap es w hlen hi hI)
    have HM := hid_intro (fun ao cap w hI => impl_lines ao cap es w hlen hi hI)
    have HE := hid_intro (fun ao bo cap cap' w hI hJ => eqLis_any ao bo cap cap' es w hlen hI hJ)
    have HI := hid_intro hI
    generalize szR es = R at *
    generalize sB es = r at *
    generalize es.length = len at *
    clear hI hw hm hi
    go_enter Try.func3, Try.ntmps3
    go_wp2_with fail
    refine HZ.out.mono ?_
    rintro e w1 ⟨rfl, hb1⟩
    have HB := hid_intro hb1
    clear hb1
    go_wp2_with fail
    refine (HT.out _ _ _ (HI.out.below HB.out)).mono ?_
    rintro e w2 ⟨rfl, hE2, hp2, hb2⟩
    have HE2 := hid_intro hE2
    have HB2 := hid_intro (HB.out.trans (hb2.mono HB.out.size))
    clear hE2 hp2 hb2
    go_wp2_with fail
    refine (HS.out _ _ _ HE2.out).mono ?_
    rintro e w3 ⟨rfl, hb3⟩
    have HB3 := hid_intro (HB2.out.trans (hb3.mono HB2.out.size))
    clear hb3
    go_wp2_with fail
    refine (HT.out _ _ _ (HI.out.below HB3.out)).mono ?_
    rintro e w4 ⟨rfl, hE4, hp4, hb4⟩
    have HE4 := hid_intro hE4
    have HB4 := hid_intro (HB3.out.trans (hb4.mono HB3.out.size))
    clear hE4 hp4 hb4
    go_wp2_with fail
    refine (HM.out _ _ _ HE4.out).mono ?_
    rintro e w5 ⟨rfl, hb5⟩
    have HE5 := hid_intro (HE4.out.below hb5)
    have HB5 := hid_intro (HB4.out.trans (hb5.mono HB4.out.size))
    clear hb5
    cases r
    all_goals
      go_wp2_with fail
      refine (HT.out _ _ _ (HI.out.below HB5.out)).mono ?_
      rintro e w6 ⟨rfl, hE6, hp6, hb6⟩
      have HE6 := hid_intro hE6
      have HE7 := hid_intro (HE5.out.below hb6)
      have HB6 := hid_intro (HB5.out.trans (hb6.mono HB5.out.size))
      clear hE6 hp6 hb6
      go_wp2_with fail
      refine (HE.out _ _ _ _ _ HE7.out HE6.out).mono ?_
      rintro e w7 ⟨rfl, hb7⟩
      have HB7 := hid_intro (HB6.out.trans (hb7.mono HB6.out.size))
      clear hb7
      go_wp2_with fail
      go_ret
      exact ⟨rfl, HB7.out⟩
theorem own : ownKnob Try.prog.godebug = none := by kernel_rfl
theorem laidOut : laidOutB Try.prog = true := by kernel_rfl
set_option maxRecDepth 100000 in
theorem lifted (os : Os) (started : os.Started) (H : Type) (enc : TypeId × Value → H) :
    ReturnsInHanded {} Try.checked os 3 .any (Rows.fnExactLinesRightSpec.pre6 enc Try.prog Try.f3 Rows.fnExactLinesRightRow.domain false) (Rows.fnExactLinesRightSpec.post enc Try.prog Try.f3 false true false false) := by
  refine returnsInHanded_of_change (C := Try.checked) own started (by kernel_rfl) Try.func3
    (ChangeSpec.witness6 (enc := enc) (C := Try.checked) false ⟨#[], #[.slice none 0 0], []⟩ 8 (by kernel_rfl) (by kernel_rfl) (by kernel_rfl) (by kernel_rfl)) ?_
  intro W base args ds gs before hval0 hW hcnd _
  have hval : ∀ (j : Nat) t v, Try.f3.params[j]? = some t → args[j]? = some v → Value.okWide Try.prog W .any base t v := hval0
  obtain ⟨p, q, hA0, hV, hb0, hfz, hnd⟩ := id hW
  have hA : DataW.TrodAll enc Try.prog W 0 (fun _ => true) true Try.f3.params.toList args.toList ds p := hA0
  rw [Try.params3] at hA hval
  obtain ⟨v0, d0, rfl, rfl, h0⟩ := trodAll_one hA
  obtain ⟨rfl, rfl⟩ := trodVars_none hV
  obtain rfl := hb0
  have hW' := hW
  simp only [List.append_nil] at hW'
  have k0 := h0
  have lt0 : ∀ x ∈ p, x.block < W.heap.size := fun x hx => hW'.lt x (by simp [hx])
  obtain ⟨a0, len0, cap0, rfl⟩ := okWide_slice Try.underlying22 (hval 0 22 v0 rfl rfl)
  obtain ⟨z0, hz0, w0⟩ : ∃ es, es.length = len0 ∧ LinR.IsLis W a0 es := by
    obtain ⟨fuel, hf⟩ := h0
    exact LinR.lis_open Try.underlying22 Try.underlying35 (by kernel_rfl) (by kernel_rfl) Try.underlying9 Try.underlying2 (by simpa [Value.cells] using hf)
  subst hz0
  refine (walk a0 cap0 z0 W w0).mono fun e W' ⟨he, bel⟩ => ?_
  subst he
  exact ⟨_, rfl, _, _, _, _, _, _, hW', trodAll_mk1 (shut_bool Try.underlying4 true), trodAll_mk1 (Below.trod laidOut (by kernel_rfl) (of_decide_eq_true (by kernel_rfl)) k0 bel lt0), rfl, bel.frame _, fun h => by cases h⟩
theorem over : Rows.FnExactLinesRightSaid :=
  OpenClaim.holds_of_wide 3 Try.f3 rfl rfl rfl rfl rfl rfl rfl ⟨rfl, rfl, rfl, rfl, rfl⟩ rfl rfl rfl rfl rfl (by kernel_rfl) Try.func3 (by kernel_rfl)
    (of_decide_eq_true (by kernel_rfl)) (by unfold Func.isWrapper; rw [if_neg (of_decide_eq_false (by kernel_rfl))]; exact ⟨rfl, rfl⟩)
    (fun os started H enc _ => lifted os started H enc)

end LinesRightL
/-- THE STATEMENT -/
theorem fnExactLinesRight_holds : Rows.FnExactLinesRightSaid := LinesRightL.over
#print axioms fnExactLinesRight_holds
end Go.Proofs.Ytnhjodlcdfkpnaa
