/-
  FnExactUnseal: for every input the law's call returns true (the program's Unseal hands back what the model's does), and the input reads as it did. No condition.
-/
import Derived.Test.YtipiieooghampafUnseal
namespace Go.Proofs.Ytipiieooghampaf
open Go.ChangeShapes Go.WideShapes Go.ChangeAt Go.RowKit
open Go.ChangeMaps (open_string shut_string)
set_option linter.unusedVariables false
namespace UnsealL
theorem walk (a0 : ByteArray) (w0 : a0.size ≤ maxLen) (w : World) :
    Calls Try.prog 6 #[.string a0] w fun e w' => e = .returned (.bool true) ∧ Below w.heap.size w w' := by
  unfold maxLen at w0
  by_cases h : 1048576 < a0.size
  · go_enter Try.func6, Try.ntmps6
    go_wp2
    go_ret
    exact ⟨rfl, Below.refl _ _⟩
  · obtain ⟨t, x, y, hs, hi⟩ : ∃ t x y, (∀ w, Calls Try.prog 13 #[.string a0] w fun e w' => e = .returned (.agg #[.string t, .int .i64 x, .int .i64 y]) ∧ Below w.heap.size w w') ∧ (∀ w, Calls Try.prog 14 #[.string a0] w fun e w' => e = .returned (.agg #[.string t, .int .i64 x, .int .i64 y]) ∧ Below w.heap.size w w') := by
      by_cases h8 : 8000 < a0.size
      · exact ⟨_, _, _, fun w => UnsealR.spec_big a0 w h8 (by omega), fun w => UnsealR.impl_big a0 w h8 (by omega)⟩
      by_cases h4 : a0.size < 4
      · exact ⟨_, _, _, fun w => UnsealR.spec_short a0 w h4, fun w => UnsealR.impl_short a0 w h4⟩
      cases hb : UnsealR.okU a0 with
      | false => exact ⟨_, _, _, fun w => UnsealR.spec_un a0 w (by omega) (by omega) false hb, fun w => UnsealR.impl_un a0 w (by omega) (by omega) false hb⟩
      | true => exact ⟨_, _, _, fun w => UnsealR.spec_un a0 w (by omega) (by omega) true hb, fun w => UnsealR.impl_un a0 w (by omega) (by omega) true hb⟩
    go_enter Try.func6, Try.ntmps6
    go_wp2_with (first | (go_at_call 13; refine (hs _).mono ?_; rintro e w1 ⟨rfl, hb1⟩) | (go_at_call 14; refine (hi _).mono ?_; rintro e w2 ⟨rfl, hb2⟩; obtain ⟨hcc, hff⟩ := bcell hb2; have hz : w1.heap.size < w2.heap.size := by (have hz2 := hb2.size; simp at hz2; omega)) | (go_at_call 15; refine (UnsealR.eq_any _ _ _ _).mono ?_; rintro e w3 ⟨rfl, hb3⟩))
    go_ret
    refine ⟨rfl, ?_⟩
    have h1 : Below w.heap.size w w2 := hb1.trans ((bel_alloc hb2).mono hb1.size)
    exact h1.trans ((bel_alloc hb3).mono h1.size)
theorem own : ownKnob Try.prog.godebug = none := by kernel_rfl
set_option maxRecDepth 100000 in
theorem lifted (os : Os) (started : os.Started) (H : Type) (enc : TypeId × Value → H) :
    ReturnsInHanded {} Try.checked os 6 .any (Rows.fnExactUnsealSpec.pre6 enc Try.prog Try.f6 Rows.fnExactUnsealRow.domain false) (Rows.fnExactUnsealSpec.post enc Try.prog Try.f6 false true false false) := by
  refine returnsInHanded_of_change (C := Try.checked) own started (by kernel_rfl) Try.func6
    (ChangeSpec.witness6 (enc := enc) (C := Try.checked) false ⟨#[], #[.string ByteArray.empty], []⟩ 8 (by kernel_rfl) (by kernel_rfl) (by kernel_rfl) (by kernel_rfl)) ?_
  intro W base args ds gs before hval0 hW hcnd _
  have hval : ∀ (j : Nat) t v, Try.f6.params[j]? = some t → args[j]? = some v → Value.okWide Try.prog W .any base t v := hval0
  have hW' := hW
  obtain ⟨p, q, hA0, hV, rfl, hfz, hnd⟩ := hW
  have hA : DataW.TrodAll enc Try.prog W 0 (fun _ => true) true Try.f6.params.toList args.toList ds p := hA0
  rw [Try.params6] at hA hval
  obtain ⟨v0, vs0, d0, ds0, p0, q0, hargs, rfl, rfl, h0, r0⟩ := trodAll_cons hA
  obtain ⟨rfl, rfl, rfl⟩ := trodAll_nil r0
  obtain rfl : args = #[v0] := by cases args; simp_all
  obtain ⟨rfl, rfl⟩ := trodVars_none hV
  obtain ⟨a0, rfl, rfl, rfl, w0⟩ := open_string Try.underlying9 (hval 0 9 v0 rfl rfl) h0
  clear hA0 hval0
  simp only [List.append_nil] at hW'
  refine (walk a0 w0 W).mono fun e W' ⟨he, bel⟩ => ?_
  subst he
  exact ⟨_, rfl, _, _, _, [], [], [], hW', (trodAll_cons_mk (shut_bool Try.underlying4 _) trodAll_mk0), (trodAll_cons_mk (shut_string Try.underlying9 w0) trodAll_mk0), rfl, bel.frame _, fun h => by cases h⟩

theorem over : Rows.fnExactUnsealRow.holds Try.pinned (OpenSpec.ofChange Rows.fnExactUnsealSpec) :=
  OpenClaim.holds_of_wide 6 Try.f6 rfl rfl rfl rfl rfl rfl rfl ⟨rfl, rfl, rfl, rfl, rfl⟩ rfl rfl rfl rfl rfl (by kernel_rfl) Try.func6 (by kernel_rfl)
    (of_decide_eq_true (by kernel_rfl)) (by unfold Func.isWrapper; first | (rw [if_pos (by decide +kernel)]; kernel_rfl) | (rw [if_neg (by decide +kernel)]; exact ⟨rfl, rfl⟩))
    (fun os started H enc _ => lifted os started H enc)


end UnsealL
/-- THE STATEMENT -/
theorem fnExactUnseal_holds : Rows.FnExactUnsealSaid := UnsealL.over
#print axioms fnExactUnseal_holds
end Go.Proofs.Ytipiieooghampaf
