/-
  FnExactPutText: for every input the law's call returns true (the program's PutText hands back what the model's does), and the input reads as it did. No condition.
-/
import Derived.Test.YtipiieooghampaeNum
import Derived.Test.YtipiieooghampaeJoin
namespace Go.Proofs.Ytipiieooghampae
open Go.ChangeShapes Go.WideShapes Go.ChangeAt Go.RowKit
open Go.ChangeMaps (open_string shut_string)
set_option linter.unusedVariables false
namespace PutTextL
theorem spec_text (t : ByteArray) (w : World) (ht : t.size ≤ 8000) :
    Calls Try.prog 8 #[.string t] w fun e w' => e = .returned (.string (NumR.numB t.size ++ t)) ∧ Below w.heap.size w w' := by
  obtain ⟨v, hv⟩ : ∃ v, v = NumR.numB t.size := ⟨_, rfl⟩
  have h1 := fun w => NumR.spec_put t.size w (by omega)
  have h2 := NumR.numB_size (n := t.size) (by omega)
  rw [← hv] at h1 h2
  rw [← hv]
  clear hv
  go_enter Try.func8, Try.ntmps8
  go_wp2_with (first | (go_at_call 6; refine (h1 _).mono ?_; rintro e w1 ⟨rfl, hb1⟩))
  go_ret
  exact ⟨rfl, hb1⟩
theorem impl_text (t : ByteArray) (w : World) (ht : t.size ≤ 8000) :
    Calls Try.prog 9 #[.string t] w fun e w' => e = .returned (.string (NumR.numB t.size ++ t)) ∧ Below w.heap.size w w' := by
  obtain ⟨v, hv⟩ : ∃ v, v = NumR.numB t.size := ⟨_, rfl⟩
  have h1 := fun w => NumR.impl_put t.size w (by omega)
  have h2 := NumR.numB_size (n := t.size) (by omega)
  rw [← hv] at h1 h2
  rw [← hv]
  clear hv
  go_enter Try.func9, Try.ntmps9
  go_wp2_with (first | (go_at_call 7; refine (h1 _).mono ?_; rintro e w1 ⟨rfl, hb1⟩) | (go_at_call 14; refine (JoinR.join2 v t _ (by omega)).mono ?_; rintro e w2 ⟨rfl, hb2⟩))
  go_ret
  exact ⟨rfl, hb1.trans (hb2.mono hb1.size)⟩
theorem spec_big (t : ByteArray) (w : World) (ht : 8000 < t.size) (hm : t.size ≤ 1048576) :
    Calls Try.prog 8 #[.string t] w fun e w' => e = .returned (.string ⟨#[]⟩) ∧ Below w.heap.size w w' := by
  go_enter Try.func8, Try.ntmps8
  go_wp2
  go_ret
  exact ⟨rfl, Below.refl _ _⟩
theorem impl_big (t : ByteArray) (w : World) (ht : 8000 < t.size) (hm : t.size ≤ 1048576) :
    Calls Try.prog 9 #[.string t] w fun e w' => e = .returned (.string ⟨#[]⟩) ∧ Below w.heap.size w w' := by
  go_enter Try.func9, Try.ntmps9
  go_wp2
  go_ret
  exact ⟨rfl, Below.refl _ _⟩
theorem walk (a0 : ByteArray) (w0 : a0.size ≤ maxLen) (w : World) :
    Calls Try.prog 4 #[.string a0] w fun e w' => e = .returned (.bool true) ∧ Below w.heap.size w w' := by
  unfold maxLen at w0
  by_cases h : 1048576 < a0.size
  · go_enter Try.func4, Try.ntmps4
    go_wp2
    go_ret
    exact ⟨rfl, Below.refl _ _⟩
  · obtain ⟨v, hs, hi⟩ : ∃ v, (∀ w, Calls Try.prog 8 #[.string a0] w fun e w' => e = .returned (.string v) ∧ Below w.heap.size w w') ∧ (∀ w, Calls Try.prog 9 #[.string a0] w fun e w' => e = .returned (.string v) ∧ Below w.heap.size w w') := by
      by_cases h8 : a0.size ≤ 8000
      · exact ⟨_, fun w => spec_text a0 w h8, fun w => impl_text a0 w h8⟩
      · exact ⟨_, fun w => spec_big a0 w (by omega) (by omega), fun w => impl_big a0 w (by omega) (by omega)⟩
    go_enter Try.func4, Try.ntmps4
    go_wp2_with (first | (go_at_call 8; refine (hs _).mono ?_; rintro e w1 ⟨rfl, hb1⟩) | (go_at_call 9; refine (hi _).mono ?_; rintro e w2 ⟨rfl, hb2⟩))
    go_ret
    exact ⟨rfl, hb1.trans (hb2.mono hb1.size)⟩
theorem own : ownKnob Try.prog.godebug = none := by kernel_rfl
set_option maxRecDepth 100000 in
theorem lifted (os : Os) (started : os.Started) (H : Type) (enc : TypeId × Value → H) :
    ReturnsInHanded {} Try.checked os 4 .any (Rows.fnExactPutTextSpec.pre6 enc Try.prog Try.f4 Rows.fnExactPutTextRow.domain false) (Rows.fnExactPutTextSpec.post enc Try.prog Try.f4 false true false false) := by
  refine returnsInHanded_of_change (C := Try.checked) own started (by kernel_rfl) Try.func4
    (ChangeSpec.witness6 (enc := enc) (C := Try.checked) false ⟨#[], #[.string ByteArray.empty], []⟩ 8 (by kernel_rfl) (by kernel_rfl) (by kernel_rfl) (by kernel_rfl)) ?_
  intro W base args ds gs before hval0 hW hcnd _
  have hval : ∀ (j : Nat) t v, Try.f4.params[j]? = some t → args[j]? = some v → Value.okWide Try.prog W .any base t v := hval0
  have hW' := hW
  obtain ⟨p, q, hA0, hV, rfl, hfz, hnd⟩ := hW
  have hA : DataW.TrodAll enc Try.prog W 0 (fun _ => true) true Try.f4.params.toList args.toList ds p := hA0
  rw [Try.params4] at hA hval
  obtain ⟨v0, vs0, d0, ds0, p0, q0, hargs, rfl, rfl, h0, r0⟩ := trodAll_cons hA
  obtain ⟨rfl, rfl, rfl⟩ := trodAll_nil r0
  obtain rfl : args = #[v0] := by cases args; simp_all
  obtain ⟨rfl, rfl⟩ := trodVars_none hV
  obtain ⟨a0, rfl, rfl, rfl, w0⟩ := open_string Try.underlying9 (hval 0 9 v0 rfl rfl) h0
  clear hA0 hval0
  simp only [List.append_nil] at hW'
  refine (walk a0 w0 W).mono fun e W' ⟨he, bel⟩ => ?_
  subst he
  exact ⟨_, rfl, _, _, _, [], [], [], hW', (trodAll_cons_mk (shut_bool Try.underlying4 _) trodAll_mk0), (trodAll_cons_mk (shut_string Try.underlying9 w0) trodAll_mk0), rfl, bel.frame _, fun h => by cases h⟩

theorem over : Rows.fnExactPutTextRow.holds Try.pinned (OpenSpec.ofChange Rows.fnExactPutTextSpec) :=
  OpenClaim.holds_of_wide 4 Try.f4 rfl rfl rfl rfl rfl rfl rfl ⟨rfl, rfl, rfl, rfl, rfl⟩ rfl rfl rfl rfl rfl (by kernel_rfl) Try.func4 (by kernel_rfl)
    (of_decide_eq_true (by kernel_rfl)) (by unfold Func.isWrapper; first | (rw [if_pos (by decide +kernel)]; kernel_rfl) | (rw [if_neg (by decide +kernel)]; exact ⟨rfl, rfl⟩))
    (fun os started H enc _ => lifted os started H enc)


end PutTextL
/-- THE STATEMENT -/
theorem fnExactPutText_holds : Rows.FnExactPutTextSaid := PutTextL.over
#print axioms fnExactPutText_holds
end Go.Proofs.Ytipiieooghampae
