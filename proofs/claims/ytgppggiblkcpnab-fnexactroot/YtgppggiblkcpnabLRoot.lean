/-
  FnExactRoot: for every number the law's call returns true (the program's Root hands back what the model's does, every field), and the number reads as it did. No condition.
-/
import Derived.Test.YtgppggiblkcpnabRoot
namespace Go.Proofs.Ytgppggiblkcpnab
open Go.ChangeShapes Go.WideShapes Go.ChangeAt Go.RowKit
set_option linter.unusedVariables false
namespace RootL
open RootR
/-- Nothing is asked of the world. -/
def Laid (_ : World) : Prop := True
theorem Laid.below {w w' : World} (h : Laid w) (hb : Below w.heap.size w w') : Laid w' := trivial
theorem eq_any (n c : Int) (w : World) : Calls Try.prog 8 #[out n c, out n c] w fun e w' => e = .returned (.bool true) ∧ Below w.heap.size w w' := by
  unfold out
  go_enter Try.func8, Try.ntmps8
  go_wp2
  go_ret
  refine ⟨rfl, ?_⟩
  repeat' first | exact Below.refl _ _ | apply Below.alloc
  all_goals first | omega | (simp; done) | (simp; omega)
theorem both (a : Int) : ∃ n c : Int, (∀ w, Laid w → Calls Try.prog 7 #[.int .i64 a] w fun e w' => e = .returned (out n c) ∧ Below w.heap.size w w') ∧ (∀ w, Calls Try.prog 6 #[.int .i64 a] w fun e w' => e = .returned (out n c) ∧ Below w.heap.size w w') := by
  by_cases h : a < 0 ∨ 1000000000000000 < a
  · exact ⟨0, 1, fun w _ => impl_root_bad a h w, fun w => spec_root_bad a h w⟩
  · obtain ⟨n, rfl⟩ : ∃ n : Nat, a = n := ⟨a.toNat, by omega⟩
    obtain ⟨r, h1, h2⟩ := FixM.root_is n
    exact ⟨r, 0, fun w _ => impl_root n r (by omega) h1 h2 w, fun w => spec_root n r (by omega) h1 h2 w⟩
namespace Inner
theorem walk (a0 : Int) (w0 : (Lit.int .i64 a0).wf = true) (w : World) (hL : Laid w) :
    Calls Try.prog 3 #[.int .i64 a0] w fun e w' => e = .returned (.bool true) ∧ Below w.heap.size w w' := by
  obtain ⟨n, c, hi, hs⟩ := both a0
  have HI := hid_intro hi
  have HS := hid_intro hs
  have HL := hid_intro hL
  clear hi hs hL w0
  go_enter Try.func3, Try.ntmps3
  go_wp2_with fail
  refine (HS.out _).mono ?_
  rintro e u1 ⟨rfl, hb1⟩
  have HB1 := hid_intro hb1
  unfold out
  clear hb1
  go_wp2_with fail
  refine (HI.out _ (HL.out.below (HB1.out.alloc HB1.out.size _))).mono ?_
  rintro e u2 ⟨rfl, hb2⟩
  have HB2 := hid_intro ((HB1.out.alloc HB1.out.size _).trans (hb2.mono (HB1.out.alloc HB1.out.size _).size))
  have g0 := hb2.cell (p := ⟨u1.heap.size, 0, none⟩) (by simp)
  have g1 := hb2.cell (p := ⟨u1.heap.size, 1, none⟩) (by simp)
  have g2 := hb2.cell (p := ⟨u1.heap.size, 2, none⟩) (by simp)
  have hlt : u1.heap.size < u2.heap.size := by have := hb2.size; simp at this; omega
  simp [go_sem] at g0 g1 g2
  unfold out
  clear hb2
  go_wp2_with fail
  refine (eq_any n c _).mono ?_
  rintro e u3 ⟨rfl, hb3⟩
  have HB3 := hid_intro hb3
  clear hb3
  go_wp2
  go_ret
  refine ⟨rfl, ?_⟩
  exact HB2.out.trans ((bel_alloc HB3.out).mono HB2.out.size)
end Inner
theorem walk (a0 : Int) (w0 : (Lit.int .i64 a0).wf = true) (w : World) :
    Calls Try.prog 3 #[.int .i64 a0] w fun e w' => e = .returned (.bool true) ∧ Below w.heap.size w w' := Inner.walk a0 w0 w trivial
theorem own : ownKnob Try.prog.godebug = none := by kernel_rfl
set_option maxRecDepth 100000 in
theorem lifted (os : Os) (started : os.Started) (H : Type) (enc : TypeId × Value → H) :
    ReturnsInHanded {} Try.checked os 3 .any (Rows.fnExactRootSpec.pre6 enc Try.prog Try.f3 Rows.fnExactRootRow.domain false) (Rows.fnExactRootSpec.post enc Try.prog Try.f3 false true false false) := by
  refine returnsInHanded_of_change (C := Try.checked) own started (by kernel_rfl) Try.func3
    (ChangeSpec.witness6 (enc := enc) (C := Try.checked) false ⟨#[], #[.int .i64 0], []⟩ 8 (by kernel_rfl) (by kernel_rfl) (by kernel_rfl) (by kernel_rfl)) ?_
  intro W base args ds gs before hval0 hW hcnd _
  have hval : ∀ (j : Nat) t v, Try.f3.params[j]? = some t → args[j]? = some v → Value.okWide Try.prog W .any base t v := hval0
  have hW' := hW
  obtain ⟨p, q, hA0, hV, rfl, hfz, hnd⟩ := hW
  have hA : DataW.TrodAll enc Try.prog W 0 (fun _ => true) true Try.f3.params.toList args.toList ds p := hA0
  rw [Try.params3] at hA hval
  obtain ⟨v0, vs0, d0, ds0, p0, q0, hargs, rfl, rfl, h0, r0⟩ := trodAll_cons hA
  obtain ⟨rfl, rfl, rfl⟩ := trodAll_nil r0
  obtain rfl : args = #[v0] := by cases args; simp_all
  obtain ⟨rfl, rfl⟩ := trodVars_none hV
  obtain ⟨a0, rfl, rfl, rfl, w0⟩ := open_int Try.underlying2 (hval 0 2 v0 rfl rfl) h0
  clear hA0 hval0
  simp only [List.append_nil] at hW'
  refine (walk a0 w0 W).mono fun e W' ⟨he, bel⟩ => ?_
  subst he
  exact ⟨_, rfl, _, _, _, [], [], [], hW', (trodAll_cons_mk (shut_bool Try.underlying4 _) trodAll_mk0), (trodAll_cons_mk (shut_int Try.underlying2 w0) trodAll_mk0), rfl, bel.frame _, fun h => by cases h⟩

theorem over : Rows.fnExactRootRow.holds Try.pinned (OpenSpec.ofChange Rows.fnExactRootSpec) :=
  OpenClaim.holds_of_wide 3 Try.f3 rfl rfl rfl rfl rfl rfl rfl ⟨rfl, rfl, rfl, rfl, rfl⟩ rfl rfl rfl rfl rfl (by kernel_rfl) Try.func3 (by kernel_rfl)
    (of_decide_eq_true (by kernel_rfl)) (by unfold Func.isWrapper; first | (rw [if_pos (by decide +kernel)]; kernel_rfl) | (rw [if_neg (by decide +kernel)]; exact ⟨rfl, rfl⟩))
    (fun os started H enc _ => lifted os started H enc)


end RootL
/-- THE STATEMENT -/
theorem fnExactRoot_holds : Rows.FnExactRootSaid := RootL.over
#print axioms fnExactRoot_holds
end Go.Proofs.Ytgppggiblkcpnab
