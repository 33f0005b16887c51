/-
  FnExactEventRight: for every event the law's call returns true (what the program calls a right event is what the model calls one), and the event reads as it did. No condition.
-/
import Derived.Test.YtbjildnnlijidaaEvtIn
import Derived.Test.YtbjildnnlijidaaEvtLaw
namespace Go.Proofs.Ytbjildnnlijidaa
open Go.ChangeShapes Go.WideShapes Go.ChangeAt Go.RowKit
set_option linter.unusedVariables false
namespace EventRightL
open EvtR
theorem inner (i a m : ByteArray) (n k : Int) (t : ByteArray) (v : Bool) (sz : Int) (hz : 0 ≤ sz) (w : World)
    (hl : ∀ w, Calls Try.prog 9 #[ev i a m n k t, .int .i64 1048576] w fun e w' => e = .returned (.int .i64 sz) ∧ Below w.heap.size w w')
    (ht : ∀ w, Calls Try.prog 11 #[ev i a m n k t] w fun e w' => e = .returned (ev i a m n k t) ∧ Below w.heap.size w w')
    (hs : ∀ w, Calls Try.prog 10 #[ev i a m n k t] w fun e w' => e = .returned (.bool v) ∧ Below w.heap.size w w')
    (hi : ∀ w, Calls Try.prog 12 #[ev i a m n k t] w fun e w' => e = .returned (.bool v) ∧ Below w.heap.size w w') :
    Calls Try.prog 4 #[ev i a m n k t] w fun e w' => e = .returned (.bool true) ∧ Below w.heap.size w w' := by
  have HT := hid_intro ht
  have HS := hid_intro hs
  have HI := hid_intro hi
  have HZ := hid_intro hl
  have hz' : ¬ sz < 0 := by omega
  clear ht hs hi hl
  unfold ev at *
  go_enter Try.func4, Try.ntmps4
  go_wp2_with fail
  refine (HZ.out _).mono ?_
  rintro e w1 ⟨rfl, hb1⟩
  obtain ⟨hc, hf⟩ := bcell hb1
  have HB1 := hid_intro (bel_alloc hb1)
  have hlt1 : w.heap.size < w1.heap.size := by have := hb1.size; simp at this; omega
  clear hb1
  go_wp2_with fail
  refine (HT.out _).mono ?_
  rintro e w2 ⟨rfl, hb2⟩
  obtain ⟨hc2, hf2⟩ := bcell hb2
  have HB2 := hid_intro (HB1.out.trans (hb2.mono HB1.out.size))
  have hlt2 : w.heap.size < w2.heap.size := by have := hb2.size; omega
  clear hb2
  go_wp2_with fail
  refine (HS.out _).mono ?_
  rintro e w3 ⟨rfl, hb3⟩
  obtain ⟨hc3, hf3⟩ := bcell hb3
  have HB3 := hid_intro (HB2.out.trans (hb3.mono HB2.out.size))
  have hlt3 : w.heap.size < w3.heap.size := by have := hb3.size; omega
  clear hb3
  go_wp2_with fail
  refine (HT.out _).mono ?_
  rintro e w4 ⟨rfl, hb4⟩
  have HB4 := hid_intro (HB3.out.trans (hb4.mono HB3.out.size))
  clear hb4
  go_wp2_with fail
  refine (HI.out _).mono ?_
  rintro e w5 ⟨rfl, hb5⟩
  have HB5 := hid_intro (HB4.out.trans (hb5.mono HB4.out.size))
  clear hb5
  cases v
  all_goals
    go_wp2
    go_ret
    exact ⟨rfl, HB5.out⟩
theorem long (i a m : ByteArray) (n k : Int) (t : ByteArray) (w : World)
    (hl : ∀ w, Calls Try.prog 9 #[ev i a m n k t, .int .i64 1048576] w fun e w' => e = .returned (.int .i64 (-1)) ∧ Below w.heap.size w w') :
    Calls Try.prog 4 #[ev i a m n k t] w fun e w' => e = .returned (.bool true) ∧ Below w.heap.size w w' := by
  have HZ := hid_intro hl
  clear hl
  unfold ev at *
  go_enter Try.func4, Try.ntmps4
  go_wp2_with fail
  refine (HZ.out _).mono ?_
  rintro e w1 ⟨rfl, hb1⟩
  have HB1 := hid_intro (bel_alloc hb1)
  clear hb1
  go_wp2_with fail
  go_ret
  exact ⟨rfl, HB1.out⟩
theorem walk (i a m : ByteArray) (n k : Int) (t : ByteArray) (h1 : i.size ≤ maxLen) (h2 : a.size ≤ maxLen) (h3 : m.size ≤ maxLen) (h4 : (Lit.int .i64 n).wf = true) (h5 : (Lit.int .i64 k).wf = true) (h6 : t.size ≤ maxLen) (w : World) :
    Calls Try.prog 4 #[ev i a m n k t] w fun e w' => e = .returned (.bool true) ∧ Below w.heap.size w w' := by
  have hl := fun w => sz_any i a m n k t 1048576 h1 h2 h3 h6 (by omega) (by omega) w
  by_cases h : szE i a m t ≤ 1048576
  · rw [if_pos h] at hl
    unfold szE at h
    exact inner i a m n k t _ _ (by unfold szE; omega) w hl (fun w => toEvent_any i a m n k t w) (fun w => spec_event i a m n k t (by omega) (by omega) (by omega) (by omega) w) (fun w => impl_event i a m n k t (by omega) (by omega) (by omega) (by omega) w)
  · rw [if_neg h] at hl
    exact long i a m n k t w hl
theorem own : ownKnob Try.prog.godebug = none := by kernel_rfl
theorem laidOut : laidOutB Try.prog = true := by kernel_rfl
set_option maxRecDepth 100000 in
theorem lifted (os : Os) (started : os.Started) (H : Type) (enc : TypeId × Value → H) :
    ReturnsInHanded {} Try.checked os 4 .any (Rows.fnExactEventRightSpec.pre6 enc Try.prog Try.f4 Rows.fnExactEventRightRow.domain false) (Rows.fnExactEventRightSpec.post enc Try.prog Try.f4 false true false false) := by
  refine returnsInHanded_of_change (C := Try.checked) own started (by kernel_rfl) Try.func4
    (ChangeSpec.witness6 (enc := enc) (C := Try.checked) false ⟨#[], #[.agg #[.string ByteArray.empty, .string ByteArray.empty, .string ByteArray.empty, .int .i64 0, .int .i64 0, .string ByteArray.empty]], []⟩ 8 (by kernel_rfl) (by kernel_rfl) (by kernel_rfl) (by kernel_rfl)) ?_
  intro W base args ds gs before hval0 hW hcnd _
  have hval : ∀ (j : Nat) t v, Try.f4.params[j]? = some t → args[j]? = some v → Value.okWide Try.prog W .any base t v := hval0
  obtain ⟨p, q, hA0, hV, hb0, hfz, hnd⟩ := id hW
  have hA : DataW.TrodAll enc Try.prog W 0 (fun _ => true) true Try.f4.params.toList args.toList ds p := hA0
  rw [Try.params4] at hA hval
  obtain ⟨v0, d0, rfl, rfl, h0⟩ := trodAll_one hA
  obtain ⟨rfl, rfl⟩ := trodVars_none hV
  obtain rfl := hb0
  have hW' := hW
  simp only [List.append_nil] at hW'
  have k0 := h0
  have lt0 : ∀ x ∈ p, x.block < W.heap.size := fun x hx => hW'.lt x (by simp [hx])
  obtain ⟨cs0, rfl, _⟩ := okWide_struct Try.underlying24 (hval 0 24 v0 rfl rfl)
  obtain ⟨fuel0, hf0⟩ := h0
  obtain ⟨i0, a0, m0, n0, k0', t0, hcs0, wi0, wa0, wm0, wn0, wk0, wt0⟩ := EvtR.event_cells Try.underlying24 (by kernel_rfl) (by kernel_rfl) Try.underlying9 Try.underlying9 Try.underlying9 Try.underlying2 Try.underlying2 Try.underlying9 hf0
  obtain rfl : cs0 = #[.string i0, .string a0, .string m0, .int .i64 n0, .int .i64 k0', .string t0] := by
    obtain ⟨l⟩ := cs0
    simp [Value.cells] at hcs0
    rw [hcs0]
  refine (walk i0 a0 m0 n0 k0' t0 wi0 wa0 wm0 wn0 wk0 wt0 W ).mono fun e W' ⟨he, bel⟩ => ?_
  subst he
  exact ⟨_, rfl, _, _, _, _, _, _, hW', trodAll_mk1 (shut_bool Try.underlying4 true), trodAll_mk1 (Below.trod laidOut (by kernel_rfl) (of_decide_eq_true (by kernel_rfl)) k0 bel lt0), rfl, bel.frame _, fun h => by cases h⟩
theorem over : Rows.FnExactEventRightSaid :=
  OpenClaim.holds_of_wide 4 Try.f4 rfl rfl rfl rfl rfl rfl rfl ⟨rfl, rfl, rfl, rfl, rfl⟩ rfl rfl rfl rfl rfl (by kernel_rfl) Try.func4 (by kernel_rfl)
    (of_decide_eq_true (by kernel_rfl)) (by unfold Func.isWrapper; rw [if_neg (of_decide_eq_false (by kernel_rfl))]; exact ⟨rfl, rfl⟩)
    (fun os started H enc _ => lifted os started H enc)

end EventRightL
/-- THE STATEMENT -/
theorem fnExactEventRight_holds : Rows.FnExactEventRightSaid := EventRightL.over
#print axioms fnExactEventRight_holds
end Go.Proofs.Ytbjildnnlijidaa
