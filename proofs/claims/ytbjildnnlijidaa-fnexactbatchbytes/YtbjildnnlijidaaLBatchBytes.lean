/-
  FnExactBatchBytes: for every list of events the law's call returns true (the program's BatchBytes hands back what the model's does, and writes into no list), and the list reads as it did. No condition.
-/
import Derived.Test.YtbjildnnlijidaaBatI
import Derived.Test.YtbjildnnlijidaaEvS2
import Derived.Test.YtbjildnnlijidaaEvsIn
namespace Go.Proofs.Ytbjildnnlijidaa
open Go.ChangeShapes Go.WideShapes Go.ChangeAt Go.RowKit
set_option linter.unusedVariables false
namespace BatchBytesL
open EvtR
/-- What is known of either side. -/
structure Known (len : Nat) (es : List E) (v : ByteArray) : Prop where
  spec : ∀ ao cap w, Evs ao len es w → Calls Try.prog 16 #[.slice ao len cap] w fun e w' => e = .returned (.string v) ∧ Below w.heap.size w w'
  impl : ∀ ao cap w, Evs ao len es w → Calls Try.prog 18 #[.slice ao len cap] w fun e w' => e = .returned (.string v) ∧ Below w.heap.size w w'
  copy : ∀ ao cap w, Evs ao len es w → Calls Try.prog 17 #[.slice ao len cap] w fun e w' => e = .returned (.slice (some ⟨w.heap.size, 0, none⟩) len len) ∧ Evs (some ⟨w.heap.size, 0, none⟩) len es w' ∧ Below w.heap.size w w'
  eq : ∀ ao bo cap cap' w, Evs ao len es w → Evs bo len es w → Calls Try.prog 19 #[.slice ao len cap, .slice bo len cap'] w fun e w' => e = .returned (.bool true) ∧ Below w.heap.size w w'
set_option maxHeartbeats 4000000 in
theorem law_in (ao : Option Addr) (len cap : Nat) (es : List E) (v : ByteArray) (sz : Int) (h0 : 0 ≤ sz) (w : World) (hI : Evs ao len es w) (hK : Known len es v)
    (hZ : Calls Try.prog 15 #[.slice ao len cap, .int .i64 1048576] w fun e w' => e = .returned (.int .i64 sz) ∧ Below w.heap.size w w') :
    Calls Try.prog 6 #[.slice ao len cap] w fun e w' => e = .returned (.bool true) ∧ Below w.heap.size w w' := by
  have HI := hid_intro hI
  have HK := hid_intro hK
  have HZ := hid_intro hZ
  have hz' : ¬ sz < 0 := by omega
  clear hI hK hZ
  go_enter Try.func6, Try.ntmps6
  go_wp2_with fail
  refine HZ.out.mono ?_
  rintro e w0 ⟨rfl, hb0⟩
  have HB0 := hid_intro hb0
  clear hb0
  go_wp2_with fail
  refine (HK.out.copy _ _ _ (HI.out.below HB0.out)).mono ?_
  rintro e w1 ⟨rfl, hi1, hb1⟩
  have HB1 := hid_intro (HB0.out.trans (hb1.mono HB0.out.size))
  have HI1 := hid_intro hi1
  clear hb1 hi1
  go_wp2_with fail
  refine (HK.out.spec _ _ _ HI1.out).mono ?_
  rintro e w2 ⟨rfl, hb2⟩
  have HB2 := hid_intro (HB1.out.trans (hb2.mono HB1.out.size))
  clear hb2 HI1 HB1
  go_wp2_with fail
  refine (HK.out.copy _ _ _ (HI.out.below HB2.out)).mono ?_
  rintro e w3 ⟨rfl, hi3, hb3⟩
  have HB3 := hid_intro (HB2.out.trans (hb3.mono HB2.out.size))
  have HI3 := hid_intro hi3
  clear hi3 hb3
  go_wp2_with fail
  refine (HK.out.impl _ _ _ HI3.out).mono ?_
  rintro e w4 ⟨rfl, hb4⟩
  have HB4 := hid_intro (HB3.out.trans (hb4.mono HB3.out.size))
  have HI4 := hid_intro (HI3.out.below hb4)
  clear hb4 HI3
  go_wp2_with fail
  refine (HK.out.copy _ _ _ (HI.out.below HB4.out)).mono ?_
  rintro e w5 ⟨rfl, hi5, hb5⟩
  have HB5 := hid_intro (HB4.out.trans (hb5.mono HB4.out.size))
  have HI5 := hid_intro hi5
  have HI6 := hid_intro (HI4.out.below hb5)
  clear hi5 hb5
  go_wp2_with fail
  refine (HK.out.eq _ _ _ _ _ HI6.out HI5.out).mono ?_
  rintro e w6 ⟨rfl, hb6⟩
  have HB6 := hid_intro (HB5.out.trans (hb6.mono HB5.out.size))
  clear hb6
  go_wp2_with fail
  go_ret
  exact ⟨rfl, HB6.out⟩
theorem long (ao : Option Addr) (len cap : Nat) (w : World)
    (hZ : Calls Try.prog 15 #[.slice ao len cap, .int .i64 1048576] w fun e w' => e = .returned (.int .i64 (-1)) ∧ Below w.heap.size w w') :
    Calls Try.prog 6 #[.slice ao len cap] w fun e w' => e = .returned (.bool true) ∧ Below w.heap.size w w' := by
  have HZ := hid_intro hZ
  clear hZ
  go_enter Try.func6, Try.ntmps6
  go_wp2_with fail
  refine HZ.out.mono ?_
  rintro e w0 ⟨rfl, hb0⟩
  have HB0 := hid_intro hb0
  clear hb0
  go_wp2_with fail
  go_ret
  exact ⟨rfl, HB0.out⟩
theorem szs_long (ao : Option Addr) (len cap : Nat) (w : World) (h : 1048576 < len) (hm : len ≤ maxLen) :
    Calls Try.prog 15 #[.slice ao len cap, .int .i64 1048576] w fun e w' => e = .returned (.int .i64 (-1)) ∧ Below w.heap.size w w' := by
  unfold maxLen at hm
  have h1 : (1048576 : Int) - (len : Int) < 0 := by omega
  go_enter Try.func15, Try.ntmps15
  go_wp2_with fail
  go_ret
  exact ⟨rfl, Below.refl _ _⟩
theorem small_of (es : List E) (h : szL es ≤ 1048576) : ∀ e ∈ es, e.Small := by
  induction es with
  | nil => intro e he; cases he
  | cons x es ih =>
    intro e he
    have hn := szL_nn es
    have hx := sz_nn x
    have hs : szL (x :: es) = szE x.i x.a x.m x.t + szL es := by simp [szL]
    rcases List.mem_cons.1 he with rfl | he
    · unfold szE at hs hx
      unfold E.Small
      omega
    · exact ih (by omega) e he
theorem walk (a0 : Option Addr) (len0 cap0 : Nat) (z0 : List E) (w : World) (w0 : IsEvs w a0 len0 cap0 z0) :
    Calls Try.prog 6 #[.slice a0 len0 cap0] w fun e w' => e = .returned (.bool true) ∧ Below w.heap.size w w' := by
  obtain ⟨hm, hI, hin⟩ := w0
  by_cases h : len0 ≤ 1048576
  · have hl := szs_any a0 len0 cap0 z0 w h hI (fun e he => ⟨(hin e he).1, (hin e he).2.1, (hin e he).2.2.1, (hin e he).2.2.2.1⟩)
    have hn := szL_nn z0
    by_cases hs : (len0 : Int) + szL z0 ≤ 1048576
    · rw [if_pos hs] at hl
      have hsm := small_of z0 (by omega)
      exact law_in a0 len0 cap0 z0 _ _ (by omega) w hI ⟨fun ao cap w h2 => spec_batch ao len0 cap z0 w h hsm h2, fun ao cap w h2 => impl_batch ao len0 cap z0 w h hsm h2, fun ao cap w h2 => toEvs_any ao len0 cap z0 w h h2, fun ao bo cap cap' w h2 h3 => eqEvs_any ao bo len0 cap cap' z0 w h h2 h3⟩ hl
    · rw [if_neg hs] at hl
      exact long a0 len0 cap0 w hl
  · exact long a0 len0 cap0 w (szs_long a0 len0 cap0 w (by omega) hm)
theorem own : ownKnob Try.prog.godebug = none := by kernel_rfl
theorem laidOut : laidOutB Try.prog = true := by kernel_rfl
set_option maxRecDepth 100000 in
theorem lifted (os : Os) (started : os.Started) (H : Type) (enc : TypeId × Value → H) :
    ReturnsInHanded {} Try.checked os 6 .any (Rows.fnExactBatchBytesSpec.pre6 enc Try.prog Try.f6 Rows.fnExactBatchBytesRow.domain false) (Rows.fnExactBatchBytesSpec.post enc Try.prog Try.f6 false true false false) := by
  refine returnsInHanded_of_change (C := Try.checked) own started (by kernel_rfl) Try.func6
    (ChangeSpec.witness6 (enc := enc) (C := Try.checked) false ⟨#[], #[.slice none 0 0], []⟩ 8 (by kernel_rfl) (by kernel_rfl) (by kernel_rfl) (by kernel_rfl)) ?_
  intro W base args ds gs before hval0 hW hcnd _
  have hval : ∀ (j : Nat) t v, Try.f6.params[j]? = some t → args[j]? = some v → Value.okWide Try.prog W .any base t v := hval0
  obtain ⟨p, q, hA0, hV, hb0, hfz, hnd⟩ := id hW
  have hA : DataW.TrodAll enc Try.prog W 0 (fun _ => true) true Try.f6.params.toList args.toList ds p := hA0
  rw [Try.params6] at hA hval
  obtain ⟨v0, d0, rfl, rfl, h0⟩ := trodAll_one hA
  obtain ⟨rfl, rfl⟩ := trodVars_none hV
  obtain rfl := hb0
  have hW' := hW
  simp only [List.append_nil] at hW'
  have k0 := h0
  have lt0 : ∀ x ∈ p, x.block < W.heap.size := fun x hx => hW'.lt x (by simp [hx])
  obtain ⟨a0, len0, cap0, rfl⟩ := okWide_slice Try.underlying31 (hval 0 31 v0 rfl rfl)
  obtain ⟨z0, w0⟩ : ∃ es, EvtR.IsEvs W a0 len0 cap0 es := by
    obtain ⟨fuel, hf⟩ := h0
    exact EvtR.evs_open Try.underlying31 Try.underlying24 (by kernel_rfl) (by kernel_rfl) Try.underlying9 Try.underlying9 Try.underlying9 Try.underlying2 Try.underlying2 Try.underlying9 (by simpa [Value.cells] using hf)
  refine (walk a0 len0 cap0 z0 W w0).mono fun e W' ⟨he, bel⟩ => ?_
  subst he
  exact ⟨_, rfl, _, _, _, _, _, _, hW', trodAll_mk1 (shut_bool Try.underlying4 true), trodAll_mk1 (Below.trod laidOut (by kernel_rfl) (of_decide_eq_true (by kernel_rfl)) k0 bel lt0), rfl, bel.frame _, fun h => by cases h⟩
theorem over : Rows.FnExactBatchBytesSaid :=
  OpenClaim.holds_of_wide 6 Try.f6 rfl rfl rfl rfl rfl rfl rfl ⟨rfl, rfl, rfl, rfl, rfl⟩ rfl rfl rfl rfl rfl (by kernel_rfl) Try.func6 (by kernel_rfl)
    (of_decide_eq_true (by kernel_rfl)) (by unfold Func.isWrapper; rw [if_neg (of_decide_eq_false (by kernel_rfl))]; exact ⟨rfl, rfl⟩)
    (fun os started H enc _ => lifted os started H enc)

end BatchBytesL
/-- THE STATEMENT -/
theorem fnExactBatchBytes_holds : Rows.FnExactBatchBytesSaid := BatchBytesL.over
#print axioms fnExactBatchBytes_holds
end Go.Proofs.Ytbjildnnlijidaa
