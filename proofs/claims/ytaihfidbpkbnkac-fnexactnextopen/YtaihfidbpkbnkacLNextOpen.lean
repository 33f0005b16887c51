/-
  FnExactNextOpen: for every number and list the law's call returns true (the program's NextOpen hands back what the model's does, and writes into no list), and both read as they did. No condition.
-/
import Derived.Test.YtaihfidbpkbnkacNextOpen
import Derived.Test.YtaihfidbpkbnkacToInts
import Derived.Test.YtaihfidbpkbnkacIntRow
import Derived.ChangeOld
namespace Go.Proofs.Ytaihfidbpkbnkac
open Go.ChangeShapes Go.WideShapes Go.ChangeAt Go.RowKit
set_option linter.unusedVariables false
namespace NextOpenL
open DateR
/-- What is known of either side. -/
structure Known (d : Int) (len : Nat) (zs : List Int) (v : Int) : Prop where
  spec : ∀ ao cap w, Ints ao len zs w → Calls Try.prog 9 #[.int .i64 d, .slice ao len cap] w fun e w' => e = .returned (.int .i64 v) ∧ Drawn w w'
  impl : ∀ ao cap w, Ints ao len zs w → Calls Try.prog 10 #[.int .i64 d, .slice ao len cap] w fun e w' => e = .returned (.int .i64 v) ∧ w' = w
  copy : ∀ ao cap w, Ints ao len zs w → Calls Try.prog 6 #[.slice ao len cap] w fun e w' => e = .returned (.slice (some ⟨w.heap.size, 0, none⟩) len len) ∧ Ints (some ⟨w.heap.size, 0, none⟩) len zs w' ∧ Below w.heap.size w w'
  eq : ∀ ao bo cap cap' w, Ints ao len zs w → Ints bo len zs w → Calls Try.prog 8 #[.slice ao len cap, .slice bo len cap'] w fun e w' => e = .returned (.bool true) ∧ Drawn w w'
set_option maxHeartbeats 4000000 in
theorem law_in (d : Int) (ao : Option Addr) (len cap : Nat) (zs : List Int) (v : Int) (w : World) (hlen : len ≤ 1048576) (hI : Ints ao len zs w) (hK : Known d len zs v) :
    Calls Try.prog 4 #[.int .i64 d, .slice ao len cap] w fun e w' => e = .returned (.bool true) ∧ Below w.heap.size w w' := by
  have HI := hid_intro hI
  have HK := hid_intro hK
  have hl : ¬ (1048576 : Int) < (len : Int) := by omega
  clear hI hK hlen
  go_enter Try.func4, Try.ntmps4
  go_wp2_with fail
  refine (HK.out.copy _ _ _ HI.out).mono ?_
  rintro e w1 ⟨rfl, hi1, hb1⟩
  have HB1 := hid_intro hb1
  have HI1 := hid_intro hi1
  clear hb1 hi1
  go_wp2_with fail
  refine (HK.out.spec _ _ _ HI1.out).mono ?_
  rintro e w2 ⟨rfl, hd2⟩
  have HB2 := hid_intro (HB1.out.trans (hd2.bel.mono HB1.out.size))
  clear hd2 HI1 HB1
  go_wp2_with fail
  refine (HK.out.copy _ _ _ (HI.out.below HB2.out)).mono ?_
  rintro e w3 ⟨rfl, hi3, hb3⟩
  have HB3 := hid_intro (HB2.out.trans (hb3.mono HB2.out.size))
  have HI3 := hid_intro hi3
  clear hi3 hb3
  go_wp2_with fail
  refine (HK.out.impl _ _ _ HI3.out).mono ?_
  rintro e w4 ⟨rfl, rfl⟩
  go_wp2_with fail
  refine (HK.out.copy _ _ _ (HI.out.below HB3.out)).mono ?_
  rintro e w5 ⟨rfl, hi5, hb5⟩
  have HB5 := hid_intro (HB3.out.trans (hb5.mono HB3.out.size))
  have HI5 := hid_intro hi5
  have HI6 := hid_intro (HI3.out.below hb5)
  clear hi5 hb5
  go_wp2_with fail
  refine (HK.out.eq _ _ _ _ _ HI6.out HI5.out).mono ?_
  rintro e w6 ⟨rfl, hd6⟩
  have HB6 := hid_intro (HB5.out.trans (hd6.bel.mono HB5.out.size))
  clear hd6
  go_wp2_with fail
  go_ret
  exact ⟨rfl, HB6.out⟩
theorem walk (a0 : Int) (a1 : Option Addr) (len1 cap1 : Nat) (z1 : List Int) (w : World) (w0 : (Lit.int .i64 a0).wf = true) (w1 : IsRow .i64 w a1 len1 cap1 z1) :
    Calls Try.prog 4 #[.int .i64 a0, .slice a1 len1 cap1] w fun e w' => e = .returned (.bool true) ∧ Below w.heap.size w w' := by
  by_cases h : len1 ≤ 1048576
  · obtain ⟨v, hv⟩ := next_is a0 (z1.take len1)
    exact law_in a0 a1 len1 cap1 (z1.take len1) v w h w1.ints ⟨fun ao cap w h2 => spec_nextopen a0 ao len1 cap _ w h h2 v hv, fun ao cap w h2 => impl_nextopen a0 ao len1 cap _ w h2 v hv, fun ao cap w h2 => toInts_any ao len1 cap _ w h h2, fun ao bo cap cap' w h2 h3 => eqInts_any ao bo len1 cap cap' _ w h h2 h3⟩
  · have q : (1048576 : Int) < (len1 : Int) := by omega
    have hl := w1.len
    unfold maxLen at hl
    clear w1 h
    go_enter Try.func4, Try.ntmps4
    go_wp2
    go_ret
    exact ⟨rfl, Below.refl _ _⟩
theorem laidOut : laidOutB Try.prog = true := by kernel_rfl
theorem own : ownKnob Try.prog.godebug = none := by kernel_rfl
set_option maxRecDepth 100000 in
theorem lifted (os : Os) (started : os.Started) (H : Type) (enc : TypeId × Value → H) :
    ReturnsInHanded {} Try.checked os 4 .any (Rows.fnExactNextOpenSpec.pre6 enc Try.prog Try.f4 Rows.fnExactNextOpenRow.domain false) (Rows.fnExactNextOpenSpec.post enc Try.prog Try.f4 false true false false) := by
  refine returnsInHanded_of_change (C := Try.checked) own started (by kernel_rfl) Try.func4
    (ChangeSpec.witness6 (enc := enc) (C := Try.checked) false ⟨#[], #[.int .i64 0, .slice none 0 0], []⟩ 8 (by kernel_rfl) (by kernel_rfl) (by kernel_rfl) (by kernel_rfl)) ?_
  intro W base args ds gs before hval0 hW hcnd _
  have hval : ∀ (j : Nat) t v, Try.f4.params[j]? = some t → args[j]? = some v → Value.okWide Try.prog W .any base t v := hval0
  have hW' := hW
  obtain ⟨p, q, hA0, hV, rfl, hfz, hnd⟩ := hW
  have hA : DataW.TrodAll enc Try.prog W 0 (fun _ => true) true Try.f4.params.toList args.toList ds p := hA0
  rw [Try.params4] at hA hval
  obtain ⟨v0, vs0, d0, ds0, p0, q0, hargs, rfl, rfl, h0, r0⟩ := trodAll_cons hA
  obtain ⟨v1, vs1, d1, ds1, p1, q1, rfl, rfl, rfl, h1, r1⟩ := trodAll_cons r0
  obtain ⟨rfl, rfl, rfl⟩ := trodAll_nil r1
  obtain rfl : args = #[v0, v1] := by cases args; simp_all
  obtain ⟨rfl, rfl⟩ := trodVars_none hV
  obtain ⟨a0, rfl, rfl, rfl, w0⟩ := open_int Try.underlying2 (hval 0 2 v0 rfl rfl) h0
  obtain ⟨a1, len1, cap1, rfl⟩ := okWide_slice Try.underlying22 (hval 1 22 v1 rfl rfl)
  have k1 := h1
  have lt1 : ∀ x ∈ p1, x.block < W.heap.size := by obtain ⟨m, hm⟩ := k1; exact DataW.trod_lt m _ _ _ hm
  obtain ⟨z1, w1⟩ : ∃ zs, IsRow .i64 W a1 len1 cap1 zs := by
    obtain ⟨fuel, hf⟩ := h1
    rcases open_ints Try.underlying22 Try.underlying2 (by kernel_rfl) hf with ⟨hcs, _⟩ | ⟨x, l, c, zs, hcs, _, hl, hm, hz, _, hcell, hwz⟩
    · simp [Value.cells] at hcs
      obtain ⟨rfl, rfl, rfl⟩ := hcs
      exact ⟨[], .inl ⟨rfl, rfl, rfl, rfl⟩⟩
    · simp [Value.cells] at hcs
      obtain ⟨rfl, rfl, rfl⟩ := hcs
      exact ⟨zs, .inr ⟨_, rfl, hl, hm, by simpa using hz, hcell, hwz⟩⟩
  clear hA0 hval0
  refine (walk a0 a1 len1 cap1 z1 W w0 w1).mono fun e W' ⟨he, bel⟩ => ?_
  subst he
  exact ⟨_, rfl, _, _, _, [], _, [], hW', trodAll_mk1 (shut_bool Try.underlying4 _), (trodAll_cons_mk (shut_int Try.underlying2 w0) (trodAll_cons_mk (Below.trod laidOut (by kernel_rfl) (of_decide_eq_true (by kernel_rfl)) k1 bel lt1) trodAll_mk0)), rfl, bel.frame _, fun h => by cases h⟩

theorem over : Rows.fnExactNextOpenRow.holds Try.pinned (OpenSpec.ofChange Rows.fnExactNextOpenSpec) :=
  OpenClaim.holds_of_wide 4 Try.f4 rfl rfl rfl rfl rfl rfl rfl ⟨rfl, rfl, rfl, rfl, rfl⟩ rfl rfl rfl rfl rfl (by kernel_rfl) Try.func4 (by kernel_rfl)
    (of_decide_eq_true (by kernel_rfl)) (by unfold Func.isWrapper; first | (rw [if_pos (by decide +kernel)]; kernel_rfl) | (rw [if_neg (by decide +kernel)]; exact ⟨rfl, rfl⟩))
    (fun os started H enc _ => lifted os started H enc)


end NextOpenL
/-- THE STATEMENT -/
theorem fnExactNextOpen_holds : Rows.FnExactNextOpenSaid := NextOpenL.over
#print axioms fnExactNextOpen_holds
end Go.Proofs.Ytaihfidbpkbnkac
