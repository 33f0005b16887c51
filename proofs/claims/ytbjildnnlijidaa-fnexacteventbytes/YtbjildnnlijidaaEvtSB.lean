/-
  The bytes of an event, the model's side. The condition: each text has at most 1048576 bytes.
-/
import Derived.Test.YtbjildnnlijidaaEvtBytes
namespace Go.Proofs.Ytbjildnnlijidaa
open Go.ChangeShapes Go.WideShapes Go.ChangeAt Go.RowKit
set_option linter.unusedVariables false
namespace EventBytesL
open EvtR
theorem spec_yes (i a m : ByteArray) (n k : Int) (t v : ByteArray) (w : World)
    (hr : ∀ w, Calls Try.prog 10 #[ev i a m n k t] w fun e w' => e = .returned (.bool true) ∧ Below w.heap.size w w')
    (hv : ∀ w, Calls Try.prog 27 #[ev i a m n k t] w fun e w' => e = .returned (.string v) ∧ Below w.heap.size w w') :
    Calls Try.prog 13 #[ev i a m n k t] w fun e w' => e = .returned (.string v) ∧ Below w.heap.size w w' := by
  have HR := hid_intro hr
  have HV := hid_intro hv
  clear hr hv
  unfold ev at *
  go_enter Try.func13, Try.ntmps13
  go_wp2_with fail
  refine (HR.out _).mono ?_
  rintro e w1 ⟨rfl, hb1⟩
  obtain ⟨hc, hf⟩ := bcell hb1
  have HB := hid_intro (bel_alloc hb1)
  have hlt1 : w.heap.size < w1.heap.size := by have := hb1.size; simp at this; omega
  clear hb1
  go_wp2_with fail
  refine (HV.out _).mono ?_
  rintro e w2 ⟨rfl, hb2⟩
  have HB2 := hid_intro (HB.out.trans (hb2.mono HB.out.size))
  clear hb2
  go_wp2_with fail
  go_ret
  exact ⟨rfl, HB2.out⟩
theorem spec_no (i a m : ByteArray) (n k : Int) (t : ByteArray) (w : World)
    (hr : ∀ w, Calls Try.prog 10 #[ev i a m n k t] w fun e w' => e = .returned (.bool false) ∧ Below w.heap.size w w') :
    Calls Try.prog 13 #[ev i a m n k t] w fun e w' => e = .returned (.string ⟨#[]⟩) ∧ Below w.heap.size w w' := by
  have HR := hid_intro hr
  clear hr
  unfold ev at *
  go_enter Try.func13, Try.ntmps13
  go_wp2_with fail
  refine (HR.out _).mono ?_
  rintro e w1 ⟨rfl, hb1⟩
  have HB := hid_intro (bel_alloc hb1)
  clear hb1
  go_wp2_with fail
  go_ret
  exact ⟨rfl, HB.out⟩
theorem spec_bytes {i a m : ByteArray} {n k : Int} {t : ByteArray} (hi : i.size ≤ 1048576) (ha : a.size ≤ 1048576) (hm : m.size ≤ 1048576) (ht : t.size ≤ 1048576) (w : World) : Calls Try.prog 13 #[ev i a m n k t] w fun e w' => e = .returned (.string (if evB i a m n k t = true then evT i a m n k t else ⟨#[]⟩)) ∧ Below w.heap.size w w' := by
  have hr := fun w => spec_event i a m n k t hi ha hm ht w
  by_cases h : evB i a m n k t = true
  · rw [if_pos h]
    rw [h] at hr
    exact spec_yes i a m n k t _ w hr (fun w => spec_l04Bytes h w)
  · rw [if_neg h]
    rw [Bool.not_eq_true] at h
    rw [h] at hr
    exact spec_no i a m n k t w hr
end EventBytesL
end Go.Proofs.Ytbjildnnlijidaa
