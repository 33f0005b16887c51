/-
  An event's bytes: both sides put the same. No condition but the lengths.
-/
import Derived.Test.YtbhabplchcigfaaEvt
import Derived.Test.YtbhabplchcigfaaPutTxt
import Derived.Deep.RegionHeld3
namespace Go.Proofs.Ytbhabplchcigfaa
open Go.ChangeShapes Go.WideShapes Go.ChangeAt Go.RowKit
set_option linter.unusedVariables false
namespace EvtR
open NumR (numB numB_size)
/-- A text's bytes. -/
def txtB (t : ByteArray) : ByteArray := numB t.size ++ t
/-- An event's bytes. -/
def evT (i a m : ByteArray) (n k : Int) (t : ByteArray) : ByteArray := txtB i ++ txtB a ++ txtB m ++ numB n ++ numB k ++ txtB t
theorem txtB_size (t : ByteArray) (h : t.size ≤ 8000) : (txtB t).size ≤ 8010 := by
  unfold txtB
  have := numB_size (n := t.size) (by omega)
  rw [ByteArray.size_append]
  omega
/-- What a right event holds. -/
theorem right_ev {i a m : ByteArray} {n k : Int} {t : ByteArray} (h : evB i a m n k t = true) : 1 ≤ i.size ∧ i.size ≤ 20 ∧ a.size ≤ 20 ∧ m.size ≤ 20 ∧ 0 ≤ n ∧ n ≤ 121000000 ∧ 0 ≤ k ∧ k ≤ 1000000000 ∧ t.size ≤ 10 := by
  unfold evB idB tagB NameR.nameB at h
  simp only [Bool.and_eq_true, decide_eq_true_eq] at h
  obtain ⟨⟨⟨h1, h2⟩, _⟩, ⟨_, h3, _⟩, ⟨_, h4, _⟩, ⟨h5, h6⟩, ⟨h7, h8⟩, h9, _⟩ := h
  exact ⟨h1, h2, h3, h4, h5, h6, h7, h8, h9⟩
/-- The block of an event, and all that lies below it. -/
def BoxE (w : World) (B : Nat) (i a m : ByteArray) (n k : Int) (t : ByteArray) (w' : World) : Prop := Below B w w' ∧ B < w'.heap.size ∧ w'.cell? ⟨B, 0, none⟩ = some (.string i) ∧ w'.cell? ⟨B, 1, none⟩ = some (.string a) ∧ w'.cell? ⟨B, 2, none⟩ = some (.string m) ∧ w'.cell? ⟨B, 3, none⟩ = some (.int .i64 n) ∧ w'.cell? ⟨B, 4, none⟩ = some (.int .i64 k) ∧ w'.cell? ⟨B, 5, none⟩ = some (.string t)
theorem BoxE.below {w w1 w2 : World} {B : Nat} {i a m : ByteArray} {n k : Int} {t : ByteArray} (h : BoxE w B i a m n k t w1) (hb : Below w1.heap.size w1 w2) : BoxE w B i a m n k t w2 := by
  obtain ⟨h0, hl, c0, c1, c2, c3, c4, c5⟩ := h
  have hs := hb.size
  have f := fun o => hb.cell (p := ⟨B, o, none⟩) hl
  refine ⟨?_, by omega, (f 0).trans c0, (f 1).trans c1, (f 2).trans c2, (f 3).trans c3, (f 4).trans c4, (f 5).trans c5⟩
  exact h0.trans (hb.mono (by omega))
theorem BoxE.start (w : World) (i a m : ByteArray) (n k : Int) (t : ByteArray) (T : TypeId) : BoxE w w.heap.size i a m n k t (w.alloc (.cells #[.string i, .string a, .string m, .int .i64 n, .int .i64 k, .string t] T)) :=
  ⟨(Below.refl _ _).alloc (Nat.le_refl _) _, by simp, by simp [go_sem], by simp [go_sem], by simp [go_sem], by simp [go_sem], by simp [go_sem], by simp [go_sem]⟩
theorem BoxE.drew {w w1 : World} {B : Nat} {i a m : ByteArray} {n k : Int} {t : ByteArray} (h : BoxE w B i a m n k t w1) : BoxE w B i a m n k t w1.drew :=
  ⟨h.1.drew, h.2.1, h.2.2⟩
theorem spec_bytes0 (i a m : ByteArray) (n k : Int) (t T1 T2 T3 T4 T5 T6 : ByteArray) (z1 : T1.size ≤ 40) (z2 : T2.size ≤ 40) (z3 : T3.size ≤ 40) (z4 : T4.size ≤ 40) (z5 : T5.size ≤ 40) (z6 : T6.size ≤ 40) (w : World)
    (hi : ∀ w, Calls Try.prog 68 #[.string i] w fun e w' => e = .returned (.string T1) ∧ Below w.heap.size w w')
    (ha : ∀ w, Calls Try.prog 68 #[.string a] w fun e w' => e = .returned (.string T2) ∧ Below w.heap.size w w')
    (hm : ∀ w, Calls Try.prog 68 #[.string m] w fun e w' => e = .returned (.string T3) ∧ Below w.heap.size w w')
    (hn : ∀ w, Calls Try.prog 69 #[.int .i64 n] w fun e w' => e = .returned (.string T4) ∧ Below w.heap.size w w')
    (hk : ∀ w, Calls Try.prog 69 #[.int .i64 k] w fun e w' => e = .returned (.string T5) ∧ Below w.heap.size w w')
    (ht : ∀ w, Calls Try.prog 68 #[.string t] w fun e w' => e = .returned (.string T6) ∧ Below w.heap.size w w') :
    Calls Try.prog 55 #[ev i a m n k t] w fun e w' => e = .returned (.string (T1 ++ T2 ++ T3 ++ T4 ++ T5 ++ T6)) ∧ Below w.heap.size w w' := by
  have HI := hid_intro hi
  have HA := hid_intro ha
  have HM := hid_intro hm
  have HN := hid_intro hn
  have HK := hid_intro hk
  have HT := hid_intro ht
  have q1 : ¬ 9223372036854775807 < T1.size + T2.size := by omega
  have q2 : ¬ 9223372036854775807 < T1.size + T2.size + T3.size := by omega
  have q3 : ¬ 9223372036854775807 < T1.size + T2.size + T3.size + T4.size := by omega
  have q4 : ¬ 9223372036854775807 < T1.size + T2.size + T3.size + T4.size + T5.size := by omega
  have q5 : ¬ 9223372036854775807 < T1.size + T2.size + T3.size + T4.size + T5.size + T6.size := by omega
  clear hi ha hm hn hk ht z1 z2 z3 z4 z5 z6
  unfold ev
  have HS0 := hid_intro (BoxE.start w i a m n k t 25)
  have HS1 := hid_intro (BoxE.start w i a m n k t 25).drew
  go_enter Try.func55, Try.ntmps55
  go_wp2_with fail
  go_region_held3 (fun w' => Below w.heap.size w w' ∧ w.heap.size < w'.heap.size ∧ w'.cell? ⟨w.heap.size, 0, none⟩ = some (.string i) ∧ w'.cell? ⟨w.heap.size, 1, none⟩ = some (.string a) ∧ w'.cell? ⟨w.heap.size, 2, none⟩ = some (.string m) ∧ w'.cell? ⟨w.heap.size, 3, none⟩ = some (.int .i64 n) ∧ w'.cell? ⟨w.heap.size, 4, none⟩ = some (.int .i64 k) ∧ w'.cell? ⟨w.heap.size, 5, none⟩ = some (.string t)) (first | assumption | (exact HS0.out) | (exact HS1.out) | (exact BoxE.below (w := w) (B := w.heap.size) (i := i) (a := a) (m := m) (n := n) (k := k) (t := t) (by assumption) hb))
      (first | (go_at_call_of 68 (Value.string i); refine (HI.out _).mono ?_; rintro e w' ⟨rfl, hb⟩) | (go_at_call_of 68 (Value.string a); refine (HA.out _).mono ?_; rintro e w' ⟨rfl, hb⟩) | (go_at_call_of 68 (Value.string m); refine (HM.out _).mono ?_; rintro e w' ⟨rfl, hb⟩) | (go_at_call_of 69 (Value.int IntKind.i64 n); refine (HN.out _).mono ?_; rintro e w' ⟨rfl, hb⟩) | (go_at_call_of 69 (Value.int IntKind.i64 k); refine (HK.out _).mono ?_; rintro e w' ⟨rfl, hb⟩) | (go_at_call_of 68 (Value.string t); refine (HT.out _).mono ?_; rintro e w' ⟨rfl, hb⟩))
  rename_i hS
  go_wp2_with fail
  go_ret
  exact ⟨rfl, hS.1⟩
theorem join6 (a b c d e f : ByteArray) (w : World) (ht : a.size + b.size + c.size + d.size + e.size + f.size ≤ 1099511627776) :
    Calls Try.prog 60 #[.slice (some ⟨w.heap.size, 0, none⟩) 6 6] (w.alloc (.cells #[.string a, .string b, .string c, .string d, .string e, .string f] 9)) fun r w' => r = .returned (.string (a ++ b ++ c ++ d ++ e ++ f)) ∧ Below (w.alloc (.cells #[.string a, .string b, .string c, .string d, .string e, .string f] 9)).heap.size (w.alloc (.cells #[.string a, .string b, .string c, .string d, .string e, .string f] 9)) w' := by
  refine (JoinR.join_any [a, b, c, d, e, f] w.heap.size 6 _ (Nat.le_refl _) (by omega) (by simp) (fun k h => JoinR.cell_new (by match k, h with | 0, _ => rfl | 1, _ => rfl | 2, _ => rfl | 3, _ => rfl | 4, _ => rfl | 5, _ => rfl)) (by simp [JoinR.jl]; have h1 : a.data.size = a.size := rfl; have h2 : b.data.size = b.size := rfl; have h3 : c.data.size = c.size := rfl; have h4 : d.data.size = d.size := rfl; have h5 : e.data.size = e.size := rfl; have h6 : f.data.size = f.size := rfl; omega)).mono ?_
  rintro r w' ⟨rfl, hb⟩
  refine ⟨ret_str (ByteArray.ext (by unfold JoinR.joinB; simp)), hb⟩
theorem impl_bytes0 (i a m : ByteArray) (n k : Int) (t T1 T2 T3 T4 T5 T6 : ByteArray) (z1 : T1.size ≤ 40) (z2 : T2.size ≤ 40) (z3 : T3.size ≤ 40) (z4 : T4.size ≤ 40) (z5 : T5.size ≤ 40) (z6 : T6.size ≤ 40) (w : World)
    (hr : ∀ w, Calls Try.prog 20 #[ev i a m n k t] w fun e w' => e = .returned (.bool true) ∧ Below w.heap.size w w')
    (hi : ∀ w, Calls Try.prog 61 #[.string i] w fun e w' => e = .returned (.string T1) ∧ Below w.heap.size w w')
    (ha : ∀ w, Calls Try.prog 61 #[.string a] w fun e w' => e = .returned (.string T2) ∧ Below w.heap.size w w')
    (hm : ∀ w, Calls Try.prog 61 #[.string m] w fun e w' => e = .returned (.string T3) ∧ Below w.heap.size w w')
    (hn : ∀ w, Calls Try.prog 62 #[.int .i64 n] w fun e w' => e = .returned (.string T4) ∧ Below w.heap.size w w')
    (hk : ∀ w, Calls Try.prog 62 #[.int .i64 k] w fun e w' => e = .returned (.string T5) ∧ Below w.heap.size w w')
    (ht : ∀ w, Calls Try.prog 61 #[.string t] w fun e w' => e = .returned (.string T6) ∧ Below w.heap.size w w') :
    Calls Try.prog 48 #[ev i a m n k t] w fun e w' => e = .returned (.string (T1 ++ T2 ++ T3 ++ T4 ++ T5 ++ T6)) ∧ Below w.heap.size w w' := by
  have HI := hid_intro hi
  have HA := hid_intro ha
  have HM := hid_intro hm
  have HN := hid_intro hn
  have HK := hid_intro hk
  have HT := hid_intro ht
  have HR := hid_intro hr
  have HJ := hid_intro (fun w => join6 T1 T2 T3 T4 T5 T6 w (by omega))
  clear hi ha hm hn hk ht hr
  unfold ev at *
  have HS0 := hid_intro (BoxE.start w i a m n k t 25)
  go_enter Try.func48, Try.ntmps48
  go_wp2_with fail
  refine (HR.out _).mono ?_
  rintro e w1 ⟨rfl, hb1⟩
  have HS1 := hid_intro (HS0.out.below hb1)
  have HS2 := hid_intro (HS0.out.below hb1).drew
  have g0 := HS1.out.2.2.1
  have g1 := HS1.out.2.2.2.1
  have g2 := HS1.out.2.2.2.2.1
  have g3 := HS1.out.2.2.2.2.2.1
  have g4 := HS1.out.2.2.2.2.2.2.1
  have g5 := HS1.out.2.2.2.2.2.2.2
  clear hb1 HS0
  go_wp2_with fail
  go_region_held3 (fun w' => Below w.heap.size w w' ∧ w.heap.size < w'.heap.size ∧ w'.cell? ⟨w.heap.size, 0, none⟩ = some (.string i) ∧ w'.cell? ⟨w.heap.size, 1, none⟩ = some (.string a) ∧ w'.cell? ⟨w.heap.size, 2, none⟩ = some (.string m) ∧ w'.cell? ⟨w.heap.size, 3, none⟩ = some (.int .i64 n) ∧ w'.cell? ⟨w.heap.size, 4, none⟩ = some (.int .i64 k) ∧ w'.cell? ⟨w.heap.size, 5, none⟩ = some (.string t)) (first | assumption | (exact HS1.out) | (exact HS2.out) | (exact BoxE.below (w := w) (B := w.heap.size) (i := i) (a := a) (m := m) (n := n) (k := k) (t := t) (by assumption) hb) | (exact BoxE.below (w := w) (B := w.heap.size) (i := i) (a := a) (m := m) (n := n) (k := k) (t := t) (by assumption) ((Below.refl _ _).alloc (Nat.le_refl _) _)))
      (first | (go_at_call_of 61 (Value.string i); refine (HI.out _).mono ?_; rintro e w' ⟨rfl, hb⟩) | (go_at_call_of 61 (Value.string a); refine (HA.out _).mono ?_; rintro e w' ⟨rfl, hb⟩) | (go_at_call_of 61 (Value.string m); refine (HM.out _).mono ?_; rintro e w' ⟨rfl, hb⟩) | (go_at_call_of 62 (Value.int IntKind.i64 n); refine (HN.out _).mono ?_; rintro e w' ⟨rfl, hb⟩) | (go_at_call_of 62 (Value.int IntKind.i64 k); refine (HK.out _).mono ?_; rintro e w' ⟨rfl, hb⟩) | (go_at_call_of 61 (Value.string t); refine (HT.out _).mono ?_; rintro e w' ⟨rfl, hb⟩) | (go_at_call 60; refine (HJ.out _).mono ?_; rintro e w' ⟨rfl, hb⟩))
  rename_i hS
  go_wp2_with fail
  go_ret
  exact ⟨rfl, hS.1⟩
theorem impl_bytes_no (i a m : ByteArray) (n k : Int) (t : ByteArray) (w : World)
    (hr : ∀ w, Calls Try.prog 20 #[ev i a m n k t] w fun e w' => e = .returned (.bool false) ∧ Below w.heap.size w w') :
    Calls Try.prog 48 #[ev i a m n k t] w fun e w' => e = .returned (.string ⟨#[]⟩) ∧ Below w.heap.size w w' := by
  have HR := hid_intro hr
  clear hr
  unfold ev at *
  go_enter Try.func48, Try.ntmps48
  go_wp2_with fail
  refine (HR.out _).mono ?_
  rintro e w1 ⟨rfl, hb1⟩
  have HB := hid_intro (bel_alloc hb1)
  clear hb1
  go_wp2_with fail
  go_ret
  exact ⟨rfl, HB.out⟩
section
variable {i a m : ByteArray} {n k : Int} {t : ByteArray}
theorem spec_l04Bytes (h : evB i a m n k t = true) (w : World) : Calls Try.prog 55 #[ev i a m n k t] w fun e w' => e = .returned (.string (evT i a m n k t)) ∧ Below w.heap.size w w' := by
  obtain ⟨h0, h1, h2, h3, h4, h5, h6, h7, h8⟩ := right_ev h
  have z := fun (s : ByteArray) (hs : s.size ≤ 20) => (show (txtB s).size ≤ 40 by unfold txtB; have := numB_size (n := s.size) (by omega); rw [ByteArray.size_append]; omega)
  have zn := fun (x : Int) (hx : 0 ≤ x ∧ x ≤ 1000000000) => (show (numB x).size ≤ 40 by have := numB_size (n := x) (by omega); omega)
  exact spec_bytes0 i a m n k t _ _ _ _ _ _ (z i h1) (z a h2) (z m h3) (zn n (by omega)) (zn k (by omega)) (z t (by omega)) w (fun w => PutTextL.spec_text i w (by omega)) (fun w => PutTextL.spec_text a w (by omega)) (fun w => PutTextL.spec_text m w (by omega)) (fun w => NumR.spec_put n w (by omega)) (fun w => NumR.spec_put k w (by omega)) (fun w => PutTextL.spec_text t w (by omega))
theorem impl_bytes (hi : i.size ≤ 1048576) (ha : a.size ≤ 1048576) (hm : m.size ≤ 1048576) (ht : t.size ≤ 1048576) (w : World) : Calls Try.prog 48 #[ev i a m n k t] w fun e w' => e = .returned (.string (if evB i a m n k t = true then evT i a m n k t else ⟨#[]⟩)) ∧ Below w.heap.size w w' := by
  have hr := fun w => impl_event i a m n k t hi ha hm ht w
  by_cases h : evB i a m n k t = true
  · rw [if_pos h]
    rw [h] at hr
    obtain ⟨h0, h1, h2, h3, h4, h5, h6, h7, h8⟩ := right_ev h
    have z := fun (s : ByteArray) (hs : s.size ≤ 20) => (show (txtB s).size ≤ 40 by unfold txtB; have := numB_size (n := s.size) (by omega); rw [ByteArray.size_append]; omega)
    have zn := fun (x : Int) (hx : 0 ≤ x ∧ x ≤ 1000000000) => (show (numB x).size ≤ 40 by have := numB_size (n := x) (by omega); omega)
    exact impl_bytes0 i a m n k t _ _ _ _ _ _ (z i h1) (z a h2) (z m h3) (zn n (by omega)) (zn k (by omega)) (z t (by omega)) w hr (fun w => PutTextL.impl_text i w (by omega)) (fun w => PutTextL.impl_text a w (by omega)) (fun w => PutTextL.impl_text m w (by omega)) (fun w => NumR.impl_put n w (by omega)) (fun w => NumR.impl_put k w (by omega)) (fun w => PutTextL.impl_text t w (by omega))
  · rw [if_neg h]
    rw [Bool.not_eq_true] at h
    rw [h] at hr
    exact impl_bytes_no i a m n k t w hr
end
end EvtR
end Go.Proofs.Ytbhabplchcigfaa
