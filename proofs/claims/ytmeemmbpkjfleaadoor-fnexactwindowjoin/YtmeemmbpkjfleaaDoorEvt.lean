/-
  What a right event is: both sides say the same. No condition but the lengths.
-/
import Derived.Test.YtmeemmbpkjfleaaDoorNameF
import Derived.Test.YtmeemmbpkjfleaaDoorIdR
import Derived.Deep.RegionHeld3
namespace Go.Proofs.YtmeemmbpkjfleaaDoor
open Go.ChangeShapes Go.WideShapes Go.ChangeAt Go.RowKit
set_option linter.unusedVariables false
namespace EvtR
open NameR WordR
/-- An event, as a value. -/
def ev (i a m : ByteArray) (n k : Int) (t : ByteArray) : Value := .agg #[.string i, .string a, .string m, .int .i64 n, .int .i64 k, .string t]
def tagB (s : ByteArray) : Bool := decide (s.size ≤ 10) && printB s
def evB (i a m : ByteArray) (n k : Int) (t : ByteArray) : Bool := idB i && (nameB a && (nameB m && (decide (0 ≤ n ∧ n ≤ 121000000) && (decide (0 ≤ k ∧ k ≤ 1000000000) && tagB t))))
/-- Six that are asked one by one: the first that is false, or none. -/
theorem six (b1 b2 b3 b4 b5 b6 : Bool) : (b1 = false) ∨ (b1 = true ∧ b2 = false) ∨ (b1 = true ∧ b2 = true ∧ b3 = false) ∨ (b1 = true ∧ b2 = true ∧ b3 = true ∧ b4 = false) ∨ (b1 = true ∧ b2 = true ∧ b3 = true ∧ b4 = true ∧ b5 = false) ∨ (b1 = true ∧ b2 = true ∧ b3 = true ∧ b4 = true ∧ b5 = true ∧ b6 = false) ∨ (b1 = true ∧ b2 = true ∧ b3 = true ∧ b4 = true ∧ b5 = true ∧ b6 = true) := by
  cases b1 <;> cases b2 <;> cases b3 <;> cases b4 <;> cases b5 <;> cases b6 <;> simp
theorem impl_tag (s : ByteArray) (w : World) (hs : s.size ≤ 1048576) : Calls Tryd.prog 112 #[.string s] w fun e w' => e = .returned (.bool (tagB s)) ∧ Below w.heap.size w w' := by
  have HP := hid_intro (fun w => impl_printed s w hs)
  unfold tagB
  generalize printB s = p at *
  by_cases h : s.size ≤ 10
  · have h' : (s.size : Int) ≤ 10 := by omega
    go_enter Tryd.func112, Tryd.ntmps112
    go_wp2_with (go_at_call 129; refine (HP.out _).mono ?_; rintro e w1 ⟨rfl, hb1⟩)
    go_ret
    exact ⟨ret_bool (by simp [h]), hb1⟩
  · have h' : ¬ (s.size : Int) ≤ 10 := by omega
    go_enter Tryd.func112, Tryd.ntmps112
    go_wp2_with fail
    go_ret
    exact ⟨ret_bool (by first | (simp; done) | (simp; omega)), Below.refl _ _⟩
set_option maxRecDepth 100000 in
set_option maxHeartbeats 4000000 in
theorem impl_event (i a m : ByteArray) (n k : Int) (t : ByteArray) (h1 : i.size ≤ 1048576) (h2 : a.size ≤ 1048576) (h3 : m.size ≤ 1048576) (h6 : t.size ≤ 1048576) (w : World) :
    Calls Tryd.prog 86 #[ev i a m n k t] w fun e w' => e = .returned (.bool (evB i a m n k t)) ∧ Below w.heap.size w w' := by
  have H1 := hid_intro (fun w => impl_id i w h1)
  have H2 := hid_intro (fun w => NameR.impl_any a w h2)
  have H3 := hid_intro (fun w => NameR.impl_any m w h3)
  have H4 := hid_intro (fun w => minute_any n w)
  have H5 := hid_intro (fun w => within_any k 0 1000000000 w)
  have H6 := hid_intro (fun w => impl_tag t w h6)
  unfold evB ev
  generalize idB i = b1 at *
  generalize nameB a = b2 at *
  generalize nameB m = b3 at *
  generalize decide (0 ≤ n ∧ n ≤ 121000000) = b4 at *
  generalize decide (0 ≤ k ∧ k ≤ 1000000000) = b5 at *
  generalize tagB t = b6 at *
  rcases six b1 b2 b3 b4 b5 b6 with rfl | ⟨rfl, rfl⟩ | ⟨rfl, rfl, rfl⟩ | ⟨rfl, rfl, rfl, rfl⟩ | ⟨rfl, rfl, rfl, rfl, rfl⟩ | ⟨rfl, rfl, rfl, rfl, rfl, rfl⟩ | ⟨rfl, rfl, rfl, rfl, rfl, rfl⟩
  all_goals
    go_enter Tryd.func86, Tryd.ntmps86
    go_wp2_with (first | (go_at_call 120; refine (H1.out _).mono ?_; rintro e w1 ⟨rfl, hb1⟩; obtain ⟨hc, hz⟩ := bcell hb1) | (go_at_call_of 108 (Value.string a); refine (H2.out _).mono ?_; rintro e w' ⟨rfl, rfl⟩) | (go_at_call_of 108 (Value.string m); refine (H3.out _).mono ?_; rintro e w' ⟨rfl, rfl⟩) | (go_at_call 121; refine (H4.out _).mono ?_; rintro e w' ⟨rfl, rfl⟩) | (go_at_call 110; refine (H5.out _).mono ?_; rintro e w' ⟨rfl, rfl⟩) | (go_at_call 112; refine (H6.out _).mono ?_; rintro e w2 ⟨rfl, hb2⟩))
    go_ret
    exact ⟨rfl, by first | exact bel_alloc (hb1.trans (hb2.mono hb1.size)) | exact bel_alloc hb1⟩
set_option maxRecDepth 100000 in
set_option maxHeartbeats 4000000 in
theorem spec_event (i a m : ByteArray) (n k : Int) (t : ByteArray) (h1 : i.size ≤ 1048576) (h2 : a.size ≤ 1048576) (h3 : m.size ≤ 1048576) (h6 : t.size ≤ 1048576) (w : World) :
    Calls Tryd.prog 44 #[ev i a m n k t] w fun e w' => e = .returned (.bool (evB i a m n k t)) ∧ Below w.heap.size w w' := by
  by_cases hi : i.size = 0
  · have he := empty_of i hi
    have hv : evB i a m n k t = false := by
      unfold evB idB
      simp [hi]
    rw [hv]
    unfold ev
    clear hi
    go_enter Tryd.func44, Tryd.ntmps44
    go_wp2_with fail
    go_ret
    exact ⟨rfl, (Below.refl _ _).alloc (Nat.le_refl _) _⟩
  · obtain ⟨he, he2⟩ := full_of i hi
    have H1 := hid_intro (fun w => spec_word i 20 w h1)
    have H6 := hid_intro (fun w => spec_word t 10 w h6)
    have H2 := hid_intro (fun w => NameR.spec_any a w h2)
    have H3 := hid_intro (fun w => NameR.spec_any m w h3)
    have H4 := hid_intro (fun w => sminute_any n w)
    have H5 := hid_intro (fun w => is_any k 0 1000000000 w)
    rw [show (printB i && decide ((i.size : Int) ≤ 20)) = idB i by unfold idB; rw [Bool.and_comm]; congr 1; exact decide_eq_decide.2 (by omega)] at H1
    rw [show (printB t && decide ((t.size : Int) ≤ 10)) = tagB t by unfold tagB; rw [Bool.and_comm]; congr 1; exact decide_eq_decide.2 (by omega)] at H6
    unfold evB ev
    generalize idB i = b1 at *
    generalize nameB a = b2 at *
    generalize nameB m = b3 at *
    generalize decide (0 ≤ n ∧ n ≤ 121000000) = b4 at *
    generalize decide (0 ≤ k ∧ k ≤ 1000000000) = b5 at *
    generalize tagB t = b6 at *
    clear hi
    rcases six b1 b2 b3 b4 b5 b6 with rfl | ⟨rfl, rfl⟩ | ⟨rfl, rfl, rfl⟩ | ⟨rfl, rfl, rfl, rfl⟩ | ⟨rfl, rfl, rfl, rfl, rfl⟩ | ⟨rfl, rfl, rfl, rfl, rfl, rfl⟩ | ⟨rfl, rfl, rfl, rfl, rfl, rfl⟩
    all_goals
      go_enter Tryd.func44, Tryd.ntmps44
      go_wp2_with (first | (go_at_call_of 83 (Value.string i); refine (H1.out _).mono ?_; rintro e w' ⟨rfl, rfl⟩) | (go_at_call_of 53 (Value.string a); refine (H2.out _).mono ?_; rintro e w' ⟨rfl, rfl⟩) | (go_at_call_of 53 (Value.string m); refine (H3.out _).mono ?_; rintro e w' ⟨rfl, rfl⟩) | (go_at_call 84; refine (H4.out _).mono ?_; rintro e w' ⟨rfl, rfl⟩) | (go_at_call 55; refine (H5.out _).mono ?_; rintro e w' ⟨rfl, rfl⟩) | (go_at_call_of 83 (Value.string t); refine (H6.out _).mono ?_; rintro e w' ⟨rfl, rfl⟩))
      go_ret
      exact ⟨by first | rfl | (simp only [he2]; rfl), (Below.refl _ _).alloc (Nat.le_refl _) _⟩
end EvtR
end Go.Proofs.YtmeemmbpkjfleaaDoor
