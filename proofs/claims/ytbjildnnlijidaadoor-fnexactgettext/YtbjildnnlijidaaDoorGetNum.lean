/-
  GetNum: what the model and the program hand back is one thing. The conditions: errors' own variable is laid as the program's text lays it; the text has at most 1048576 bytes.
-/
import Derived.Test.YtbjildnnlijidaaDoorGet
import Derived.Test.YtbjildnnlijidaaDoorGetSpec
import Derived.Test.YtbjildnnlijidaaDoorAsHit
namespace Go.Proofs.YtbjildnnlijidaaDoor
open Go.ChangeShapes Go.WideShapes Go.ChangeAt Go.RowKit
open Go.ChangeMaps (open_string shut_string)
set_option linter.unusedVariables false
namespace GetR
open AsR (Laid)
theorem read_got {s : ByteArray} {p : Nat} (hs : s.size ≤ 8000) (hm : (p : Int) ≤ 9223372036854775807) {u n : Nat} (h : rd s p 10 0 0 = (0, u, n)) (w : World) :
    Calls Tryd.prog 11 #[.string s, .int .i64 p] w fun e w' => e = .returned (.tuple #[.int .i64 (unz u), .int .i64 ((p : Int) + n), .nilIface]) ∧ Below w.heap.size w w' := by
  refine (read_any s p w hs hm).mono fun e w' ht => ?_
  rw [h] at ht
  exact ⟨ht.1 rfl, ht.2.2⟩
theorem read_bad {s : ByteArray} {p : Nat} (hs : s.size ≤ 8000) (hm : (p : Int) ≤ 9223372036854775807) {c : Nat} (hc : c ≠ 0) (h : rd s p 10 0 0 = (c, 0, 0)) (w : World) :
    Calls Tryd.prog 11 #[.string s, .int .i64 p] w fun e w' => e = .returned (.tuple #[.int .i64 0, .int .i64 0, .iface 41 (.agg #[.int .i64 c])]) ∧ Below w.heap.size w w' := by
  refine (read_any s p w hs hm).mono fun e w' ht => ?_
  rw [h] at ht
  exact ⟨ht.2.1 hc, ht.2.2⟩
/-- Either a number was got, or a code alone. -/
theorem rd_two (s : ByteArray) (p : Nat) : ∀ f i u, (∃ v n, rd s p f i u = (0, v, n)) ∨ ∃ c, c ≠ 0 ∧ rd s p f i u = (c, 0, 0)
  | 0, i, u => .inr ⟨3, by omega, rfl⟩
  | f + 1, i, u => by
    rw [rd]
    split
    · split
      · exact .inr ⟨3, by omega, rfl⟩
      · split
        · split
          · exact .inr ⟨3, by omega, rfl⟩
          · exact .inl ⟨_, _, rfl⟩
        · exact rd_two s p f _ _
    · exact .inr ⟨4, by omega, rfl⟩
theorem impl_got (s : ByteArray) (x a b : Int) (w : World) (hs : s.size ≤ 8000)
    (hr : ∀ w, Calls Tryd.prog 11 #[.string s, .int .i64 x] w fun e w' => e = .returned (.tuple #[.int .i64 a, .int .i64 b, .nilIface]) ∧ Below w.heap.size w w') :
    Calls Tryd.prog 6 #[.string s, .int .i64 x] w fun e w' => e = .returned (.agg #[.int .i64 a, .int .i64 b, .int .i64 0]) ∧ Below w.heap.size w w' := by
  go_enter Tryd.func6, Tryd.ntmps6
  go_wp2_with (first | (go_at_call 11; refine (hr _).mono ?_; rintro e w1 ⟨rfl, hb1⟩; obtain ⟨hc1, hf1⟩ := bcell hb1; have hz1 : w.heap.size < w1.heap.size := by (have hz := hb1.size; simp at hz; omega)) | (go_at_call 12; refine (AsR.code_nil _).mono ?_; rintro e w2 ⟨rfl, hb2⟩; obtain ⟨hc2, hf2⟩ := bcell hb2; have hz2 : w.heap.size < w2.heap.size := by (have hz := hb2.size; omega)))
  refine bodyPost_ret (v := .agg #[.int .i64 a, .int .i64 b, .int .i64 0]) (by simp [results, Tryd.results6, go_sem, hc1, hc2, hz1]) rfl ⟨rfl, ?_⟩
  exact ((((bel_alloc hb1).trans (hb2.mono (by omega))).setCell (by simp) _).setCell (by simp) _).setCell (by simp) _
theorem impl_bad (s : ByteArray) (x c : Int) (w : World) (hL : Laid w) (hs : s.size ≤ 8000)
    (hr : ∀ w, Calls Tryd.prog 11 #[.string s, .int .i64 x] w fun e w' => e = .returned (.tuple #[.int .i64 0, .int .i64 0, .iface 41 (.agg #[.int .i64 c])]) ∧ Below w.heap.size w w') :
    Calls Tryd.prog 6 #[.string s, .int .i64 x] w fun e w' => e = .returned (.agg #[.int .i64 0, .int .i64 0, .int .i64 c]) ∧ Below w.heap.size w w' := by
  have HL : Hid (Laid w) := hL
  clear hL
  go_enter Tryd.func6, Tryd.ntmps6
  go_wp2_with (first | (go_at_call 11; refine (hr _).mono ?_; rintro e w1 ⟨rfl, hb1⟩; obtain ⟨hc1, hf1⟩ := bcell hb1; have hz1 : w.heap.size < w1.heap.size := by (have hz := hb1.size; simp at hz; omega)) | (go_at_call 12; refine (AsR.code_hit c _ ((HL.out.alloc _).below hb1)).mono ?_; rintro e w2 ⟨rfl, hb2⟩; obtain ⟨hc2, hf2⟩ := bcell hb2; have hz2 : w.heap.size < w2.heap.size := by (have hz := hb2.size; omega)))
  refine bodyPost_ret (v := .agg #[.int .i64 0, .int .i64 0, .int .i64 c]) (by simp [results, Tryd.results6, go_sem, hc1, hc2, hz1]) rfl ⟨rfl, ?_⟩
  exact ((((bel_alloc hb1).trans (hb2.mono (by omega))).setCell (by simp) _).setCell (by simp) _).setCell (by simp) _
theorem impl_big (s : ByteArray) (x : Int) (w : World) (hs : 8000 < s.size) (hm : s.size ≤ 1048576) :
    Calls Tryd.prog 6 #[.string s, .int .i64 x] w fun e w' => e = .returned (.agg #[.int .i64 0, .int .i64 0, .int .i64 2]) ∧ Below w.heap.size w w' := by
  go_enter Tryd.func6, Tryd.ntmps6
  go_wp2
  refine bodyPost_ret (v := .agg #[.int .i64 0, .int .i64 0, .int .i64 2]) (by simp [results, Tryd.results6, go_sem]) rfl ⟨rfl, ?_⟩
  exact (Below.refl _ _).alloc (Nat.le_refl _) _
theorem spec_big (s : ByteArray) (x : Int) (w : World) (hs : 8000 < s.size) (hm : s.size ≤ 1048576) :
    Calls Tryd.prog 5 #[.string s, .int .i64 x] w fun e w' => e = .returned (.agg #[.int .i64 0, .int .i64 0, .int .i64 2]) ∧ Below w.heap.size w w' := by
  go_enter Tryd.func5, Tryd.ntmps5
  go_wp2
  refine bodyPost_ret (v := .agg #[.int .i64 0, .int .i64 0, .int .i64 2]) (by simp [results, Tryd.results5, go_sem]) rfl ⟨rfl, ?_⟩
  exact (Below.refl _ _).alloc (Nat.le_refl _) _
theorem spec_neg (s : ByteArray) (x : Int) (w : World) (hs : s.size ≤ 8000) (hx : x < 0) :
    Calls Tryd.prog 5 #[.string s, .int .i64 x] w fun e w' => e = .returned (.agg #[.int .i64 0, .int .i64 0, .int .i64 1]) ∧ Below w.heap.size w w' := by
  go_enter Tryd.func5, Tryd.ntmps5
  go_wp2
  refine bodyPost_ret (v := .agg #[.int .i64 0, .int .i64 0, .int .i64 1]) (by simp [results, Tryd.results5, go_sem]) rfl ⟨rfl, ?_⟩
  exact (Below.refl _ _).alloc (Nat.le_refl _) _
/-- ONE ANSWER OF BOTH. -/
theorem both (s : ByteArray) (x : Int) (hm : s.size ≤ 1048576) (hx : -9223372036854775808 ≤ x ∧ x ≤ 9223372036854775807) :
    ∃ a b c : Int, (∀ w, Calls Tryd.prog 5 #[.string s, .int .i64 x] w fun e w' => e = .returned (.agg #[.int .i64 a, .int .i64 b, .int .i64 c]) ∧ Below w.heap.size w w') ∧
      (∀ w, Laid w → Calls Tryd.prog 6 #[.string s, .int .i64 x] w fun e w' => e = .returned (.agg #[.int .i64 a, .int .i64 b, .int .i64 c]) ∧ Below w.heap.size w w') := by
  by_cases h8 : 8000 < s.size
  · exact ⟨_, _, _, fun w => spec_big s x w h8 hm, fun w _ => impl_big s x w h8 hm⟩
  by_cases h0 : x < 0
  · exact ⟨_, _, _, fun w => spec_neg s x w (by omega) h0, fun w hL => impl_bad s x 1 w hL (by omega) (fun w => read_neg s x w h0 hx.1)⟩
  obtain ⟨p, rfl⟩ : ∃ p : Nat, x = p := ⟨x.toNat, by omega⟩
  rcases rd_two s p 10 0 0 with ⟨v, n, h⟩ | ⟨c, hc, h⟩
  · refine ⟨unz v, (p : Int) + n, 0, fun w => ?_, fun w _ => impl_got s p _ _ w (by omega) (read_got (by omega) hx.2 h)⟩
    have := spec_any s p w (by omega) hx.2
    rw [outN_got h] at this
    exact this
  · refine ⟨0, 0, c, fun w => ?_, fun w hL => impl_bad s p c w hL (by omega) (read_bad (by omega) hx.2 hc h)⟩
    have := spec_any s p w (by omega) hx.2
    rw [outN_bad h hc] at this
    exact this
theorem eq_num (x y z : Int) (w : World) :
    Calls Tryd.prog 7 #[.agg #[.int .i64 x, .int .i64 y, .int .i64 z], .agg #[.int .i64 x, .int .i64 y, .int .i64 z]] w fun e w' => e = .returned (.bool true) ∧ Below w.heap.size w w' := by
  go_enter Tryd.func7, Tryd.ntmps7
  go_wp2
  go_ret
  exact ⟨rfl, ((Below.refl _ _).alloc (Nat.le_refl _) _).alloc (by simp) _⟩
theorem walk (a0 : ByteArray) (a1 : Int) (w0 : a0.size ≤ maxLen) (w1 : (Lit.int .i64 a1).wf = true) (w : World) (hL : Laid w) :
    Calls Tryd.prog 3 #[.string a0, .int .i64 a1] w fun e w' => e = .returned (.bool true) ∧ Below w.heap.size w w' := by
  unfold maxLen at w0
  have hb := bounds_i64 w1
  by_cases h : 1048576 < a0.size
  · clear hL hb w1
    go_enter Tryd.func3, Tryd.ntmps3
    go_wp2
    go_ret
    exact ⟨rfl, Below.refl _ _⟩
  · obtain ⟨x, y, z, hs, hi⟩ := both a0 a1 (by omega) hb
    have HL : Hid (Laid w) := hL
    clear hL hb w1
    go_enter Tryd.func3, Tryd.ntmps3
    go_wp2_with (first | (go_at_call 5; refine (hs _).mono ?_; rintro e w1 ⟨rfl, hb1⟩) | (go_at_call 6; refine (hi _ ((HL.out.below hb1).alloc _)).mono ?_; rintro e w2 ⟨rfl, hb2⟩; obtain ⟨hcc, hff⟩ := bcell hb2; have hz : w1.heap.size < w2.heap.size := by (have hz2 := hb2.size; simp at hz2; omega)) | (go_at_call 7; refine (eq_num _ _ _ _).mono ?_; rintro e w3 ⟨rfl, hb3⟩))
    go_ret
    refine ⟨rfl, ?_⟩
    have h1 : Below w.heap.size w w2 := hb1.trans ((bel_alloc hb2).mono hb1.size)
    exact h1.trans ((bel_alloc hb3).mono h1.size)
end GetR
end Go.Proofs.YtbjildnnlijidaaDoor
