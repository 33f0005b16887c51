/-
  GetNum: what the model and the program hand back is one thing. The conditions: errors' own variable is laid as the program's text lays it; the text has at most 1048576 bytes.
-/
import Derived.Test.YthfcdfeomekkeaaDoorGet
import Derived.Test.YthfcdfeomekkeaaDoorAsHit
namespace Go.Proofs.YthfcdfeomekkeaaDoor
open Go.ChangeShapes Go.WideShapes Go.ChangeAt Go.RowKit
open Go.ChangeMaps (open_string shut_string)
set_option linter.unusedVariables false
namespace GetR
open AsR (Laid)
theorem read_got {s : ByteArray} {p : Nat} (hs : s.size ≤ 8000) (hm : (p : Int) ≤ 9223372036854775807) {u n : Nat} (h : rd s p 10 0 0 = (0, u, n)) (w : World) :
    Calls Tryd.prog 16 #[.string s, .int .i64 p] w fun e w' => e = .returned (.tuple #[.int .i64 (unz u), .int .i64 ((p : Int) + n), .nilIface]) ∧ Below w.heap.size w w' := by
  refine (read_any s p w hs hm).mono fun e w' ht => ?_
  rw [h] at ht
  exact ⟨ht.1 rfl, ht.2.2⟩
theorem read_bad {s : ByteArray} {p : Nat} (hs : s.size ≤ 8000) (hm : (p : Int) ≤ 9223372036854775807) {c : Nat} (hc : c ≠ 0) (h : rd s p 10 0 0 = (c, 0, 0)) (w : World) :
    Calls Tryd.prog 16 #[.string s, .int .i64 p] w fun e w' => e = .returned (.tuple #[.int .i64 0, .int .i64 0, .iface 54 (.agg #[.int .i64 c])]) ∧ Below w.heap.size w w' := by
  refine (read_any s p w hs hm).mono fun e w' ht => ?_
  rw [h] at ht
  exact ⟨ht.2.1 hc, ht.2.2⟩
/-- Either a number was got, or a code alone. -/
theorem rd_two (s : ByteArray) (p : Nat) : ∀ f i u, (∃ v n, rd s p f i u = (0, v, n)) ∨ ∃ c, c ≠ 0 ∧ rd s p f i u = (c, 0, 0)
  | 0, i, u => .inr ⟨3, by omega, rfl⟩
  | f + 1, i, u => by
    rw [rd]
    split
    · split
      · exact .inr ⟨3, by omega, rfl⟩
      · split
        · split
          · exact .inr ⟨3, by omega, rfl⟩
          · exact .inl ⟨_, _, rfl⟩
        · exact rd_two s p f _ _
    · exact .inr ⟨4, by omega, rfl⟩
theorem impl_got (s : ByteArray) (x a b : Int) (w : World) (hs : s.size ≤ 8000)
    (hr : ∀ w, Calls Tryd.prog 16 #[.string s, .int .i64 x] w fun e w' => e = .returned (.tuple #[.int .i64 a, .int .i64 b, .nilIface]) ∧ Below w.heap.size w w') :
    Calls Tryd.prog 7 #[.string s, .int .i64 x] w fun e w' => e = .returned (.agg #[.int .i64 a, .int .i64 b, .int .i64 0]) ∧ Below w.heap.size w w' := by
  go_enter Tryd.func7, Tryd.ntmps7
  go_wp2_with (first | (go_at_call 16; refine (hr _).mono ?_; rintro e w1 ⟨rfl, hb1⟩; obtain ⟨hc1, hf1⟩ := bcell hb1; have hz1 : w.heap.size < w1.heap.size := by (have hz := hb1.size; simp at hz; omega)) | (go_at_call 17; refine (AsR.code_nil _).mono ?_; rintro e w2 ⟨rfl, hb2⟩; obtain ⟨hc2, hf2⟩ := bcell hb2; have hz2 : w.heap.size < w2.heap.size := by (have hz := hb2.size; omega)))
  refine bodyPost_ret (v := .agg #[.int .i64 a, .int .i64 b, .int .i64 0]) (by simp [results, Tryd.results7, go_sem, hc1, hc2, hz1]) rfl ⟨rfl, ?_⟩
  exact ((((bel_alloc hb1).trans (hb2.mono (by omega))).setCell (by simp) _).setCell (by simp) _).setCell (by simp) _
theorem impl_bad (s : ByteArray) (x c : Int) (w : World) (hL : Laid w) (hs : s.size ≤ 8000)
    (hr : ∀ w, Calls Tryd.prog 16 #[.string s, .int .i64 x] w fun e w' => e = .returned (.tuple #[.int .i64 0, .int .i64 0, .iface 54 (.agg #[.int .i64 c])]) ∧ Below w.heap.size w w') :
    Calls Tryd.prog 7 #[.string s, .int .i64 x] w fun e w' => e = .returned (.agg #[.int .i64 0, .int .i64 0, .int .i64 c]) ∧ Below w.heap.size w w' := by
  have HL : Hid (Laid w) := hL
  clear hL
  go_enter Tryd.func7, Tryd.ntmps7
  go_wp2_with (first | (go_at_call 16; refine (hr _).mono ?_; rintro e w1 ⟨rfl, hb1⟩; obtain ⟨hc1, hf1⟩ := bcell hb1; have hz1 : w.heap.size < w1.heap.size := by (have hz := hb1.size; simp at hz; omega)) | (go_at_call 17; refine (AsR.code_hit c _ ((HL.out.alloc _).below hb1)).mono ?_; rintro e w2 ⟨rfl, hb2⟩; obtain ⟨hc2, hf2⟩ := bcell hb2; have hz2 : w.heap.size < w2.heap.size := by (have hz := hb2.size; omega)))
  refine bodyPost_ret (v := .agg #[.int .i64 0, .int .i64 0, .int .i64 c]) (by simp [results, Tryd.results7, go_sem, hc1, hc2, hz1]) rfl ⟨rfl, ?_⟩
  exact ((((bel_alloc hb1).trans (hb2.mono (by omega))).setCell (by simp) _).setCell (by simp) _).setCell (by simp) _
theorem impl_big (s : ByteArray) (x : Int) (w : World) (hs : 8000 < s.size) (hm : s.size ≤ 1048576) :
    Calls Tryd.prog 7 #[.string s, .int .i64 x] w fun e w' => e = .returned (.agg #[.int .i64 0, .int .i64 0, .int .i64 2]) ∧ Below w.heap.size w w' := by
  go_enter Tryd.func7, Tryd.ntmps7
  go_wp2
  refine bodyPost_ret (v := .agg #[.int .i64 0, .int .i64 0, .int .i64 2]) (by simp [results, Tryd.results7, go_sem]) rfl ⟨rfl, ?_⟩
  exact (Below.refl _ _).alloc (Nat.le_refl _) _
end GetR
end Go.Proofs.YthfcdfeomekkeaaDoor
