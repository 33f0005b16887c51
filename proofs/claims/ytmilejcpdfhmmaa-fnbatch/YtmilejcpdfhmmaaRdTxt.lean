/-
  A number and a text read at a place, either side: what is handed back is what the bytes spell there. The condition: the text has at most 8000 bytes.
-/
import Derived.Test.YtmilejcpdfhmmaaGet
import Derived.Test.YtmilejcpdfhmmaaGetSpec
import Derived.Test.YtmilejcpdfhmmaaBatMath
import Derived.Test.YtmilejcpdfhmmaaJoin
import Derived.BigRegion
namespace Go.Proofs.Ytmilejcpdfhmmaa
open Go.ChangeShapes Go.WideShapes Go.ChangeAt Go.RowKit
set_option linter.unusedVariables false
namespace GetR
theorem read_got {s : ByteArray} {p : Nat} (hs : s.size ≤ 8000) (hm : (p : Int) ≤ 9223372036854775807) {u n : Nat} (h : rd s p 10 0 0 = (0, u, n)) (w : World) :
    Calls Try.prog 75 #[.string s, .int .i64 p] w fun e w' => e = .returned (.tuple #[.int .i64 (unz u), .int .i64 ((p : Int) + n), .nilIface]) ∧ Below w.heap.size w w' := by
  refine (read_any s p w hs hm).mono fun e w' ht => ?_
  rw [h] at ht
  exact ⟨ht.1 rfl, ht.2.2⟩
theorem read_bad {s : ByteArray} {p : Nat} (hs : s.size ≤ 8000) (hm : (p : Int) ≤ 9223372036854775807) {c : Nat} (hc : c ≠ 0) (h : rd s p 10 0 0 = (c, 0, 0)) (w : World) :
    Calls Try.prog 75 #[.string s, .int .i64 p] w fun e w' => e = .returned (.tuple #[.int .i64 0, .int .i64 0, .iface 86 (.agg #[.int .i64 c])]) ∧ Below w.heap.size w w' := by
  refine (read_any s p w hs hm).mono fun e w' ht => ?_
  rw [h] at ht
  exact ⟨ht.2.1 hc, ht.2.2⟩
/-- Either a number was got, or a code alone. -/
theorem rd_two (s : ByteArray) (p : Nat) : ∀ f i u, (∃ v n, rd s p f i u = (0, v, n)) ∨ ∃ c, c ≠ 0 ∧ rd s p f i u = (c, 0, 0)
  | 0, i, u => .inr ⟨3, by omega, rfl⟩
  | f + 1, i, u => by
    rw [rd]
    split
    · split
      · exact .inr ⟨3, by omega, rfl⟩
      · split
        · split
          · exact .inr ⟨3, by omega, rfl⟩
          · exact .inl ⟨_, _, rfl⟩
        · exact rd_two s p f _ _
    · exact .inr ⟨4, by omega, rfl⟩
theorem specT_bad (s : ByteArray) (x a b c : Int) (w : World) (hc : (c == 0) = false)
    (hs : ∀ w, Calls Try.prog 78 #[.string s, .int .i64 x] w fun e w' => e = .returned (.agg #[.int .i64 a, .int .i64 b, .int .i64 c]) ∧ Below w.heap.size w w') :
    Calls Try.prog 79 #[.string s, .int .i64 x] w fun e w' => e = .returned (.agg #[.string ⟨#[]⟩, .int .i64 0, .int .i64 c]) ∧ Below w.heap.size w w' := by
  have hcn : (c != 0) = true := by rw [bne, hc]; rfl
  go_enter Try.func79, Try.ntmps79
  go_wp2_with (go_at_call 78; refine (hs _).mono ?_; rintro e w1 ⟨rfl, hb1⟩; obtain ⟨hc1, hf1⟩ := bcell hb1; have hz1 : w.heap.size < w1.heap.size := by (have hz := hb1.size; simp at hz; omega))
  refine bodyPost_ret (v := .agg #[.string ⟨#[]⟩, .int .i64 0, .int .i64 c]) (by simp [results, Try.results79, go_sem, hc1, hz1]) rfl ⟨rfl, ?_⟩
  exact ((((bel_alloc hb1).setCell (by simp) _).setCell (by simp) _).setCell (by simp) _).alloc (by simp; omega) _
theorem specT_form (s : ByteArray) (x a b : Int) (w : World) (ha : a < 0 ∨ 8000 < a)
    (hs : ∀ w, Calls Try.prog 78 #[.string s, .int .i64 x] w fun e w' => e = .returned (.agg #[.int .i64 a, .int .i64 b, .int .i64 0]) ∧ Below w.heap.size w w') :
    Calls Try.prog 79 #[.string s, .int .i64 x] w fun e w' => e = .returned (.agg #[.string ⟨#[]⟩, .int .i64 0, .int .i64 3]) ∧ Below w.heap.size w w' := by
  have ha' : (a < 0) ∨ (¬ a < 0 ∧ 8000 < a) := by omega
  clear ha
  rcases ha' with h1 | ⟨h1, h2⟩
  all_goals
    go_enter Try.func79, Try.ntmps79
    go_wp2_with (go_at_call 78; refine (hs _).mono ?_; rintro e w1 ⟨rfl, hb1⟩; obtain ⟨hc1, hf1⟩ := bcell hb1; have hz1 : w.heap.size < w1.heap.size := by (have hz := hb1.size; simp at hz; omega))
    refine bodyPost_ret (v := .agg #[.string ⟨#[]⟩, .int .i64 0, .int .i64 3]) (by simp [results, Try.results79, go_sem, hc1, hz1]) rfl ⟨rfl, ?_⟩
    exact ((((bel_alloc hb1).setCell (by simp) _).setCell (by simp) _).setCell (by simp) _).alloc (by simp; omega) _
theorem specT_short (s : ByteArray) (x : Int) (m q : Nat) (w : World) (hm : m ≤ 8000) (hq : q ≤ s.size) (hs8 : s.size ≤ 8000) (hsh : s.size < q + m)
    (hs : ∀ w, Calls Try.prog 78 #[.string s, .int .i64 x] w fun e w' => e = .returned (.agg #[.int .i64 m, .int .i64 q, .int .i64 0]) ∧ Below w.heap.size w w') :
    Calls Try.prog 79 #[.string s, .int .i64 x] w fun e w' => e = .returned (.agg #[.string ⟨#[]⟩, .int .i64 0, .int .i64 4]) ∧ Below w.heap.size w w' := by
  have h1 : (s.size : Int) - m < q := by omega
  go_enter Try.func79, Try.ntmps79
  go_wp2_with (go_at_call 78; refine (hs _).mono ?_; rintro e w1 ⟨rfl, hb1⟩; obtain ⟨hc1, hf1⟩ := bcell hb1; have hz1 : w.heap.size < w1.heap.size := by (have hz := hb1.size; simp at hz; omega))
  refine bodyPost_ret (v := .agg #[.string ⟨#[]⟩, .int .i64 0, .int .i64 4]) (by simp [results, Try.results79, go_sem, hc1, hz1]) rfl ⟨rfl, ?_⟩
  exact ((((bel_alloc hb1).setCell (by simp) _).setCell (by simp) _).setCell (by simp) _).alloc (by simp; omega) _
set_option maxHeartbeats 2000000 in
theorem specT_got (s : ByteArray) (x : Int) (m q : Nat) (w : World) (hm : m ≤ 8000) (hs8 : s.size ≤ 8000) (hin : q + m ≤ s.size)
    (hs : ∀ w, Calls Try.prog 78 #[.string s, .int .i64 x] w fun e w' => e = .returned (.agg #[.int .i64 m, .int .i64 q, .int .i64 0]) ∧ Below w.heap.size w w') :
    Calls Try.prog 79 #[.string s, .int .i64 x] w fun e w' => e = .returned (.agg #[.string (s.extract q (q + m)), .int .i64 ((q : Int) + m), .int .i64 0]) ∧ Below w.heap.size w w' := by
  have h1 : ¬ (s.size : Int) - m < q := by omega
  have hwr : IntKind.i64.wrap ((q : Int) + m) = (q : Int) + m := by rw [IntKind.wrap_i64]; omega
  have hsl : ∀ wx, (Instr.slice 9 (.string s) (some (.int .i64 (q : Int))) (some (.int .i64 ((q : Int) + m))) none).run Try.prog wx = .ok (.string (s.extract q (q + m))) wx := by
    intro wx
    have := run_slice_string (P := Try.prog) (w := wx) 9 s .i64 .i64 (q : Int) ((q : Int) + m) Try.underlying9 (by omega) (by omega) (by omega)
    rw [this]
    congr 3
  go_enter Try.func79, Try.ntmps79
  go_wp2_with (go_at_call 78; refine (hs _).mono ?_; rintro e w1 ⟨rfl, hb1⟩; obtain ⟨hc1, hf1⟩ := bcell hb1; have hz1 : w.heap.size < w1.heap.size := by (have hz := hb1.size; simp at hz; omega))
  go_region
  go_wp2
  refine bodyPost_ret (v := .agg #[.string (s.extract q (q + m)), .int .i64 ((q : Int) + m), .int .i64 0]) (by simp [results, Try.results79, go_sem, hc1, hz1]) rfl ⟨rfl, ?_⟩
  exact (((((bel_alloc hb1).setCell (by simp) _).setCell (by simp) _).setCell (by simp) _).alloc (by simp; omega) _).drew
/-- The program's reading of a text. -/
theorem readT_bad (s : ByteArray) (x c : Int) (w : World)
    (hr : ∀ w, Calls Try.prog 75 #[.string s, .int .i64 x] w fun e w' => e = .returned (.tuple #[.int .i64 0, .int .i64 0, .iface 86 (.agg #[.int .i64 c])]) ∧ Below w.heap.size w w') :
    Calls Try.prog 76 #[.string s, .int .i64 x] w fun e w' => e = .returned (.tuple #[.string ⟨#[]⟩, .int .i64 0, .iface 86 (.agg #[.int .i64 c])]) ∧ Below w.heap.size w w' := by
  go_enter Try.func76, Try.ntmps76
  go_wp2_with (go_at_call 75; refine (hr _).mono ?_; rintro e w1 ⟨rfl, hb1⟩)
  go_ret3
  exact ⟨rfl, hb1⟩
theorem readT_form (s : ByteArray) (x a b : Int) (w : World) (ha : a < 0 ∨ 8000 < a)
    (hr : ∀ w, Calls Try.prog 75 #[.string s, .int .i64 x] w fun e w' => e = .returned (.tuple #[.int .i64 a, .int .i64 b, .nilIface]) ∧ Below w.heap.size w w') :
    Calls Try.prog 76 #[.string s, .int .i64 x] w fun e w' => e = .returned (.tuple #[.string ⟨#[]⟩, .int .i64 0, .iface 86 (.agg #[.int .i64 3])]) ∧ Below w.heap.size w w' := by
  have ha' : (a < 0) ∨ (¬ a < 0 ∧ 8000 < a) := by omega
  clear ha
  rcases ha' with h1 | ⟨h1, h2⟩
  all_goals
    go_enter Try.func76, Try.ntmps76
    go_wp2_with (go_at_call 75; refine (hr _).mono ?_; rintro e w1 ⟨rfl, hb1⟩)
    go_ret3
    exact ⟨rfl, hb1⟩
theorem readT_short (s : ByteArray) (x : Int) (m q : Nat) (w : World) (hm : m ≤ 8000) (hq : q ≤ s.size) (hs8 : s.size ≤ 8000) (hsh : s.size < q + m)
    (hr : ∀ w, Calls Try.prog 75 #[.string s, .int .i64 x] w fun e w' => e = .returned (.tuple #[.int .i64 m, .int .i64 q, .nilIface]) ∧ Below w.heap.size w w') :
    Calls Try.prog 76 #[.string s, .int .i64 x] w fun e w' => e = .returned (.tuple #[.string ⟨#[]⟩, .int .i64 0, .iface 86 (.agg #[.int .i64 4])]) ∧ Below w.heap.size w w' := by
  have h1 : (s.size : Int) - q < m := by omega
  go_enter Try.func76, Try.ntmps76
  go_wp2_with (go_at_call 75; refine (hr _).mono ?_; rintro e w1 ⟨rfl, hb1⟩)
  go_ret3
  exact ⟨rfl, hb1⟩
theorem readT_got (s : ByteArray) (x : Int) (m q : Nat) (w : World) (hm : m ≤ 8000) (hs8 : s.size ≤ 8000) (hin : q + m ≤ s.size)
    (hr : ∀ w, Calls Try.prog 75 #[.string s, .int .i64 x] w fun e w' => e = .returned (.tuple #[.int .i64 m, .int .i64 q, .nilIface]) ∧ Below w.heap.size w w') :
    Calls Try.prog 76 #[.string s, .int .i64 x] w fun e w' => e = .returned (.tuple #[.string (s.extract q (q + m)), .int .i64 ((q : Int) + m), .nilIface]) ∧ Below w.heap.size w w' := by
  have h1 : ¬ (s.size : Int) - q < m := by omega
  have hsl : ∀ wx, (Instr.slice 9 (.string s) (some (.int .i64 (q : Int))) (some (.int .i64 ((q : Int) + m))) none).run Try.prog wx = .ok (.string (s.extract q (q + m))) wx := by
    intro wx
    have := run_slice_string (P := Try.prog) (w := wx) 9 s .i64 .i64 (q : Int) ((q : Int) + m) Try.underlying9 (by omega) (by omega) (by omega)
    rw [this]
    congr 3
  go_enter Try.func76, Try.ntmps76
  go_wp2_with (first | (go_at_call 75; refine (hr _).mono ?_; rintro e w1 ⟨rfl, hb1⟩) | (go_at_call 29; refine (JoinR.join1 _ _ (by simp; omega)).mono ?_; rintro e w2 ⟨rfl, hb2⟩))
  go_ret3
  exact ⟨rfl, hb1.trans (hb2.mono hb1.size)⟩
end GetR
namespace EvtR
open GetR NumsR
/-- A fault of the program's. -/
def flt (c : Int) : Value := .iface 86 (.agg #[.int .i64 c])
theorem num_impl (s : ByteArray) (p : Nat) (hs : s.size ≤ 8000) (hp : p ≤ 8000) : (∃ n q, numAt s p = some (n, q) ∧ I64 n ∧ q ≤ 8000 ∧ ∀ w, Calls Try.prog 75 #[.string s, .int .i64 p] w fun e w' => e = .returned (.tuple #[.int .i64 n, .int .i64 (q : Nat), .nilIface]) ∧ Below w.heap.size w w') ∨ (numAt s p = none ∧ ∃ c : Int, ∀ w, Calls Try.prog 75 #[.string s, .int .i64 p] w fun e w' => e = .returned (.tuple #[.int .i64 0, .int .i64 0, flt c]) ∧ Below w.heap.size w w') := by
  rcases rd_two s p 10 0 0 with ⟨u, n, h⟩ | ⟨c, hc, h⟩
  · have e : numAt s p = some (unz u, p + n) := by unfold numAt; rw [h]; rfl
    obtain ⟨b1, b2, b3, b4⟩ := numAt_back e
    refine .inl ⟨_, _, e, b1, by omega, fun w => ?_⟩
    have := read_got hs (show (p : Int) ≤ 9223372036854775807 by omega) h w
    rw [show ((p : Int) + (n : Int)) = ((p + n : Nat) : Int) by omega] at this
    exact this
  · exact .inr ⟨by unfold numAt; rw [h, if_neg hc], c, fun w => read_bad hs (by omega) hc h w⟩
theorem num_spec (s : ByteArray) (p : Nat) (hs : s.size ≤ 8000) (hp : p ≤ 8000) : (∃ n q, numAt s p = some (n, q) ∧ I64 n ∧ q ≤ 8000 ∧ ∀ w, Calls Try.prog 78 #[.string s, .int .i64 p] w fun e w' => e = .returned (.agg #[.int .i64 n, .int .i64 (q : Nat), .int .i64 0]) ∧ Below w.heap.size w w') ∨ (numAt s p = none ∧ ∃ c : Int, (c == 0) = false ∧ ∀ w, Calls Try.prog 78 #[.string s, .int .i64 p] w fun e w' => e = .returned (.agg #[.int .i64 0, .int .i64 0, .int .i64 c]) ∧ Below w.heap.size w w') := by
  rcases rd_two s p 10 0 0 with ⟨u, n, h⟩ | ⟨c, hc, h⟩
  · have e : numAt s p = some (unz u, p + n) := by unfold numAt; rw [h]; rfl
    obtain ⟨b1, b2, b3, b4⟩ := numAt_back e
    refine .inl ⟨_, _, e, b1, by omega, fun w => ?_⟩
    have := GetR.spec_any s p w hs (by omega)
    rw [outN_got h, show ((p : Int) + (n : Int)) = ((p + n : Nat) : Int) by omega] at this
    exact this
  · refine .inr ⟨by unfold numAt; rw [h, if_neg hc], c, by simp; omega, fun w => ?_⟩
    have := GetR.spec_any s p w hs (by omega)
    rw [outN_bad h hc] at this
    exact this
theorem txt_impl (s : ByteArray) (p : Nat) (hs : s.size ≤ 8000) (hp : p ≤ 8000) : (∃ t q, txtAt s p = some (t, q) ∧ t.size ≤ 8000 ∧ q ≤ 8000 ∧ ∀ w, Calls Try.prog 76 #[.string s, .int .i64 p] w fun e w' => e = .returned (.tuple #[.string t, .int .i64 (q : Nat), .nilIface]) ∧ Below w.heap.size w w') ∨ (txtAt s p = none ∧ ∃ c : Int, ∀ w, Calls Try.prog 76 #[.string s, .int .i64 p] w fun e w' => e = .returned (.tuple #[.string ⟨#[]⟩, .int .i64 0, flt c]) ∧ Below w.heap.size w w') := by
  rcases num_impl s p hs hp with ⟨n, q, h, hn, hq, hc⟩ | ⟨h, c, hc⟩
  · obtain ⟨_, _, b3, _⟩ := numAt_back h
    by_cases h1 : n < 0 ∨ 8000 < n
    · exact .inr ⟨by unfold txtAt; rw [h]; simp only [Option.bind_some]; rw [if_neg (by omega)], 3, fun w => readT_form s p n q w h1 hc⟩
    · obtain ⟨m, rfl⟩ : ∃ m : Nat, n = m := ⟨n.toNat, by omega⟩
      by_cases h2 : s.size < q + m
      · exact .inr ⟨by unfold txtAt; rw [h]; simp only [Option.bind_some]; rw [if_neg (by rw [Int.toNat_natCast]; omega)], 4, fun w => readT_short s p m q w (by omega) b3 hs h2 hc⟩
      · have e : txtAt s p = some (s.extract q (q + m), q + m) := by unfold txtAt; rw [h]; simp only [Option.bind_some]; rw [if_pos ⟨by omega, by omega, by rw [Int.toNat_natCast]; omega⟩, Int.toNat_natCast]
        refine .inl ⟨_, _, e, (txtAt_back e).1, by omega, fun w => ?_⟩
        have := readT_got s p m q w (by omega) hs (by omega) hc
        rw [show ((q : Int) + (m : Int)) = ((q + m : Nat) : Int) by omega] at this
        exact this
  · exact .inr ⟨by unfold txtAt; rw [h]; rfl, c, fun w => readT_bad s p c w hc⟩
theorem txt_spec (s : ByteArray) (p : Nat) (hs : s.size ≤ 8000) (hp : p ≤ 8000) : (∃ t q, txtAt s p = some (t, q) ∧ t.size ≤ 8000 ∧ q ≤ 8000 ∧ ∀ w, Calls Try.prog 79 #[.string s, .int .i64 p] w fun e w' => e = .returned (.agg #[.string t, .int .i64 (q : Nat), .int .i64 0]) ∧ Below w.heap.size w w') ∨ (txtAt s p = none ∧ ∃ c : Int, (c == 0) = false ∧ ∀ w, Calls Try.prog 79 #[.string s, .int .i64 p] w fun e w' => e = .returned (.agg #[.string ⟨#[]⟩, .int .i64 0, .int .i64 c]) ∧ Below w.heap.size w w') := by
  rcases num_spec s p hs hp with ⟨n, q, h, hn, hq, hc⟩ | ⟨h, c, hc0, hc⟩
  · obtain ⟨_, _, b3, _⟩ := numAt_back h
    by_cases h1 : n < 0 ∨ 8000 < n
    · exact .inr ⟨by unfold txtAt; rw [h]; simp only [Option.bind_some]; rw [if_neg (by omega)], 3, by decide, fun w => specT_form s p n q w h1 hc⟩
    · obtain ⟨m, rfl⟩ : ∃ m : Nat, n = m := ⟨n.toNat, by omega⟩
      by_cases h2 : s.size < q + m
      · exact .inr ⟨by unfold txtAt; rw [h]; simp only [Option.bind_some]; rw [if_neg (by rw [Int.toNat_natCast]; omega)], 4, by decide, fun w => specT_short s p m q w (by omega) b3 hs h2 hc⟩
      · have e : txtAt s p = some (s.extract q (q + m), q + m) := by unfold txtAt; rw [h]; simp only [Option.bind_some]; rw [if_pos ⟨by omega, by omega, by rw [Int.toNat_natCast]; omega⟩, Int.toNat_natCast]
        refine .inl ⟨_, _, e, (txtAt_back e).1, by omega, fun w => ?_⟩
        have := specT_got s p m q w (by omega) hs (by omega) hc
        rw [show ((q : Int) + (m : Int)) = ((q + m : Nat) : Int) by omega] at this
        exact this
  · exact .inr ⟨by unfold txtAt; rw [h]; rfl, c, hc0, fun w => specT_bad s p 0 0 c w hc0 hc⟩
end EvtR
end Go.Proofs.Ytmilejcpdfhmmaa
