/-
  GetText: what the model and the program hand back is one thing. The conditions: errors' own variable is laid as the program's text lays it; the text has at most 1048576 bytes.
-/
import Derived.Test.YtbjildnnlijidaaDoorGetNum
import Derived.Test.YtbjildnnlijidaaDoorJoin
import Derived.BigRegion
namespace Go.Proofs.YtbjildnnlijidaaDoor
open Go.ChangeShapes Go.WideShapes Go.ChangeAt Go.RowKit
open Go.ChangeMaps (open_string shut_string)
set_option linter.unusedVariables false
namespace GetR
open AsR (Laid)
/-- What is got lies inside the text, and is a number of 64 bits. -/
theorem rd_bd (s : ByteArray) (p : Nat) : ∀ f i u v n, i + f = 10 → u < 2 ^ (7 * i) → rd s p f i u = (0, v, n) → p + n ≤ s.size ∧ v < 18446744073709551616
  | 0, i, u, v, n, _, _, h => by simp [rd] at h
  | f + 1, i, u, v, n, hf, hu, h => by
    rw [rd] at h
    split at h
    · next hp =>
      split at h
      · simp at h
      · next h9 =>
        split at h
        · split at h
          · simp at h
          · simp only [Prod.mk.injEq, true_and] at h
            obtain ⟨rfl, rfl⟩ := h
            refine ⟨by omega, ?_⟩
            have hc : s[p + i].toNat % 128 ≤ 127 := by omega
            by_cases e : i = 9
            · subst e
              have h1 : u < 9223372036854775808 := hu
              have h2 : s[p + 9].toNat % 128 * 2 ^ (7 * 9) ≤ 1 * 9223372036854775808 := Nat.mul_le_mul (by omega) (Nat.le_refl _)
              omega
            · have := grow7 hu hc
              have := pow7 (show i + 1 ≤ 9 by omega)
              omega
        · exact rd_bd s p f _ _ v n (by omega) (grow7 hu (by omega)) h
    · simp at h
theorem unz_bd {u : Nat} (h : u < 18446744073709551616) : -9223372036854775808 ≤ unz u ∧ unz u ≤ 9223372036854775807 := by
  unfold unz; split <;> omega
theorem specT_bad (s : ByteArray) (x a b c : Int) (w : World) (hc : (c == 0) = false)
    (hs : ∀ w, Calls Tryd.prog 5 #[.string s, .int .i64 x] w fun e w' => e = .returned (.agg #[.int .i64 a, .int .i64 b, .int .i64 c]) ∧ Below w.heap.size w w') :
    Calls Tryd.prog 8 #[.string s, .int .i64 x] w fun e w' => e = .returned (.agg #[.string ⟨#[]⟩, .int .i64 0, .int .i64 c]) ∧ Below w.heap.size w w' := by
  have hcn : (c != 0) = true := by rw [bne, hc]; rfl
  go_enter Tryd.func8, Tryd.ntmps8
  go_wp2_with (go_at_call 5; refine (hs _).mono ?_; rintro e w1 ⟨rfl, hb1⟩; obtain ⟨hc1, hf1⟩ := bcell hb1; have hz1 : w.heap.size < w1.heap.size := by (have hz := hb1.size; simp at hz; omega))
  refine bodyPost_ret (v := .agg #[.string ⟨#[]⟩, .int .i64 0, .int .i64 c]) (by simp [results, Tryd.results8, go_sem, hc1, hz1]) rfl ⟨rfl, ?_⟩
  exact ((((bel_alloc hb1).setCell (by simp) _).setCell (by simp) _).setCell (by simp) _).alloc (by simp; omega) _
theorem specT_form (s : ByteArray) (x a b : Int) (w : World) (ha : a < 0 ∨ 8000 < a)
    (hs : ∀ w, Calls Tryd.prog 5 #[.string s, .int .i64 x] w fun e w' => e = .returned (.agg #[.int .i64 a, .int .i64 b, .int .i64 0]) ∧ Below w.heap.size w w') :
    Calls Tryd.prog 8 #[.string s, .int .i64 x] w fun e w' => e = .returned (.agg #[.string ⟨#[]⟩, .int .i64 0, .int .i64 3]) ∧ Below w.heap.size w w' := by
  have ha' : (a < 0) ∨ (¬ a < 0 ∧ 8000 < a) := by omega
  clear ha
  rcases ha' with h1 | ⟨h1, h2⟩
  all_goals
    go_enter Tryd.func8, Tryd.ntmps8
    go_wp2_with (go_at_call 5; refine (hs _).mono ?_; rintro e w1 ⟨rfl, hb1⟩; obtain ⟨hc1, hf1⟩ := bcell hb1; have hz1 : w.heap.size < w1.heap.size := by (have hz := hb1.size; simp at hz; omega))
    refine bodyPost_ret (v := .agg #[.string ⟨#[]⟩, .int .i64 0, .int .i64 3]) (by simp [results, Tryd.results8, go_sem, hc1, hz1]) rfl ⟨rfl, ?_⟩
    exact ((((bel_alloc hb1).setCell (by simp) _).setCell (by simp) _).setCell (by simp) _).alloc (by simp; omega) _
theorem specT_short (s : ByteArray) (x : Int) (m q : Nat) (w : World) (hm : m ≤ 8000) (hq : q ≤ s.size) (hs8 : s.size ≤ 8000) (hsh : s.size < q + m)
    (hs : ∀ w, Calls Tryd.prog 5 #[.string s, .int .i64 x] w fun e w' => e = .returned (.agg #[.int .i64 m, .int .i64 q, .int .i64 0]) ∧ Below w.heap.size w w') :
    Calls Tryd.prog 8 #[.string s, .int .i64 x] w fun e w' => e = .returned (.agg #[.string ⟨#[]⟩, .int .i64 0, .int .i64 4]) ∧ Below w.heap.size w w' := by
  have h1 : (s.size : Int) - m < q := by omega
  go_enter Tryd.func8, Tryd.ntmps8
  go_wp2_with (go_at_call 5; refine (hs _).mono ?_; rintro e w1 ⟨rfl, hb1⟩; obtain ⟨hc1, hf1⟩ := bcell hb1; have hz1 : w.heap.size < w1.heap.size := by (have hz := hb1.size; simp at hz; omega))
  refine bodyPost_ret (v := .agg #[.string ⟨#[]⟩, .int .i64 0, .int .i64 4]) (by simp [results, Tryd.results8, go_sem, hc1, hz1]) rfl ⟨rfl, ?_⟩
  exact ((((bel_alloc hb1).setCell (by simp) _).setCell (by simp) _).setCell (by simp) _).alloc (by simp; omega) _
set_option maxHeartbeats 2000000 in
theorem specT_got (s : ByteArray) (x : Int) (m q : Nat) (w : World) (hm : m ≤ 8000) (hs8 : s.size ≤ 8000) (hin : q + m ≤ s.size)
    (hs : ∀ w, Calls Tryd.prog 5 #[.string s, .int .i64 x] w fun e w' => e = .returned (.agg #[.int .i64 m, .int .i64 q, .int .i64 0]) ∧ Below w.heap.size w w') :
    Calls Tryd.prog 8 #[.string s, .int .i64 x] w fun e w' => e = .returned (.agg #[.string (s.extract q (q + m)), .int .i64 ((q : Int) + m), .int .i64 0]) ∧ Below w.heap.size w w' := by
  have h1 : ¬ (s.size : Int) - m < q := by omega
  have hwr : IntKind.i64.wrap ((q : Int) + m) = (q : Int) + m := by rw [IntKind.wrap_i64]; omega
  have hsl : ∀ wx, (Instr.slice 9 (.string s) (some (.int .i64 (q : Int))) (some (.int .i64 ((q : Int) + m))) none).run Tryd.prog wx = .ok (.string (s.extract q (q + m))) wx := by
    intro wx
    have := run_slice_string (P := Tryd.prog) (w := wx) 9 s .i64 .i64 (q : Int) ((q : Int) + m) Tryd.underlying9 (by omega) (by omega) (by omega)
    rw [this]
    congr 3
  go_enter Tryd.func8, Tryd.ntmps8
  go_wp2_with (go_at_call 5; refine (hs _).mono ?_; rintro e w1 ⟨rfl, hb1⟩; obtain ⟨hc1, hf1⟩ := bcell hb1; have hz1 : w.heap.size < w1.heap.size := by (have hz := hb1.size; simp at hz; omega))
  go_region
  go_wp2
  refine bodyPost_ret (v := .agg #[.string (s.extract q (q + m)), .int .i64 ((q : Int) + m), .int .i64 0]) (by simp [results, Tryd.results8, go_sem, hc1, hz1]) rfl ⟨rfl, ?_⟩
  exact (((((bel_alloc hb1).setCell (by simp) _).setCell (by simp) _).setCell (by simp) _).alloc (by simp; omega) _).drew
/-- The program's reading of a text. -/
theorem readT_bad (s : ByteArray) (x c : Int) (w : World)
    (hr : ∀ w, Calls Tryd.prog 11 #[.string s, .int .i64 x] w fun e w' => e = .returned (.tuple #[.int .i64 0, .int .i64 0, .iface 41 (.agg #[.int .i64 c])]) ∧ Below w.heap.size w w') :
    Calls Tryd.prog 13 #[.string s, .int .i64 x] w fun e w' => e = .returned (.tuple #[.string ⟨#[]⟩, .int .i64 0, .iface 41 (.agg #[.int .i64 c])]) ∧ Below w.heap.size w w' := by
  go_enter Tryd.func13, Tryd.ntmps13
  go_wp2_with (go_at_call 11; refine (hr _).mono ?_; rintro e w1 ⟨rfl, hb1⟩)
  go_ret3
  exact ⟨rfl, hb1⟩
theorem readT_form (s : ByteArray) (x a b : Int) (w : World) (ha : a < 0 ∨ 8000 < a)
    (hr : ∀ w, Calls Tryd.prog 11 #[.string s, .int .i64 x] w fun e w' => e = .returned (.tuple #[.int .i64 a, .int .i64 b, .nilIface]) ∧ Below w.heap.size w w') :
    Calls Tryd.prog 13 #[.string s, .int .i64 x] w fun e w' => e = .returned (.tuple #[.string ⟨#[]⟩, .int .i64 0, .iface 41 (.agg #[.int .i64 3])]) ∧ Below w.heap.size w w' := by
  have ha' : (a < 0) ∨ (¬ a < 0 ∧ 8000 < a) := by omega
  clear ha
  rcases ha' with h1 | ⟨h1, h2⟩
  all_goals
    go_enter Tryd.func13, Tryd.ntmps13
    go_wp2_with (go_at_call 11; refine (hr _).mono ?_; rintro e w1 ⟨rfl, hb1⟩)
    go_ret3
    exact ⟨rfl, hb1⟩
theorem readT_short (s : ByteArray) (x : Int) (m q : Nat) (w : World) (hm : m ≤ 8000) (hq : q ≤ s.size) (hs8 : s.size ≤ 8000) (hsh : s.size < q + m)
    (hr : ∀ w, Calls Tryd.prog 11 #[.string s, .int .i64 x] w fun e w' => e = .returned (.tuple #[.int .i64 m, .int .i64 q, .nilIface]) ∧ Below w.heap.size w w') :
    Calls Tryd.prog 13 #[.string s, .int .i64 x] w fun e w' => e = .returned (.tuple #[.string ⟨#[]⟩, .int .i64 0, .iface 41 (.agg #[.int .i64 4])]) ∧ Below w.heap.size w w' := by
  have h1 : (s.size : Int) - q < m := by omega
  go_enter Tryd.func13, Tryd.ntmps13
  go_wp2_with (go_at_call 11; refine (hr _).mono ?_; rintro e w1 ⟨rfl, hb1⟩)
  go_ret3
  exact ⟨rfl, hb1⟩
theorem readT_got (s : ByteArray) (x : Int) (m q : Nat) (w : World) (hm : m ≤ 8000) (hs8 : s.size ≤ 8000) (hin : q + m ≤ s.size)
    (hr : ∀ w, Calls Tryd.prog 11 #[.string s, .int .i64 x] w fun e w' => e = .returned (.tuple #[.int .i64 m, .int .i64 q, .nilIface]) ∧ Below w.heap.size w w') :
    Calls Tryd.prog 13 #[.string s, .int .i64 x] w fun e w' => e = .returned (.tuple #[.string (s.extract q (q + m)), .int .i64 ((q : Int) + m), .nilIface]) ∧ Below w.heap.size w w' := by
  have h1 : ¬ (s.size : Int) - q < m := by omega
  have hsl : ∀ wx, (Instr.slice 9 (.string s) (some (.int .i64 (q : Int))) (some (.int .i64 ((q : Int) + m))) none).run Tryd.prog wx = .ok (.string (s.extract q (q + m))) wx := by
    intro wx
    have := run_slice_string (P := Tryd.prog) (w := wx) 9 s .i64 .i64 (q : Int) ((q : Int) + m) Tryd.underlying9 (by omega) (by omega) (by omega)
    rw [this]
    congr 3
  go_enter Tryd.func13, Tryd.ntmps13
  go_wp2_with (first | (go_at_call 11; refine (hr _).mono ?_; rintro e w1 ⟨rfl, hb1⟩) | (go_at_call 16; refine (JoinR.join1 _ _ (by simp; omega)).mono ?_; rintro e w2 ⟨rfl, hb2⟩))
  go_ret3
  exact ⟨rfl, hb1.trans (hb2.mono hb1.size)⟩
theorem implT_got (s t : ByteArray) (x b : Int) (w : World) (hs : s.size ≤ 8000)
    (hr : ∀ w, Calls Tryd.prog 13 #[.string s, .int .i64 x] w fun e w' => e = .returned (.tuple #[.string t, .int .i64 b, .nilIface]) ∧ Below w.heap.size w w') :
    Calls Tryd.prog 9 #[.string s, .int .i64 x] w fun e w' => e = .returned (.agg #[.string t, .int .i64 b, .int .i64 0]) ∧ Below w.heap.size w w' := by
  go_enter Tryd.func9, Tryd.ntmps9
  go_wp2_with (first | (go_at_call 13; refine (hr _).mono ?_; rintro e w1 ⟨rfl, hb1⟩; obtain ⟨hc1, hf1⟩ := bcell hb1; have hz1 : w.heap.size < w1.heap.size := by (have hz := hb1.size; simp at hz; omega)) | (go_at_call 12; refine (AsR.code_nil _).mono ?_; rintro e w2 ⟨rfl, hb2⟩; obtain ⟨hc2, hf2⟩ := bcell hb2; have hz2 : w.heap.size < w2.heap.size := by (have hz := hb2.size; omega)))
  refine bodyPost_ret (v := .agg #[.string t, .int .i64 b, .int .i64 0]) (by simp [results, Tryd.results9, go_sem, hc1, hc2, hz1]) rfl ⟨rfl, ?_⟩
  exact ((((bel_alloc hb1).trans (hb2.mono (by omega))).setCell (by simp) _).setCell (by simp) _).setCell (by simp) _
theorem implT_bad (s : ByteArray) (x c : Int) (w : World) (hL : Laid w) (hs : s.size ≤ 8000)
    (hr : ∀ w, Calls Tryd.prog 13 #[.string s, .int .i64 x] w fun e w' => e = .returned (.tuple #[.string ⟨#[]⟩, .int .i64 0, .iface 41 (.agg #[.int .i64 c])]) ∧ Below w.heap.size w w') :
    Calls Tryd.prog 9 #[.string s, .int .i64 x] w fun e w' => e = .returned (.agg #[.string ⟨#[]⟩, .int .i64 0, .int .i64 c]) ∧ Below w.heap.size w w' := by
  have HL : Hid (Laid w) := hL
  clear hL
  go_enter Tryd.func9, Tryd.ntmps9
  go_wp2_with (first | (go_at_call 13; refine (hr _).mono ?_; rintro e w1 ⟨rfl, hb1⟩; obtain ⟨hc1, hf1⟩ := bcell hb1; have hz1 : w.heap.size < w1.heap.size := by (have hz := hb1.size; simp at hz; omega)) | (go_at_call 12; refine (AsR.code_hit c _ ((HL.out.alloc _).below hb1)).mono ?_; rintro e w2 ⟨rfl, hb2⟩; obtain ⟨hc2, hf2⟩ := bcell hb2; have hz2 : w.heap.size < w2.heap.size := by (have hz := hb2.size; omega)))
  refine bodyPost_ret (v := .agg #[.string ⟨#[]⟩, .int .i64 0, .int .i64 c]) (by simp [results, Tryd.results9, go_sem, hc1, hc2, hz1]) rfl ⟨rfl, ?_⟩
  exact ((((bel_alloc hb1).trans (hb2.mono (by omega))).setCell (by simp) _).setCell (by simp) _).setCell (by simp) _
theorem implT_big (s : ByteArray) (x : Int) (w : World) (hs : 8000 < s.size) (hm : s.size ≤ 1048576) :
    Calls Tryd.prog 9 #[.string s, .int .i64 x] w fun e w' => e = .returned (.agg #[.string ⟨#[]⟩, .int .i64 0, .int .i64 2]) ∧ Below w.heap.size w w' := by
  go_enter Tryd.func9, Tryd.ntmps9
  go_wp2
  refine bodyPost_ret (v := .agg #[.string ⟨#[]⟩, .int .i64 0, .int .i64 2]) (by simp [results, Tryd.results9, go_sem]) rfl ⟨rfl, ?_⟩
  exact (Below.refl _ _).alloc (Nat.le_refl _) _
/-- ONE ANSWER OF BOTH. -/
theorem bothT (s : ByteArray) (x : Int) (hm : s.size ≤ 1048576) (hx : -9223372036854775808 ≤ x ∧ x ≤ 9223372036854775807) :
    ∃ (t : ByteArray) (b c : Int), (∀ w, Calls Tryd.prog 8 #[.string s, .int .i64 x] w fun e w' => e = .returned (.agg #[.string t, .int .i64 b, .int .i64 c]) ∧ Below w.heap.size w w') ∧
      (∀ w, Laid w → Calls Tryd.prog 9 #[.string s, .int .i64 x] w fun e w' => e = .returned (.agg #[.string t, .int .i64 b, .int .i64 c]) ∧ Below w.heap.size w w') := by
  by_cases h8 : 8000 < s.size
  · exact ⟨_, _, _, fun w => specT_bad s x 0 0 2 w (by decide) (fun w => spec_big s x w h8 hm), fun w _ => implT_big s x w h8 hm⟩
  by_cases h0 : x < 0
  · exact ⟨_, _, _, fun w => specT_bad s x 0 0 1 w (by decide) (fun w => spec_neg s x w (by omega) h0), fun w hL => implT_bad s x 1 w hL (by omega) (fun w => readT_bad s x 1 w (fun w => read_neg s x w h0 hx.1))⟩
  obtain ⟨p, rfl⟩ : ∃ p : Nat, x = p := ⟨x.toNat, by omega⟩
  rcases rd_two s p 10 0 0 with ⟨v, n, h⟩ | ⟨c, hc, h⟩
  · have hsp : ∀ w, Calls Tryd.prog 5 #[.string s, .int .i64 (p : Int)] w fun e w' => e = .returned (.agg #[.int .i64 (unz v), .int .i64 ((p : Int) + n), .int .i64 0]) ∧ Below w.heap.size w w' := fun w => by
      have := spec_any s p w (by omega) hx.2
      rw [outN_got h] at this
      exact this
    have hrd := read_got (s := s) (p := p) (by omega) hx.2 h
    have hb := rd_bd s p 10 0 0 v n (by omega) (by simp) h
    by_cases hf : unz v < 0 ∨ 8000 < unz v
    · exact ⟨_, _, _, fun w => specT_form s p _ _ w hf hsp, fun w hL => implT_bad s p 3 w hL (by omega) (fun w => readT_form s p _ _ w hf hrd)⟩
    · obtain ⟨m, hmv⟩ : ∃ m : Nat, (m : Int) = unz v := ⟨(unz v).toNat, by omega⟩
      obtain ⟨q, hqv⟩ : ∃ q : Nat, (q : Int) = (p : Int) + n := ⟨p + n, by omega⟩
      rw [← hmv, ← hqv] at hsp hrd
      rw [← hmv] at hf
      have hq : q ≤ s.size := by omega
      by_cases hsh : s.size < q + m
      · exact ⟨_, _, _, fun w => specT_short s p m q w (by omega) hq (by omega) hsh hsp, fun w hL => implT_bad s p 4 w hL (by omega) (fun w => readT_short s p m q w (by omega) hq (by omega) hsh hrd)⟩
      · exact ⟨_, _, _, fun w => specT_got s p m q w (by omega) (by omega) (by omega) hsp, fun w _ => implT_got s _ p _ w (by omega) (fun w => readT_got s p m q w (by omega) (by omega) (by omega) hrd)⟩
  · have hsp : ∀ w, Calls Tryd.prog 5 #[.string s, .int .i64 (p : Int)] w fun e w' => e = .returned (.agg #[.int .i64 0, .int .i64 0, .int .i64 c]) ∧ Below w.heap.size w w' := fun w => by
      have := spec_any s p w (by omega) hx.2
      rw [outN_bad h hc] at this
      exact this
    exact ⟨_, _, _, fun w => specT_bad s p 0 0 c w (by simp; omega) hsp, fun w hL => implT_bad s p c w hL (by omega) (fun w => readT_bad s p c w (read_bad (by omega) hx.2 hc h))⟩
theorem eq_text (t : ByteArray) (x y : Int) (w : World) :
    Calls Tryd.prog 10 #[.agg #[.string t, .int .i64 x, .int .i64 y], .agg #[.string t, .int .i64 x, .int .i64 y]] w fun e w' => e = .returned (.bool true) ∧ Below w.heap.size w w' := by
  go_enter Tryd.func10, Tryd.ntmps10
  go_wp2
  go_ret
  exact ⟨rfl, ((Below.refl _ _).alloc (Nat.le_refl _) _).alloc (by simp) _⟩
theorem walkT (a0 : ByteArray) (a1 : Int) (w0 : a0.size ≤ maxLen) (w1 : (Lit.int .i64 a1).wf = true) (w : World) (hL : Laid w) :
    Calls Tryd.prog 4 #[.string a0, .int .i64 a1] w fun e w' => e = .returned (.bool true) ∧ Below w.heap.size w w' := by
  unfold maxLen at w0
  have hb := bounds_i64 w1
  by_cases h : 1048576 < a0.size
  · clear hL hb w1
    go_enter Tryd.func4, Tryd.ntmps4
    go_wp2
    go_ret
    exact ⟨rfl, Below.refl _ _⟩
  · obtain ⟨x, y, z, hs, hi⟩ := bothT a0 a1 (by omega) hb
    have HL : Hid (Laid w) := hL
    clear hL hb w1
    go_enter Tryd.func4, Tryd.ntmps4
    go_wp2_with (first | (go_at_call 8; refine (hs _).mono ?_; rintro e w1 ⟨rfl, hb1⟩) | (go_at_call 9; refine (hi _ ((HL.out.below hb1).alloc _)).mono ?_; rintro e w2 ⟨rfl, hb2⟩; obtain ⟨hcc, hff⟩ := bcell hb2; have hz : w1.heap.size < w2.heap.size := by (have hz2 := hb2.size; simp at hz2; omega)) | (go_at_call 10; refine (eq_text _ _ _ _).mono ?_; rintro e w3 ⟨rfl, hb3⟩))
    go_ret
    refine ⟨rfl, ?_⟩
    have h1 : Below w.heap.size w w2 := hb1.trans ((bel_alloc hb2).mono hb1.size)
    exact h1.trans ((bel_alloc hb3).mono h1.size)
end GetR
end Go.Proofs.YtbjildnnlijidaaDoor
