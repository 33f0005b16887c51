/-
  A product in parts: the model's TimesParts hands back what the program's does. No condition on this side.
-/
import Derived.Test.YtaihfidbpkbnkaaDoorTPartsS
namespace Go.Proofs.YtaihfidbpkbnkaaDoor
open Go.ChangeShapes Go.WideShapes Go.ChangeAt Go.RowKit
set_option linter.unusedVariables false
namespace FixR
set_option maxHeartbeats 4000000 in
theorem spec_timesparts_bad (a b c mode : Int) (h : tpBad a b c mode) (w : World) :
    Calls Tryd.prog 23 #[.int .i64 a, .int .i64 b, .int .i64 c, .int .i64 mode] w fun e w' => e = .returned (out 0 1) ∧ Below w.heap.size w w' := by
  have key := tp_key a b c mode h
  clear h
  rcases key with h1 | ⟨h1, h2⟩ | ⟨h1, h2, h3 | ⟨h3, h4⟩ | ⟨h3, h4, h5 | ⟨h5, h6⟩ | ⟨h5, h6, h7 | ⟨h7, h8⟩⟩⟩⟩
  all_goals
    go_enter Tryd.func23, Tryd.ntmps23
    go_wp2_with (first | (go_at_call 72; go_in) | (go_at_call 68; go_in) | (go_at_call 65; refine (ill_any _ _).mono ?_; rintro e w2 ⟨rfl, hb⟩; unfold out; obtain ⟨hc, hz⟩ := bcell hb))
    refine bodyPost_ret (v := out 0 1) (by simp [out, results, Tryd.results23, go_sem, hc]) rfl ⟨rfl, ?_⟩
    exact (((bel_alloc hb).setCell (by simp) _).setCell (by simp) _).setCell (by simp) _
set_option maxHeartbeats 4000000 in
theorem spec_tp_over (a b c : Nat) (mode : Int) (ha : a ≤ 1000000000000000) (hb : b ≤ 1000000000000000) (hc : 1 ≤ c) (hc2 : c ≤ 1000000000000000) (hm : 0 ≤ mode ∧ mode ≤ 2) (hQ : ¬ a * b / c ≤ 1000000000000000) (w : World) :
    Calls Tryd.prog 23 #[.int .i64 a, .int .i64 b, .int .i64 c, .int .i64 mode] w fun e w' => e = .returned (out 0 12) ∧ Below w.heap.size w w' := by
  have hq : ∀ w, Calls Tryd.prog 73 #[.int .i64 a, .int .i64 b, .int .i64 c] w fun e w' => e = .returned (.tuple #[.int .i64 0, .int .i64 0, .bool false]) ∧ w' = w := fun w => (l02Mul_any a b c ha hb hc hc2 w).mono fun e w' ⟨h1, h2⟩ => ⟨by rcases h1 with h | h; exact absurd h.1 hQ; exact h.2, h2⟩
  have a1 : (0 : Int) ≤ a := Int.natCast_nonneg _
  have a2 : (a : Int) ≤ 1000000000000000 := by omega
  have b1 : (0 : Int) ≤ b := Int.natCast_nonneg _
  have b2 : (b : Int) ≤ 1000000000000000 := by omega
  have c3 : (1 : Int) ≤ c := by omega
  have c4 : (c : Int) ≤ 1000000000000000 := by omega
  obtain ⟨m1, m2⟩ := hm
  have HQ := hid_intro hq
  clear ha hb hc hc2 hQ hq
  go_enter Tryd.func23, Tryd.ntmps23
  go_wp2_with (first | (go_at_call 72; go_in) | (go_at_call 68; go_in) | (go_at_call 73; refine (HQ.out _).mono ?_; rintro e w1 ⟨rfl, rfl⟩) | (go_at_call 65; refine (ill_any _ _).mono ?_; rintro e w2 ⟨rfl, hb⟩; unfold out; obtain ⟨hc, hz⟩ := bcell hb))
  refine bodyPost_ret (v := out 0 12) (by simp [out, results, Tryd.results23, go_sem, hc]) rfl ⟨rfl, ?_⟩
  exact (((bel_alloc hb).setCell (by simp) _).setCell (by simp) _).setCell (by simp) _
theorem up_key (R c mode : Int) (hc : 1 ≤ c) (hR : 0 ≤ R) (hm : 0 ≤ mode ∧ mode ≤ 2) :
    (up R c mode = 1 ∧ mode = 1 ∧ 0 < R) ∨ (up R c mode = 0 ∧ mode = 1 ∧ ¬ 0 < R) ∨ (up R c mode = 1 ∧ mode = 2 ∧ 0 < R ∧ c - R ≤ R) ∨ (up R c mode = 0 ∧ mode = 2 ∧ 0 < R ∧ ¬ c - R ≤ R) ∨ (up R c mode = 0 ∧ mode = 2 ∧ ¬ 0 < R) ∨ (up R c mode = 0 ∧ mode = 0) := by
  unfold up
  split <;> omega
set_option maxHeartbeats 4000000 in
theorem spec_tp_inner (a b c Q R : Nat) (mode U v code : Int) (a2 : (a : Int) ≤ 1000000000000000) (b2 : (b : Int) ≤ 1000000000000000) (c3 : (1 : Int) ≤ c) (c4 : (c : Int) ≤ 1000000000000000) (hR : R < c) (hQ : Q ≤ 1000000000000000)
    (hk : (U = 1 ∧ mode = 1 ∧ 0 < (R : Int)) ∨ (U = 0 ∧ mode = 1 ∧ ¬ 0 < (R : Int)) ∨ (U = 1 ∧ mode = 2 ∧ 0 < (R : Int) ∧ (c : Int) - R ≤ R) ∨ (U = 0 ∧ mode = 2 ∧ 0 < (R : Int) ∧ ¬ (c : Int) - R ≤ R) ∨ (U = 0 ∧ mode = 2 ∧ ¬ 0 < (R : Int)) ∨ (U = 0 ∧ mode = 0))
    (hq : ∀ w, Calls Tryd.prog 73 #[.int .i64 a, .int .i64 b, .int .i64 c] w fun e w' => e = .returned (.tuple #[.int .i64 (Q : Int), .int .i64 (R : Int), .bool true]) ∧ w' = w)
    (ho : ∀ w, Calls Tryd.prog 66 #[.int .i64 ((Q : Int) + U)] w fun e w' => e = .returned (out v code) ∧ Below w.heap.size w w') (w : World) :
    Calls Tryd.prog 23 #[.int .i64 a, .int .i64 b, .int .i64 c, .int .i64 mode] w fun e w' => e = .returned (out v code) ∧ Below w.heap.size w w' := by
  have a1 : (0 : Int) ≤ a := Int.natCast_nonneg _
  have b1 : (0 : Int) ≤ b := Int.natCast_nonneg _
  have e1 : wrap64 ((Q : Int) + 1) = (Q : Int) + 1 := w64 _ (by omega)
  have e2 : wrap64 ((c : Int) - R) = (c : Int) - R := w64 _ (by omega)
  have HQ := hid_intro hq
  have HO := hid_intro ho
  clear hq ho hR hQ
  rcases hk with ⟨rfl, rfl, h1⟩ | ⟨rfl, rfl, h1⟩ | ⟨rfl, rfl, h1, h2⟩ | ⟨rfl, rfl, h1, h2⟩ | ⟨rfl, rfl, h1⟩ | ⟨rfl, rfl⟩
  all_goals
    try rw [Int.add_zero] at HO
    go_enter Tryd.func23, Tryd.ntmps23
    go_wp2_with (first | (go_at_call 72; go_in) | (go_at_call 68; go_in) | (go_at_call 73; refine (HQ.out _).mono ?_; rintro e w1 ⟨rfl, rfl⟩) | (go_at_call 66; refine (HO.out _).mono ?_; rintro e w2 ⟨rfl, hb⟩; unfold out; obtain ⟨hc, hz⟩ := bcell hb))
    refine bodyPost_ret (v := out v code) (by simp [out, results, Tryd.results23, go_sem, hc]) rfl ⟨rfl, ?_⟩
    exact (((bel_alloc hb).setCell (by simp) _).setCell (by simp) _).setCell (by simp) _
theorem spec_tp (a b c : Nat) (mode : Int) (ha : a ≤ 1000000000000000) (hb : b ≤ 1000000000000000) (hc : 1 ≤ c) (hc2 : c ≤ 1000000000000000) (hm : 0 ≤ mode ∧ mode ≤ 2) (hQ : a * b / c ≤ 1000000000000000) (v code : Int)
    (ho : ∀ w, Calls Tryd.prog 66 #[.int .i64 (pq a b c mode)] w fun e w' => e = .returned (out v code) ∧ Below w.heap.size w w') (w : World) :
    Calls Tryd.prog 23 #[.int .i64 a, .int .i64 b, .int .i64 c, .int .i64 mode] w fun e w' => e = .returned (out v code) ∧ Below w.heap.size w w' := by
  have hR := Nat.mod_lt (a * b) hc
  exact spec_tp_inner a b c (a * b / c) (a * b % c) mode (up ((a * b % c : Nat) : Int) c mode) v code (by omega) (by omega) (by omega) (by omega) hR hQ (up_key _ _ mode (by omega) (Int.natCast_nonneg _) hm)
    (fun w => (l02Mul_any a b c ha hb hc hc2 w).mono fun e w' ⟨h1, h2⟩ => ⟨by rcases h1 with h | h; exact h.2; exact absurd hQ h.1, h2⟩) ho w
/-- Both sides hand back the same. -/
theorem tp_both (a b c mode : Int) : ∃ n code : Int, (∀ w, Laid w → Calls Tryd.prog 19 #[.int .i64 a, .int .i64 b, .int .i64 c, .int .i64 mode] w fun e w' => e = .returned (out n code) ∧ Below w.heap.size w w') ∧ (∀ w, Calls Tryd.prog 23 #[.int .i64 a, .int .i64 b, .int .i64 c, .int .i64 mode] w fun e w' => e = .returned (out n code) ∧ Below w.heap.size w w') := by
  by_cases h : tpBad a b c mode
  · exact ⟨0, 1, fun w _ => impl_timesparts_bad a b c mode h w, fun w => spec_timesparts_bad a b c mode h w⟩
  · unfold tpBad at h
    obtain ⟨a, rfl⟩ : ∃ n : Nat, a = n := ⟨a.toNat, by omega⟩
    obtain ⟨b, rfl⟩ : ∃ n : Nat, b = n := ⟨b.toNat, by omega⟩
    obtain ⟨c, rfl⟩ : ∃ n : Nat, c = n := ⟨c.toNat, by omega⟩
    have ha : a ≤ 1000000000000000 := by omega
    have hb : b ≤ 1000000000000000 := by omega
    have hc : 1 ≤ c := by omega
    have hc2 : c ≤ 1000000000000000 := by omega
    have hm : 0 ≤ mode ∧ mode ≤ 2 := by omega
    clear h
    by_cases hQ : a * b / c ≤ 1000000000000000
    · by_cases hv : In (pq a b c mode)
      · exact ⟨_, 0, fun w hL => impl_timesparts_ok a b c mode ha hb hc hc2 hm hQ hv w hL, fun w => spec_tp a b c mode ha hb hc hc2 hm hQ _ _ (outS_in _ hv) w⟩
      · exact ⟨0, 12, fun w hL => impl_timesparts_over a b c mode ha hb hc hc2 hm hv w hL, fun w => spec_tp a b c mode ha hb hc hc2 hm hQ _ _ (outS_over _ hv) w⟩
    · have hv : ¬ In (pq a b c mode) := by
        intro h
        obtain ⟨u0, u1⟩ := up_bd ((a * b % c : Nat) : Int) c mode
        unfold In pq at h
        generalize a * b / c = Q at *
        omega
      exact ⟨0, 12, fun w hL => impl_timesparts_over a b c mode ha hb hc hc2 hm hv w hL, fun w => spec_tp_over a b c mode ha hb hc hc2 hm hQ w⟩
end FixR
end Go.Proofs.YtaihfidbpkbnkaaDoor
