/-
  Which of two parts is more: the program holds the cross products against each other, the model goes down by quotients; both say the same. No condition.
-/
import Derived.Test.YtgppggiblkcpnaaMul64
import Derived.Test.YtgppggiblkcpnaaFixMath
import Derived.LoopN
namespace Go.Proofs.Ytgppggiblkcpnaa
open Go.ChangeShapes Go.WideShapes Go.ChangeAt Go.RowKit
set_option linter.unusedVariables false
namespace RatR
theorem hid_intro {p : Prop} (h : p) : Hid p := h
theorem w64q (x : Int) (h : -9223372036854775808 ≤ x ∧ x ≤ 9223372036854775807) : wrap64 x = x := by unfold wrap64; omega
/-- One word held against another. -/
def cmpN (x y : Nat) : Int := if x < y then -1 else if y < x then 1 else 0
theorem compare_any (x y : Nat) (w : World) :
    Calls Try.prog 19 #[.int .u64 x, .int .u64 y] w fun e w' => e = .returned (.int .i64 (cmpN x y)) ∧ w' = w := by
  unfold cmpN
  by_cases h1 : x < y
  · rw [if_pos h1]
    have h1' : (x : Int) < y := by omega
    clear h1
    go_enter Try.func19, Try.ntmps19
    go_wp2
    go_ret
    exact ⟨rfl, rfl⟩
  · rw [if_neg h1]
    have h1' : ¬ (x : Int) < y := by omega
    by_cases h2 : y < x
    · rw [if_pos h2]
      have h2' : (y : Int) < x := by omega
      clear h1 h2
      go_enter Try.func19, Try.ntmps19
      go_wp2
      go_ret
      exact ⟨rfl, rfl⟩
    · rw [if_neg h2]
      have h2' : ¬ (y : Int) < x := by omega
      clear h1 h2
      go_enter Try.func19, Try.ntmps19
      go_wp2
      go_ret
      exact ⟨rfl, rfl⟩
theorem or_any (g : Nat) (x y : Int) (w : World) (h0 : w.cell? ⟨g, 0, none⟩ = some (.int .i64 x)) (h1 : w.cell? ⟨g, 1, none⟩ = some (.int .i64 y)) :
    Calls Try.prog 18 #[.slice (some ⟨g, 0, none⟩) 2 2] w fun e w' => e = .returned (.int .i64 (if x = 0 then y else x)) ∧ w' = w := by
  by_cases hx : x = 0
  · rw [if_pos hx]
    subst hx
    by_cases hy : y = 0
    · subst hy
      go_enter Try.func18, Try.ntmps18
      go_wp2
      refine wp_loop_rounds 3 ?_
      rw [rounds_succ]; go_wp2
      rw [rounds_succ]; go_wp2
      rw [rounds_succ]; go_wp2
      go_ret
      exact ⟨rfl, rfl⟩
    · have hy' : (y != 0) = true := by simpa using hy
      go_enter Try.func18, Try.ntmps18
      go_wp2
      refine wp_loop_rounds 2 ?_
      rw [rounds_succ]; go_wp2
      rw [rounds_succ]; go_wp2
      go_ret
      exact ⟨rfl, rfl⟩
  · rw [if_neg hx]
    have hx' : (x != 0) = true := by simpa using hx
    go_enter Try.func18, Try.ntmps18
    go_wp2
    refine wp_loop_rounds 1 ?_
    rw [rounds_succ]; go_wp2
    go_ret
    exact ⟨rfl, rfl⟩
theorem cmp_lt {x y : Nat} (h : x < y) : cmpN x y = -1 := by unfold cmpN; rw [if_pos h]
theorem cmp_gt {x y : Nat} (h : y < x) : cmpN x y = 1 := by unfold cmpN; rw [if_neg (by omega), if_pos h]
theorem cmp_eq (x : Nat) : cmpN x x = 0 := by unfold cmpN; rw [if_neg (by omega), if_neg (by omega)]
theorem cmp_words (X Y : Nat) : (if cmpN (X / 18446744073709551616) (Y / 18446744073709551616) = 0 then cmpN (X % 18446744073709551616) (Y % 18446744073709551616) else cmpN (X / 18446744073709551616) (Y / 18446744073709551616)) = cmpN X Y := by
  rcases Nat.lt_trichotomy (X / 18446744073709551616) (Y / 18446744073709551616) with h | h | h
  · rw [cmp_lt h, if_neg (by omega), cmp_lt (by omega)]
  · rw [h, cmp_eq, if_pos rfl]
    rcases Nat.lt_trichotomy (X % 18446744073709551616) (Y % 18446744073709551616) with k | k | k
    · rw [cmp_lt k, cmp_lt (by omega)]
    · have : X = Y := by omega
      rw [this, cmp_eq, cmp_eq]
    · rw [cmp_gt k, cmp_gt (by omega)]
  · rw [cmp_gt h, if_neg (by omega), cmp_gt (by omega)]
theorem cmp_bd (x y : Nat) : -1 ≤ cmpN x y ∧ cmpN x y ≤ 1 := by unfold cmpN; split <;> (try split) <;> omega
def ratBad (a b c d : Int) : Prop := a < 0 ∨ 1000000000000000 < a ∨ b < 1 ∨ 1000000000000000 < b ∨ c < 0 ∨ 1000000000000000 < c ∨ d < 1 ∨ 1000000000000000 < d
set_option maxHeartbeats 4000000 in
theorem impl_ratio_bad (a b c d : Int) (h : ratBad a b c d) (w : World) :
    Calls Try.prog 5 #[.int .i64 a, .int .i64 b, .int .i64 c, .int .i64 d] w fun e w' => e = .returned (.int .i64 0) ∧ w' = w := by
  unfold ratBad at h
  have key : (¬ 0 ≤ a) ∨ (0 ≤ a ∧ ¬ a ≤ 1000000000000000) ∨ (0 ≤ a ∧ a ≤ 1000000000000000 ∧ ((¬ 1 ≤ b) ∨ (1 ≤ b ∧ ¬ b ≤ 1000000000000000) ∨ (1 ≤ b ∧ b ≤ 1000000000000000 ∧ ((¬ 0 ≤ c) ∨ (0 ≤ c ∧ ¬ c ≤ 1000000000000000) ∨ (0 ≤ c ∧ c ≤ 1000000000000000 ∧ ((¬ 1 ≤ d) ∨ (1 ≤ d ∧ ¬ d ≤ 1000000000000000))))))) := by omega
  clear h
  rcases key with h1 | ⟨h1, h2⟩ | ⟨h1, h2, h3 | ⟨h3, h4⟩ | ⟨h3, h4, h5 | ⟨h5, h6⟩ | ⟨h5, h6, h7 | ⟨h7, h8⟩⟩⟩⟩
  all_goals
    go_enter Try.func5, Try.ntmps5
    go_wp2
    go_ret
    exact ⟨rfl, rfl⟩
set_option maxHeartbeats 4000000 in
theorem spec_ratio_bad (a b c d : Int) (h : ratBad a b c d) (w : World) :
    Calls Try.prog 8 #[.int .i64 a, .int .i64 b, .int .i64 c, .int .i64 d] w fun e w' => e = .returned (.int .i64 0) ∧ w' = w := by
  unfold ratBad at h
  have key : (¬ 0 ≤ a) ∨ (0 ≤ a ∧ ¬ a ≤ 1000000000000000) ∨ (0 ≤ a ∧ a ≤ 1000000000000000 ∧ ((¬ 0 ≤ c) ∨ (0 ≤ c ∧ ¬ c ≤ 1000000000000000) ∨ (0 ≤ c ∧ c ≤ 1000000000000000 ∧ ((¬ 1 ≤ b) ∨ (1 ≤ b ∧ ¬ b ≤ 1000000000000000) ∨ (1 ≤ b ∧ b ≤ 1000000000000000 ∧ ((¬ 1 ≤ d) ∨ (1 ≤ d ∧ ¬ d ≤ 1000000000000000))))))) := by omega
  clear h
  rcases key with h1 | ⟨h1, h2⟩ | ⟨h1, h2, h3 | ⟨h3, h4⟩ | ⟨h3, h4, h5 | ⟨h5, h6⟩ | ⟨h5, h6, h7 | ⟨h7, h8⟩⟩⟩⟩
  all_goals
    go_enter Try.func8, Try.ntmps8
    go_wp2
    go_ret
    exact ⟨rfl, rfl⟩
set_option maxRecDepth 100000 in
set_option maxHeartbeats 4000000 in
theorem impl_inner (a b c d X1 X0 Y1 Y0 : Nat) (r1 r0 r : Int) (k1 : IntKind.u64.wrap (a : Int) = a) (k2 : IntKind.u64.wrap (b : Int) = b) (k3 : IntKind.u64.wrap (c : Int) = c) (k4 : IntKind.u64.wrap (d : Int) = d)
    (m1 : ∀ w, Calls Try.prog 17 #[.int .u64 a, .int .u64 d] w fun e w' => e = .returned (.tuple #[.int .u64 (X1 : Int), .int .u64 (X0 : Int)]) ∧ w' = w)
    (m2 : ∀ w, Calls Try.prog 17 #[.int .u64 c, .int .u64 b] w fun e w' => e = .returned (.tuple #[.int .u64 (Y1 : Int), .int .u64 (Y0 : Int)]) ∧ w' = w)
    (q1 : ∀ w, Calls Try.prog 19 #[.int .u64 X1, .int .u64 Y1] w fun e w' => e = .returned (.int .i64 r1) ∧ w' = w)
    (q0 : ∀ w, Calls Try.prog 19 #[.int .u64 X0, .int .u64 Y0] w fun e w' => e = .returned (.int .i64 r0) ∧ w' = w)
    (ho : ∀ (g : Nat) (w : World), w.cell? ⟨g, 0, none⟩ = some (.int .i64 r1) → w.cell? ⟨g, 1, none⟩ = some (.int .i64 r0) → Calls Try.prog 18 #[.slice (some ⟨g, 0, none⟩) 2 2] w fun e w' => e = .returned (.int .i64 r) ∧ w' = w)
    (e1 : wrap64 r = r) (a1 : (0 : Int) ≤ a) (a2 : (a : Int) ≤ 1000000000000000) (b1 : (1 : Int) ≤ b) (b2 : (b : Int) ≤ 1000000000000000) (c1 : (0 : Int) ≤ c) (c2 : (c : Int) ≤ 1000000000000000) (d1 : (1 : Int) ≤ d) (d2 : (d : Int) ≤ 1000000000000000) (w : World) :
    Calls Try.prog 5 #[.int .i64 a, .int .i64 b, .int .i64 c, .int .i64 d] w fun e w' => e = .returned (.int .i64 r) ∧ Below w.heap.size w w' := by
  have M1 := hid_intro m1
  have M2 := hid_intro m2
  have Q1 := hid_intro q1
  have Q0 := hid_intro q0
  have HO := hid_intro ho
  clear m1 m2 q1 q0 ho
  go_enter Try.func5, Try.ntmps5
  go_wp2_with (go_at_call 16; go_in)
  refine (M1.out _).mono ?_
  rintro e w1 ⟨rfl, rfl⟩
  go_wp2_with fail
  refine (M2.out _).mono ?_
  rintro e w2 ⟨rfl, rfl⟩
  go_wp2_with fail
  refine (Q1.out _).mono ?_
  rintro e w3 ⟨rfl, rfl⟩
  go_wp2_with fail
  refine (Q0.out _).mono ?_
  rintro e w4 ⟨rfl, rfl⟩
  go_wp2_with fail
  refine (HO.out _ _ (by simp [go_sem]) (by simp [go_sem])).mono ?_
  rintro e w5 ⟨rfl, rfl⟩
  go_wp2
  go_ret
  refine ⟨ret_int (by first | rfl | exact e1), ?_⟩
  repeat' first | exact Below.refl _ _ | apply Below.setCell | apply Below.alloc
  all_goals first | omega | (simp; done) | (simp; omega)
theorem pick_bd (r1 r0 : Int) (h1 : -1 ≤ r1 ∧ r1 ≤ 1) (h0 : -1 ≤ r0 ∧ r0 ≤ 1) : wrap64 (if r1 = 0 then r0 else r1) = (if r1 = 0 then r0 else r1) := w64q _ (by split <;> omega)
theorem impl_ratio (a b c d : Nat) (ha : a ≤ 1000000000000000) (hb : 1 ≤ b ∧ b ≤ 1000000000000000) (hc : c ≤ 1000000000000000) (hd : 1 ≤ d ∧ d ≤ 1000000000000000) (w : World) :
    Calls Try.prog 5 #[.int .i64 a, .int .i64 b, .int .i64 c, .int .i64 d] w fun e w' => e = .returned (.int .i64 (cmpN (a * d) (c * b))) ∧ Below w.heap.size w w' := by
  rw [← cmp_words]
  exact impl_inner a b c d _ _ _ _ _ _ _ (MulR.keep a (by omega)) (MulR.keep b (by omega)) (MulR.keep c (by omega)) (MulR.keep d (by omega)) (fun w => MulR.mul_any a d (by omega) (by omega) w) (fun w => MulR.mul_any c b (by omega) (by omega) w) (fun w => compare_any _ _ w) (fun w => compare_any _ _ w) (fun g w h0 h1 => or_any g _ _ w h0 h1)
    (pick_bd _ _ (cmp_bd _ _) (cmp_bd _ _)) (by omega) (by omega) (by omega) (by omega) (by omega) (by omega) (by omega) (by omega) w
end RatR
end Go.Proofs.Ytgppggiblkcpnaa
