/-
  A product in parts, rounded: what the program reckons, or that it runs over. The condition: the program's own error stands in its variable.
-/
import Derived.Test.YtaihfidbpkbnkaaDoorProdQ
namespace Go.Proofs.YtaihfidbpkbnkaaDoor
open Go.ChangeShapes Go.WideShapes Go.ChangeAt Go.RowKit
set_option linter.unusedVariables false
namespace FixR
theorem heldu_in (n low high : Int) (h : low ≤ n ∧ n ≤ high) (w : World) :
    Calls Tryd.prog 97 #[.int .u64 n, .int .u64 low, .int .u64 high] w fun e w' => e = .returned (.int .u64 n) ∧ w' = w := by
  obtain ⟨h1, h2⟩ := h
  go_enter Tryd.func97, Tryd.ntmps97
  go_wp2
  go_ret
  exact ⟨rfl, rfl⟩
theorem heldu_out (n high : Int) (h0 : 0 ≤ n) (h : high < n) (w : World) (hL : Laid w) :
    Calls Tryd.prog 97 #[.int .u64 n, .int .u64 0, .int .u64 high] w fun e w' => Thrown e ∧ w' = w := by
  obtain ⟨hp, u, x, hc⟩ := hL
  have h2 : ¬ n ≤ high := by omega
  go_enter Tryd.func97, Tryd.ntmps97
  go_wp2
  exact ⟨rfl, ⟨u, x, rfl⟩, rfl⟩
def pq (a b c : Nat) (mode : Int) : Int := ((a * b / c : Nat) : Int) + up ((a * b % c : Nat) : Int) c mode
theorem two_words (X : Nat) : X / 18446744073709551616 * 18446744073709551616 + X % 18446744073709551616 = X := Nat.div_add_mod' X _
set_option maxRecDepth 100000 in
set_option maxHeartbeats 4000000 in
theorem pq_in (a b c X1 X0 Q R : Nat) (mode U : Int) (k1 : IntKind.u64.wrap (a : Int) = a) (k2 : IntKind.u64.wrap (b : Int) = b) (k3 : IntKind.u64.wrap (c : Int) = c) (k4 : IntKind.u64.wrap ((c : Int) - 1) = ((c - 1 : Nat) : Int)) (k5 : wrap64 (Q : Int) = Q) (k6 : wrap64 (R : Int) = R) (k7 : wrap64 ((Q : Int) + U) = (Q : Int) + U)
    (m1 : ∀ w, Calls Tryd.prog 96 #[.int .u64 a, .int .u64 b] w fun e w' => e = .returned (.tuple #[.int .u64 (X1 : Int), .int .u64 (X0 : Int)]) ∧ w' = w)
    (h1 : ∀ w, Calls Tryd.prog 97 #[.int .u64 X1, .int .u64 0, .int .u64 ((c - 1 : Nat) : Int)] w fun e w' => e = .returned (.int .u64 X1) ∧ w' = w)
    (d1 : ∀ w, Calls Tryd.prog 98 #[.int .u64 X1, .int .u64 X0, .int .u64 c] w fun e w' => e = .returned (.tuple #[.int .u64 (Q : Int), .int .u64 (R : Int)]) ∧ Below w.heap.size w w')
    (h2 : ∀ w, Calls Tryd.prog 97 #[.int .u64 Q, .int .u64 0, .int .u64 1000000000000000] w fun e w' => e = .returned (.int .u64 Q) ∧ w' = w)
    (r1 : ∀ w, Calls Tryd.prog 95 #[.int .i64 R, .int .i64 c, .int .i64 mode] w fun e w' => e = .returned (.int .i64 U) ∧ w' = w) (w : World) :
    Calls Tryd.prog 71 #[.int .i64 a, .int .i64 b, .int .i64 c, .int .i64 mode] w fun e w' => e = .returned (.int .i64 ((Q : Int) + U)) ∧ Below w.heap.size w w' := by
  have M1 := hid_intro m1
  have H1 := hid_intro h1
  have D1 := hid_intro d1
  have H2 := hid_intro h2
  have R1 := hid_intro r1
  clear m1 h1 d1 h2 r1
  go_enter Tryd.func71, Tryd.ntmps71
  go_wp2_with fail
  refine (M1.out _).mono ?_
  rintro e w1 ⟨rfl, rfl⟩
  go_wp2_with fail
  refine (H1.out _).mono ?_
  rintro e w2 ⟨rfl, rfl⟩
  go_wp2_with fail
  refine (D1.out _).mono ?_
  rintro e w3 ⟨rfl, hb⟩
  have HB := hid_intro hb
  clear hb
  go_wp2_with fail
  refine (H2.out _).mono ?_
  rintro e w4 ⟨rfl, rfl⟩
  go_wp2_with fail
  refine (R1.out _).mono ?_
  rintro e w5 ⟨rfl, rfl⟩
  go_wp2
  go_ret
  exact ⟨ret_int (by first | rfl | exact k7), HB.out⟩
set_option maxRecDepth 100000 in
set_option maxHeartbeats 4000000 in
theorem pq_high (a b c X1 X0 : Nat) (mode : Int) (w : World) (k1 : IntKind.u64.wrap (a : Int) = a) (k2 : IntKind.u64.wrap (b : Int) = b) (k3 : IntKind.u64.wrap (c : Int) = c) (k4 : IntKind.u64.wrap ((c : Int) - 1) = ((c - 1 : Nat) : Int))
    (m1 : ∀ w, Calls Tryd.prog 96 #[.int .u64 a, .int .u64 b] w fun e w' => e = .returned (.tuple #[.int .u64 (X1 : Int), .int .u64 (X0 : Int)]) ∧ w' = w)
    (h1 : Calls Tryd.prog 97 #[.int .u64 X1, .int .u64 0, .int .u64 ((c - 1 : Nat) : Int)] w fun e w' => Thrown e ∧ w' = w) :
    Calls Tryd.prog 71 #[.int .i64 a, .int .i64 b, .int .i64 c, .int .i64 mode] w fun e w' => Thrown e ∧ Below w.heap.size w w' := by
  have M1 := hid_intro m1
  have H1 := hid_intro h1
  clear m1 h1
  go_enter Tryd.func71, Tryd.ntmps71
  go_wp2_with fail
  refine (M1.out _).mono ?_
  rintro e w1 ⟨rfl, rfl⟩
  go_wp2_with fail
  refine H1.out.mono ?_
  rintro e w2 ⟨⟨u, x, rfl⟩, rfl⟩
  go_wp2
  exact ⟨rfl, ⟨u, x, rfl⟩, Below.refl _ _⟩
set_option maxRecDepth 100000 in
set_option maxHeartbeats 4000000 in
theorem pq_down (a b c X1 X0 Q R : Nat) (mode : Int) (k1 : IntKind.u64.wrap (a : Int) = a) (k2 : IntKind.u64.wrap (b : Int) = b) (k3 : IntKind.u64.wrap (c : Int) = c) (k4 : IntKind.u64.wrap ((c : Int) - 1) = ((c - 1 : Nat) : Int))
    (m1 : ∀ w, Calls Tryd.prog 96 #[.int .u64 a, .int .u64 b] w fun e w' => e = .returned (.tuple #[.int .u64 (X1 : Int), .int .u64 (X0 : Int)]) ∧ w' = w)
    (h1 : ∀ w, Calls Tryd.prog 97 #[.int .u64 X1, .int .u64 0, .int .u64 ((c - 1 : Nat) : Int)] w fun e w' => e = .returned (.int .u64 X1) ∧ w' = w)
    (d1 : ∀ w, Calls Tryd.prog 98 #[.int .u64 X1, .int .u64 X0, .int .u64 c] w fun e w' => e = .returned (.tuple #[.int .u64 (Q : Int), .int .u64 (R : Int)]) ∧ Below w.heap.size w w')
    (h2 : ∀ w, Laid w → Calls Tryd.prog 97 #[.int .u64 Q, .int .u64 0, .int .u64 1000000000000000] w fun e w' => Thrown e ∧ w' = w) (w : World) (hL : Laid w) :
    Calls Tryd.prog 71 #[.int .i64 a, .int .i64 b, .int .i64 c, .int .i64 mode] w fun e w' => Thrown e ∧ Below w.heap.size w w' := by
  have M1 := hid_intro m1
  have H1 := hid_intro h1
  have D1 := hid_intro d1
  have H2 := hid_intro h2
  have HL := hid_intro hL
  clear m1 h1 d1 h2 hL
  go_enter Tryd.func71, Tryd.ntmps71
  go_wp2_with fail
  refine (M1.out _).mono ?_
  rintro e w1 ⟨rfl, rfl⟩
  go_wp2_with fail
  refine (H1.out _).mono ?_
  rintro e w2 ⟨rfl, rfl⟩
  go_wp2_with fail
  refine (D1.out _).mono ?_
  rintro e w3 ⟨rfl, hb⟩
  have HB := hid_intro hb
  clear hb
  go_wp2_with fail
  refine (H2.out _ (HL.out.below HB.out)).mono ?_
  rintro e w4 ⟨⟨u, x, rfl⟩, rfl⟩
  go_wp2
  exact ⟨rfl, ⟨u, x, rfl⟩, HB.out⟩
theorem small64 (n : Nat) (h : n ≤ 1000000000000000) : n < 18446744073709551616 := by omega
theorem less_one (c : Nat) (h : 1 ≤ c) (h2 : c ≤ 1000000000000000) : IntKind.u64.wrap ((c : Int) - 1) = ((c - 1 : Nat) : Int) := DivR.usub c 1 (c - 1) (by omega) (by omega)
theorem lo_lt (X : Nat) : X % 18446744073709551616 < 18446744073709551616 := Nat.mod_lt _ (by omega)
theorem hi_big (X c : Nat) (hc : 1 ≤ c) (h : ¬ X / 18446744073709551616 < c) : ¬ X / c ≤ 1000000000000000 := by
  intro hl
  have h1 : c * 18446744073709551616 ≤ X := (Nat.le_div_iff_mul_le (by omega)).1 (by omega)
  have h2 : 18446744073709551616 ≤ X / c := (Nat.le_div_iff_mul_le (by omega)).2 (by rw [Nat.mul_comm]; exact h1)
  omega
theorem hi_in (X c : Nat) (hc : 1 ≤ c) (h : X / c ≤ 1000000000000000) : X / 18446744073709551616 < c := Classical.byContradiction fun k => hi_big X c hc k h
theorem num_facts (Q R c : Nat) (U : Int) (hQ : Q ≤ 1000000000000000) (hR : R < c) (hc : c ≤ 1000000000000000) (u0 : 0 ≤ U) (u1 : U ≤ 1) : wrap64 (Q : Int) = Q ∧ wrap64 (R : Int) = R ∧ wrap64 ((Q : Int) + U) = (Q : Int) + U :=
  ⟨w64 _ (by omega), w64 _ (by omega), w64 _ (by omega)⟩
theorem pq_ok (a b c : Nat) (mode : Int) (ha : a ≤ 1000000000000000) (hb : b ≤ 1000000000000000) (hc : 1 ≤ c) (hc2 : c ≤ 1000000000000000) (hQ : a * b / c ≤ 1000000000000000) (w : World) :
    Calls Tryd.prog 71 #[.int .i64 a, .int .i64 b, .int .i64 c, .int .i64 mode] w fun e w' => e = .returned (.int .i64 (pq a b c mode)) ∧ Below w.heap.size w w' := by
  obtain ⟨u0, u1⟩ := up_bd ((a * b % c : Nat) : Int) c mode
  have hR := Nat.mod_lt (a * b) hc
  obtain ⟨n1, n2, n3⟩ := num_facts (a * b / c) (a * b % c) c _ hQ hR hc2 u0 u1
  have hh := hi_in (a * b) c hc hQ
  refine pq_in a b c (a * b / 18446744073709551616) (a * b % 18446744073709551616) (a * b / c) (a * b % c) mode _ (MulR.keep a (small64 a ha)) (MulR.keep b (small64 b hb)) (MulR.keep c (small64 c hc2)) (less_one c hc hc2) n1 n2 n3 (fun w => MulR.mul_any a b (small64 a ha) (small64 b hb) w) (fun w => heldu_in _ _ _ ⟨Int.natCast_nonneg _, by omega⟩ w) (fun w => ?_) (fun w => heldu_in _ _ _ ⟨Int.natCast_nonneg _, by omega⟩ w) (fun w => roundedUp_any _ _ mode ⟨Int.natCast_nonneg _, by omega⟩ (by omega) w) w
  have := DivR.div_any (a * b / 18446744073709551616) (a * b % 18446744073709551616) c (lo_lt _) hh (small64 c hc2) w
  rw [two_words] at this
  exact this
theorem pq_over (a b c : Nat) (mode : Int) (ha : a ≤ 1000000000000000) (hb : b ≤ 1000000000000000) (hc : 1 ≤ c) (hc2 : c ≤ 1000000000000000) (hQ : ¬ a * b / c ≤ 1000000000000000) (w : World) (hL : Laid w) :
    Calls Tryd.prog 71 #[.int .i64 a, .int .i64 b, .int .i64 c, .int .i64 mode] w fun e w' => Thrown e ∧ Below w.heap.size w w' := by
  by_cases hh : a * b / 18446744073709551616 < c
  · refine pq_down a b c (a * b / 18446744073709551616) (a * b % 18446744073709551616) (a * b / c) (a * b % c) mode (MulR.keep a (small64 a ha)) (MulR.keep b (small64 b hb)) (MulR.keep c (small64 c hc2)) (less_one c hc hc2) (fun w => MulR.mul_any a b (small64 a ha) (small64 b hb) w) (fun w => heldu_in _ _ _ ⟨Int.natCast_nonneg _, by omega⟩ w) (fun w => ?_) (fun w hL => heldu_out _ _ (Int.natCast_nonneg _) (by omega) w hL) w hL
    have := DivR.div_any (a * b / 18446744073709551616) (a * b % 18446744073709551616) c (lo_lt _) hh (small64 c hc2) w
    rw [two_words] at this
    exact this
  · exact pq_high a b c (a * b / 18446744073709551616) (a * b % 18446744073709551616) mode w (MulR.keep a (small64 a ha)) (MulR.keep b (small64 b hb)) (MulR.keep c (small64 c hc2)) (less_one c hc hc2) (fun w => MulR.mul_any a b (small64 a ha) (small64 b hb) w) (heldu_out _ _ (Int.natCast_nonneg _) (by omega) w hL)
end FixR
end Go.Proofs.YtaihfidbpkbnkaaDoor
