/-
  FnRatio: for all bytes the law's call returns true, and the bytes read as they did: which of two drawn parts is more does not ask for what both are multiplied by; turned round it is the other way; what is clamped lies in the bounds. No condition.
-/
import Derived.Test.YtgppggiblkcpnaaSome
import Derived.Test.YtgppggiblkcpnaaLwAt
import Derived.Test.YtgppggiblkcpnaaRatioS
import Derived.Test.YtgppggiblkcpnaaClamp
import Derived.ChangeOld
namespace Go.Proofs.Ytgppggiblkcpnaa
open Go.ChangeShapes Go.WideShapes Go.ChangeAt Go.RowKit
set_option linter.unusedVariables false
namespace FnRatioL
open DrawR
/-- What Ratio tells. -/
def ratV (a b c d : Int) : Int := if 0 ≤ a ∧ a ≤ 1000000000000000 ∧ 1 ≤ b ∧ b ≤ 1000000000000000 ∧ 0 ≤ c ∧ c ≤ 1000000000000000 ∧ 1 ≤ d ∧ d ≤ 1000000000000000 then RatR.cmpN (a.toNat * d.toNat) (c.toNat * b.toNat) else 0
theorem impl_any (a b c d : Int) (w : World) : Calls Try.prog 5 #[.int .i64 a, .int .i64 b, .int .i64 c, .int .i64 d] w fun e w' => e = .returned (.int .i64 (ratV a b c d)) ∧ Below w.heap.size w w' := by
  unfold ratV
  by_cases h : 0 ≤ a ∧ a ≤ 1000000000000000 ∧ 1 ≤ b ∧ b ≤ 1000000000000000 ∧ 0 ≤ c ∧ c ≤ 1000000000000000 ∧ 1 ≤ d ∧ d ≤ 1000000000000000
  · rw [if_pos h]
    obtain ⟨a', rfl⟩ : ∃ n : Nat, a = n := ⟨a.toNat, by omega⟩
    obtain ⟨b', rfl⟩ : ∃ n : Nat, b = n := ⟨b.toNat, by omega⟩
    obtain ⟨c', rfl⟩ : ∃ n : Nat, c = n := ⟨c.toNat, by omega⟩
    obtain ⟨d', rfl⟩ : ∃ n : Nat, d = n := ⟨d.toNat, by omega⟩
    exact RatR.impl_ratio a' b' c' d' (by omega) (by omega) (by omega) (by omega) w
  · rw [if_neg h]
    refine (RatR.impl_ratio_bad a b c d (by unfold RatR.ratBad; omega) w).mono ?_
    rintro e w' ⟨rfl, rfl⟩
    exact ⟨rfl, Below.refl _ _⟩
theorem spec_any (a b c d : Int) (w : World) : Calls Try.prog 8 #[.int .i64 a, .int .i64 b, .int .i64 c, .int .i64 d] w fun e w' => e = .returned (.int .i64 (ratV a b c d)) ∧ w' = w := by
  unfold ratV
  by_cases h : 0 ≤ a ∧ a ≤ 1000000000000000 ∧ 1 ≤ b ∧ b ≤ 1000000000000000 ∧ 0 ≤ c ∧ c ≤ 1000000000000000 ∧ 1 ≤ d ∧ d ≤ 1000000000000000
  · rw [if_pos h]
    obtain ⟨a', rfl⟩ : ∃ n : Nat, a = n := ⟨a.toNat, by omega⟩
    obtain ⟨b', rfl⟩ : ∃ n : Nat, b = n := ⟨b.toNat, by omega⟩
    obtain ⟨c', rfl⟩ : ∃ n : Nat, c = n := ⟨c.toNat, by omega⟩
    obtain ⟨d', rfl⟩ : ∃ n : Nat, d = n := ⟨d.toNat, by omega⟩
    exact RatR.spec_ratio a' b' c' d' (by omega) (by omega) (by omega) (by omega) w
  · rw [if_neg h]
    exact RatR.spec_ratio_bad a b c d (by unfold RatR.ratBad; omega) w
theorem cmp_turn (x y : Nat) : RatR.cmpN y x = - RatR.cmpN x y := by
  rcases Nat.lt_trichotomy x y with h | h | h
  · rw [RatR.cmp_lt h, RatR.cmp_gt h]; rfl
  · rw [h, RatR.cmp_eq]; rfl
  · rw [RatR.cmp_gt h, RatR.cmp_lt h]
theorem rat_turn (a b c d : Int) : ratV c d a b = - ratV a b c d := by
  unfold ratV
  by_cases h : 0 ≤ a ∧ a ≤ 1000000000000000 ∧ 1 ≤ b ∧ b ≤ 1000000000000000 ∧ 0 ≤ c ∧ c ≤ 1000000000000000 ∧ 1 ≤ d ∧ d ≤ 1000000000000000
  · rw [if_pos h, if_pos (by omega)]
    exact cmp_turn _ _
  · rw [if_neg h, if_neg (by omega)]; rfl
theorem rat_bd (a b c d : Int) : -1 ≤ ratV a b c d ∧ ratV a b c d ≤ 1 := by
  unfold ratV
  split
  · exact RatR.cmp_bd _ _
  · omega
theorem cmp_scale (x y k : Nat) (hk : 0 < k) : RatR.cmpN (x * k) (y * k) = RatR.cmpN x y := by
  rcases Nat.lt_trichotomy x y with h | h | h
  · rw [RatR.cmp_lt h, RatR.cmp_lt (Nat.mul_lt_mul_of_pos_right h hk)]
  · rw [h, RatR.cmp_eq, RatR.cmp_eq]
  · rw [RatR.cmp_gt h, RatR.cmp_gt (Nat.mul_lt_mul_of_pos_right h hk)]
theorem mulk_bd (a k : Int) (h : 0 ≤ a ∧ a ≤ 1000000) (hk : 1 ≤ k ∧ k ≤ 50) : a ≤ a * k ∧ a * k ≤ 50000000 := by
  constructor
  · have := Int.mul_le_mul_of_nonneg_left hk.1 h.1
    omega
  · have := Int.mul_le_mul h.2 hk.2 (by omega) (by omega)
    omega
theorem rat_scale (a b c d k : Int) (ha : 0 ≤ a ∧ a ≤ 1000000) (hb : 1 ≤ b ∧ b ≤ 1000000) (hk : 1 ≤ k ∧ k ≤ 50) : ratV (a * k) (b * k) c d = ratV a b c d := by
  have h1 := mulk_bd a k ha hk
  have h2 := mulk_bd b k ⟨by omega, hb.2⟩ hk
  unfold ratV
  by_cases h : 0 ≤ c ∧ c ≤ 1000000000000000 ∧ 1 ≤ d ∧ d ≤ 1000000000000000
  · rw [if_pos (by omega), if_pos (by omega)]
    obtain ⟨a', rfl⟩ : ∃ n : Nat, a = n := ⟨a.toNat, by omega⟩
    obtain ⟨b', rfl⟩ : ∃ n : Nat, b = n := ⟨b.toNat, by omega⟩
    obtain ⟨k', rfl⟩ : ∃ n : Nat, k = n := ⟨k.toNat, by omega⟩
    have e1 : ((a' : Int) * k').toNat = a' * k' := by rw [← Int.natCast_mul]; rfl
    have e2 : ((b' : Int) * k').toNat = b' * k' := by rw [← Int.natCast_mul]; rfl
    rw [e1, e2]
    show RatR.cmpN (a' * k' * d.toNat) (c.toNat * (b' * k')) = RatR.cmpN (a' * d.toNat) (c.toNat * b')
    rw [Nat.mul_right_comm a' k', ← Nat.mul_assoc c.toNat b' k']
    exact cmp_scale _ _ _ (by omega)
  · rw [if_neg (by omega), if_neg (by omega)]
theorem rat_small (a b c d : Int) (ha : 0 ≤ a ∧ a ≤ 1000000) (hb : 1 ≤ b ∧ b ≤ 1000000) (hc : 0 ≤ c ∧ c ≤ 1000000) (hd : 1 ≤ d ∧ d ≤ 1000000) : (ratV a b c d < 0 ↔ a * d < c * b) ∧ (ratV a b c d = 0 ↔ a * d = c * b) := by
  unfold ratV
  rw [if_pos (by omega)]
  obtain ⟨a', rfl⟩ : ∃ n : Nat, a = n := ⟨a.toNat, by omega⟩
  obtain ⟨b', rfl⟩ : ∃ n : Nat, b = n := ⟨b.toNat, by omega⟩
  obtain ⟨c', rfl⟩ : ∃ n : Nat, c = n := ⟨c.toNat, by omega⟩
  obtain ⟨d', rfl⟩ : ∃ n : Nat, d = n := ⟨d.toNat, by omega⟩
  show (RatR.cmpN (a' * d') (c' * b') < 0 ↔ _) ∧ (RatR.cmpN (a' * d') (c' * b') = 0 ↔ _)
  rw [← Int.natCast_mul, ← Int.natCast_mul]
  rcases Nat.lt_trichotomy (a' * d') (c' * b') with h | h | h
  · rw [RatR.cmp_lt h]; omega
  · rw [h, RatR.cmp_eq]; omega
  · rw [RatR.cmp_gt h]; omega
theorem prod_small (a d : Int) (ha : 0 ≤ a ∧ a ≤ 1000000) (hd : 0 ≤ d ∧ d ≤ 1000000) : wrap64 (a * d) = a * d := by
  have h1 := Int.mul_nonneg ha.1 hd.1
  have h2 := Int.mul_le_mul ha.2 hd.2 hd.1 (by omega)
  unfold wrap64; omega
theorem clamp_in (n low high : Int) (h : low ≤ high) : low ≤ ClampR.clamp n low high ∧ ClampR.clamp n low high ≤ high := by
  unfold ClampR.clamp; split <;> (try split) <;> omega
def rat (a b c d v : Int) : Prop := ∀ w, Calls Try.prog 5 #[.int .i64 a, .int .i64 b, .int .i64 c, .int .i64 d] w fun e w' => e = .returned (.int .i64 v) ∧ Below w.heap.size w w'
/-- What is known of the drawn parts. -/
structure Known (a b c d v : Int) : Prop where
  one : rat a b c d v
  two : ∀ w, Calls Try.prog 8 #[.int .i64 a, .int .i64 b, .int .i64 c, .int .i64 d] w fun e w' => e = .returned (.int .i64 v) ∧ w' = w
  turn : rat c d a b (-v)
  neg : wrap64 (-v) = -v
  scale : ∀ k, 0 ≤ a ∧ a ≤ 1000000 → 1 ≤ b ∧ b ≤ 1000000 → 1 ≤ k ∧ k ≤ 50 → rat (a * k) (b * k) c d v ∧ wrap64 (a * k) = a * k ∧ wrap64 (b * k) = b * k
  small : 0 ≤ a ∧ a ≤ 1000000 → 1 ≤ b ∧ b ≤ 1000000 → 0 ≤ c ∧ c ≤ 1000000 → 1 ≤ d ∧ d ≤ 1000000 → ∃ P Q : Int, wrap64 (a * d) = P ∧ wrap64 (c * b) = Q ∧ ((v < 0 ∧ P < Q ∧ (v == 0) = false ∧ (P == Q) = false) ∨ (¬ v < 0 ∧ ¬ P < Q ∧ (v == 0) = true ∧ (P == Q) = true) ∨ (¬ v < 0 ∧ ¬ P < Q ∧ (v == 0) = false ∧ (P == Q) = false))
theorem known (a b c d : Int) : Known a b c d (ratV a b c d) where
  one := fun w => impl_any a b c d w
  two := fun w => spec_any a b c d w
  turn := fun w => by rw [← rat_turn]; exact impl_any c d a b w
  neg := by have := rat_bd a b c d; unfold wrap64; omega
  scale := fun k ha hb hk => ⟨fun w => by rw [← rat_scale a b c d k ha hb hk]; exact impl_any _ _ _ _ w, by have := mulk_bd a k ha hk; unfold wrap64; omega, by have := mulk_bd b k ⟨by omega, hb.2⟩ hk; unfold wrap64; omega⟩
  small := fun ha hb hc hd => by
    have h := rat_small a b c d ha hb hc hd
    refine ⟨_, _, prod_small a d ha ⟨by omega, hd.2⟩, prod_small c b hc ⟨by omega, hb.2⟩, ?_⟩
    generalize ratV a b c d = v at *
    generalize a * d = P at *
    generalize c * b = Q at *
    simp only [beq_iff_eq, beq_eq_false_iff_ne, ne_eq]
    omega
def tail (a b c d : Int) : Prop := (¬ 0 ≤ a) ∨ (0 ≤ a ∧ ¬ a ≤ 1000000) ∨ (0 ≤ a ∧ a ≤ 1000000 ∧ ((¬ 1 ≤ b) ∨ (1 ≤ b ∧ ¬ b ≤ 1000000) ∨ (1 ≤ b ∧ b ≤ 1000000 ∧ ((¬ 0 ≤ c) ∨ (0 ≤ c ∧ ¬ c ≤ 1000000) ∨ (0 ≤ c ∧ c ≤ 1000000 ∧ ((¬ 1 ≤ d) ∨ (1 ≤ d ∧ ¬ d ≤ 1000000) ∨ (1 ≤ d ∧ d ≤ 1000000)))))))
theorem tail_any (a b c d : Int) : tail a b c d := by unfold tail; omega
theorem k_facts (k : Int) (h0 : 0 ≤ k) (h1 : k < 50) : ∃ k', wrap64 (1 + k) = k' ∧ 1 ≤ k' ∧ k' ≤ 50 := ⟨1 + k, by unfold wrap64; omega, by omega, by omega⟩
set_option maxRecDepth 100000 in
set_option maxHeartbeats 8000000 in
theorem law_in (ac am : Option Addr) (lc cc lm cm : Nat) (w : World) (hc : lc ≤ 1048576) (hm : lm ≤ 1048576) (hBc : Bytes ac lc w) (hBm : Bytes am lm w) :
    Calls Try.prog 3 #[.slice ac lc cc, .slice am lm cm] w fun e w' => e = .returned (.bool true) ∧ Below w.heap.size w w' := by
  have HM := hid_intro hBm
  have H1 := hid_intro (dratio_any ac lc cc w hc hBc)
  have HL := hid_intro hm
  have hc2 : ¬ (1048576 : Int) < (lc : Int) := by omega
  have hm2 : ¬ (1048576 : Int) < (lm : Int) := by omega
  clear hBc hBm hc hm
  go_enter Try.func3, Try.ntmps3
  go_wp2_with fail
  refine H1.out.mono ?_
  rintro e w1 ⟨⟨a, b, c, d, rfl, _, _, _, _⟩, hb1⟩
  have HB1 := hid_intro hb1
  obtain ⟨v, hv⟩ : ∃ v, v = ratV a b c d := ⟨_, rfl⟩
  have HK : Hid (Known a b c d v) := hid_intro (by rw [hv]; exact known a b c d)
  have HT := hid_intro (tail_any a b c d)
  clear hv hb1 H1
  go_wp2_with fail
  refine (HK.out.one _).mono ?_
  rintro e w2 ⟨rfl, hb2⟩
  have HB2 := hid_intro (HB1.out.trans (hb2.mono HB1.out.size))
  clear hb2 HB1
  go_wp2_with fail
  refine (dclamp_any am lm cm _ HL.out (HM.out.below HB2.out)).mono ?_
  rintro e w3 ⟨⟨n, low, high, rfl, _, _, _⟩, hb3⟩
  have HB3 := hid_intro (HB2.out.trans (hb3.mono HB2.out.size))
  obtain ⟨y, hy⟩ : ∃ y, y = ClampR.clamp n low high := ⟨_, rfl⟩
  have HY1 : Hid (∀ w, Calls Try.prog 7 #[.int .i64 n, .int .i64 low, .int .i64 high] w fun e w' => e = .returned (.int .i64 y) ∧ w' = w) := hid_intro (by rw [hy]; exact ClampR.impl_any n low high)
  have HY2 : Hid (∀ w, Calls Try.prog 9 #[.int .i64 n, .int .i64 low, .int .i64 high] w fun e w' => e = .returned (.int .i64 y) ∧ w' = w) := hid_intro (by rw [hy]; exact ClampR.spec_any n low high)
  have HY3 : Hid (low ≤ high → low ≤ y ∧ y ≤ high) := hid_intro (by rw [hy]; exact clamp_in n low high)
  clear hb3 HB2 hy
  go_wp2_with fail
  refine (HY1.out _).mono ?_
  rintro e w4 ⟨rfl, rfl⟩
  go_wp2_with fail
  refine (HK.out.two _).mono ?_
  rintro e w5 ⟨rfl, rfl⟩
  go_wp2_with fail
  refine (HY2.out _).mono ?_
  rintro e w6 ⟨rfl, rfl⟩
  go_wp2_with fail
  refine (HK.out.turn _).mono ?_
  rintro e w7 ⟨rfl, hb7⟩
  have HB7 := hid_intro (HB3.out.trans (hb7.mono HB3.out.size))
  have ev := HK.out.neg
  clear hb7 HB3
  by_cases hlh : low ≤ high
  · obtain ⟨y1, y2⟩ := HY3.out hlh
    clear HY1 HY2 HY3
    go_wp2_with (go_at_call 10; go_in)
    refine (lwAt_any am lm cm 0 50 _ HL.out (by omega) (HM.out.below HB7.out)).mono ?_
    rintro e w8 ⟨⟨k0, rfl, hk0, hk1⟩, rfl⟩
    obtain ⟨k, ek, hk2, hk3⟩ := k_facts k0 hk0 (hk1 (by omega))
    have HKK := hid_intro (And.intro hk2 hk3)
    clear hk0 hk1 hk2 hk3 hlh
    have ht := HT.out
    unfold tail at ht
    rcases ht with h1 | ⟨h1, h2⟩ | ⟨h1, h2, h3 | ⟨h3, h4⟩ | ⟨h3, h4, h5⟩⟩
    iterate 4
      · go_wp2_with (go_at_call 10; go_in)
        go_ret
        exact ⟨rfl, HB7.out⟩
    obtain ⟨hr, e5, e6⟩ := HK.out.scale k ⟨h1, h2⟩ ⟨h3, h4⟩ HKK.out
    have HR := hid_intro hr
    clear hr
    go_wp2_with (go_at_call 10; go_in)
    refine (HR.out _).mono ?_
    rintro e w9 ⟨rfl, hb9⟩
    have HB9 := hid_intro (HB7.out.trans (hb9.mono HB7.out.size))
    clear hb9
    rcases h5 with h5 | ⟨h5, h6⟩ | ⟨h5, h6, h7 | ⟨h7, h8⟩ | ⟨h7, h8⟩⟩
    iterate 4
      · go_wp2_with (go_at_call 10; go_in)
        go_ret
        exact ⟨rfl, HB9.out⟩
    obtain ⟨P, Q, e7, e8, hs⟩ := HK.out.small ⟨h1, h2⟩ ⟨h3, h4⟩ ⟨h5, h6⟩ ⟨h7, h8⟩
    rcases hs with ⟨q1, q2, q3, q4⟩ | ⟨q1, q2, q3, q4⟩ | ⟨q1, q2, q3, q4⟩
    all_goals
      go_wp2_with (go_at_call 10; go_in)
      go_ret
      exact ⟨rfl, HB9.out⟩
  · clear HY1 HY2 HY3
    go_wp2_with (go_at_call 10; go_in)
    refine (lwAt_any am lm cm 0 50 _ HL.out (by omega) (HM.out.below HB7.out)).mono ?_
    rintro e w8 ⟨⟨k0, rfl, hk0, hk1⟩, rfl⟩
    obtain ⟨k, ek, hk2, hk3⟩ := k_facts k0 hk0 (hk1 (by omega))
    have HKK := hid_intro (And.intro hk2 hk3)
    clear hk0 hk1 hk2 hk3 hlh
    have ht := HT.out
    unfold tail at ht
    rcases ht with h1 | ⟨h1, h2⟩ | ⟨h1, h2, h3 | ⟨h3, h4⟩ | ⟨h3, h4, h5⟩⟩
    iterate 4
      · go_wp2_with (go_at_call 10; go_in)
        go_ret
        exact ⟨rfl, HB7.out⟩
    obtain ⟨hr, e5, e6⟩ := HK.out.scale k ⟨h1, h2⟩ ⟨h3, h4⟩ HKK.out
    have HR := hid_intro hr
    clear hr
    go_wp2_with (go_at_call 10; go_in)
    refine (HR.out _).mono ?_
    rintro e w9 ⟨rfl, hb9⟩
    have HB9 := hid_intro (HB7.out.trans (hb9.mono HB7.out.size))
    clear hb9
    rcases h5 with h5 | ⟨h5, h6⟩ | ⟨h5, h6, h7 | ⟨h7, h8⟩ | ⟨h7, h8⟩⟩
    iterate 4
      · go_wp2_with (go_at_call 10; go_in)
        go_ret
        exact ⟨rfl, HB9.out⟩
    obtain ⟨P, Q, e7, e8, hs⟩ := HK.out.small ⟨h1, h2⟩ ⟨h3, h4⟩ ⟨h5, h6⟩ ⟨h7, h8⟩
    rcases hs with ⟨q1, q2, q3, q4⟩ | ⟨q1, q2, q3, q4⟩ | ⟨q1, q2, q3, q4⟩
    all_goals
      go_wp2_with (go_at_call 10; go_in)
      go_ret
      exact ⟨rfl, HB9.out⟩
theorem walk (a0 : Option Addr) (len0 cap0 : Nat) (z0 : List Int) (a1 : Option Addr) (len1 cap1 : Nat) (z1 : List Int) (w : World) (w0 : IsRow .u8 w a0 len0 cap0 z0) (w1 : IsRow .u8 w a1 len1 cap1 z1) :
    Calls Try.prog 3 #[.slice a0 len0 cap0, .slice a1 len1 cap1] w fun e w' => e = .returned (.bool true) ∧ Below w.heap.size w w' := by
  have l0 := w0.len
  have l1 := w1.len
  unfold maxLen at l0 l1
  by_cases h0 : len0 ≤ 1048576
  · by_cases h1 : len1 ≤ 1048576
    · exact law_in a0 a1 len0 cap0 len1 cap1 w h0 h1 w0.bytes w1.bytes
    · have q0 : ¬ (1048576 : Int) < (len0 : Int) := by omega
      have q1 : (1048576 : Int) < (len1 : Int) := by omega
      clear w0 w1
      go_enter Try.func3, Try.ntmps3
      go_wp2
      go_ret
      exact ⟨rfl, Below.refl _ _⟩
  · have q0 : (1048576 : Int) < (len0 : Int) := by omega
    clear w0 w1
    go_enter Try.func3, Try.ntmps3
    go_wp2
    go_ret
    exact ⟨rfl, Below.refl _ _⟩
theorem laidOut : laidOutB Try.prog = true := by kernel_rfl
theorem own : ownKnob Try.prog.godebug = none := by kernel_rfl
set_option maxRecDepth 100000 in
theorem lifted (os : Os) (started : os.Started) (H : Type) (enc : TypeId × Value → H) :
    ReturnsInHanded {} Try.checked os 3 .any (Rows.fnRatioSpec.pre6 enc Try.prog Try.f3 Rows.fnRatioRow.domain false) (Rows.fnRatioSpec.post enc Try.prog Try.f3 false true false false) := by
  refine returnsInHanded_of_change (C := Try.checked) own started (by kernel_rfl) Try.func3
    (ChangeSpec.witness6 (enc := enc) (C := Try.checked) false ⟨#[], #[.slice none 0 0, .slice none 0 0], []⟩ 8 (by kernel_rfl) (by kernel_rfl) (by kernel_rfl) (by kernel_rfl)) ?_
  intro W base args ds gs before hval0 hW hcnd _
  have hval : ∀ (j : Nat) t v, Try.f3.params[j]? = some t → args[j]? = some v → Value.okWide Try.prog W .any base t v := hval0
  have hW' := hW
  obtain ⟨p, q, hA0, hV, rfl, hfz, hnd⟩ := hW
  have hA : DataW.TrodAll enc Try.prog W 0 (fun _ => true) true Try.f3.params.toList args.toList ds p := hA0
  rw [Try.params3] at hA hval
  obtain ⟨v0, vs0, d0, ds0, p0, q0, hargs, rfl, rfl, h0, r0⟩ := trodAll_cons hA
  obtain ⟨v1, vs1, d1, ds1, p1, q1, rfl, rfl, rfl, h1, r1⟩ := trodAll_cons r0
  obtain ⟨rfl, rfl, rfl⟩ := trodAll_nil r1
  obtain rfl : args = #[v0, v1] := by cases args; simp_all
  obtain ⟨rfl, rfl⟩ := trodVars_none hV
  obtain ⟨a0, len0, cap0, rfl⟩ := okWide_slice Try.underlying22 (hval 0 22 v0 rfl rfl)
  have k0 := h0
  have lt0 : ∀ x ∈ p0, x.block < W.heap.size := by obtain ⟨m, hm⟩ := k0; exact DataW.trod_lt m _ _ _ hm
  obtain ⟨z0, w0⟩ : ∃ zs, IsRow .u8 W a0 len0 cap0 zs := by
    obtain ⟨fuel, hf⟩ := h0
    rcases open_ints Try.underlying22 Try.underlying5 (by kernel_rfl) hf with ⟨hcs, _⟩ | ⟨x, l, c, zs, hcs, _, hl, hm, hz, _, hcell, hwz⟩
    · simp [Value.cells] at hcs
      obtain ⟨rfl, rfl, rfl⟩ := hcs
      exact ⟨[], .inl ⟨rfl, rfl, rfl, rfl⟩⟩
    · simp [Value.cells] at hcs
      obtain ⟨rfl, rfl, rfl⟩ := hcs
      exact ⟨zs, .inr ⟨_, rfl, hl, hm, by simpa using hz, hcell, hwz⟩⟩
  obtain ⟨a1, len1, cap1, rfl⟩ := okWide_slice Try.underlying22 (hval 1 22 v1 rfl rfl)
  have k1 := h1
  have lt1 : ∀ x ∈ p1, x.block < W.heap.size := by obtain ⟨m, hm⟩ := k1; exact DataW.trod_lt m _ _ _ hm
  obtain ⟨z1, w1⟩ : ∃ zs, IsRow .u8 W a1 len1 cap1 zs := by
    obtain ⟨fuel, hf⟩ := h1
    rcases open_ints Try.underlying22 Try.underlying5 (by kernel_rfl) hf with ⟨hcs, _⟩ | ⟨x, l, c, zs, hcs, _, hl, hm, hz, _, hcell, hwz⟩
    · simp [Value.cells] at hcs
      obtain ⟨rfl, rfl, rfl⟩ := hcs
      exact ⟨[], .inl ⟨rfl, rfl, rfl, rfl⟩⟩
    · simp [Value.cells] at hcs
      obtain ⟨rfl, rfl, rfl⟩ := hcs
      exact ⟨zs, .inr ⟨_, rfl, hl, hm, by simpa using hz, hcell, hwz⟩⟩
  clear hA0 hval0
  refine (walk a0 len0 cap0 z0 a1 len1 cap1 z1 W w0 w1).mono fun e W' ⟨he, bel⟩ => ?_
  subst he
  exact ⟨_, rfl, _, _, _, [], _, [], hW', trodAll_mk1 (shut_bool Try.underlying4 _), (trodAll_cons_mk (Below.trod laidOut (by kernel_rfl) (of_decide_eq_true (by kernel_rfl)) k0 bel lt0) (trodAll_cons_mk (Below.trod laidOut (by kernel_rfl) (of_decide_eq_true (by kernel_rfl)) k1 bel lt1) trodAll_mk0)), rfl, bel.frame _, fun h => by cases h⟩

theorem over : Rows.fnRatioRow.holds Try.pinned (OpenSpec.ofChange Rows.fnRatioSpec) :=
  OpenClaim.holds_of_wide 3 Try.f3 rfl rfl rfl rfl rfl rfl rfl ⟨rfl, rfl, rfl, rfl, rfl⟩ rfl rfl rfl rfl rfl (by kernel_rfl) Try.func3 (by kernel_rfl)
    (of_decide_eq_true (by kernel_rfl)) (by unfold Func.isWrapper; first | (rw [if_pos (by decide +kernel)]; kernel_rfl) | (rw [if_neg (by decide +kernel)]; exact ⟨rfl, rfl⟩))
    (fun os started H enc _ => lifted os started H enc)


end FnRatioL
/-- THE STATEMENT -/
theorem fnRatio_holds : Rows.FnRatioSaid := FnRatioL.over
#print axioms fnRatio_holds
end Go.Proofs.Ytgppggiblkcpnaa
