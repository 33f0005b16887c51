/-
  A product in parts, the model's side: the product is gathered bit by bit, and rounded as the program does. No condition.
-/
import Derived.Test.YtaihfidbpkbnkaaDoorTParts
import Derived.Test.YtaihfidbpkbnkaaDoorFixMath
namespace Go.Proofs.YtaihfidbpkbnkaaDoor
open Go.ChangeShapes Go.WideShapes Go.ChangeAt Go.RowKit
set_option linter.unusedVariables false
namespace FixR
theorem i64_and1 (a : Nat) (ha : a < 9223372036854775808) : bits .and .i64 (a : Int) 1 = ((a % 2 : Nat) : Int) := by
  have h1 : (BitVec.ofInt 64 (a : Int)).toNat = a := by
    rw [BitVec.ofInt_natCast, BitVec.toNat_ofNat]; exact Nat.mod_eq_of_lt (by omega)
  have h2 : (BitVec.ofInt 64 1).toNat = 1 := by decide
  show IntKind.i64.wrap ((BitVec.ofInt 64 (a : Int) &&& BitVec.ofInt 64 1).toNat : Int) = _
  rw [BitVec.toNat_and, h1, h2, Nat.and_one_is_mod, IntKind.wrap_i64]
  omega
/-- What one bit more makes of what was gathered. -/
theorem mul_step (a b c i Q R : Nat) (ha : a ≤ 1000000000000000) (hb : b ≤ 1000000000000000) (hc : 1 ≤ c) (hc2 : c ≤ 1000000000000000) (hQ : Q = a * (b / 2 ^ (i + 1)) / c) (hR : R = a * (b / 2 ^ (i + 1)) % c) (hm : Q ≤ 1000000000000000) :
    ∃ A B S Q' R' : Nat, A = a / c ∧ B = a % c ∧ S = 2 * R + b / 2 ^ i % 2 * B ∧ Q' = a * (b / 2 ^ i) / c ∧ R' = a * (b / 2 ^ i) % c ∧ Q' = 2 * Q + b / 2 ^ i % 2 * A + S / c ∧ R' = S % c ∧ A ≤ 1000000000000000 ∧ B < c ∧ R < c ∧ S < 3 * c ∧ S / c ≤ 3 := by
  obtain ⟨e1, e2⟩ := FixM.mul_bit a b c i Q R (b / 2 ^ i % 2) hc hQ hR rfl
  have hB := Nat.mod_lt a hc
  have hR' : R < c := by rw [hR]; exact Nat.mod_lt _ hc
  have hA : a / c ≤ 1000000000000000 := Nat.le_trans (Nat.div_le_self _ _) ha
  have hbit : b / 2 ^ i % 2 < 2 := Nat.mod_lt _ (by omega)
  have hS : 2 * R + b / 2 ^ i % 2 * (a % c) < 3 * c := by
    rcases (show b / 2 ^ i % 2 = 0 ∨ b / 2 ^ i % 2 = 1 by omega) with h | h <;> rw [h] <;> omega
  exact ⟨_, _, _, _, _, rfl, rfl, rfl, rfl, rfl, e1.symm, e2.symm, hA, hB, hR', hS, by have := (Nat.div_lt_iff_lt_mul (x := 2 * R + b / 2 ^ i % 2 * (a % c)) (y := 3) hc).2 hS; omega⟩
/-- The round's numbers as the walk spells them. -/
theorem mul_nums (a b c i Q R A B S Q' R' : Nat) (hA : A = a / c) (hB : B = a % c) (hc2 : c ≤ 1000000000000000) (hm : Q ≤ 1000000000000000) (bA : A ≤ 1000000000000000) (bB : B < c) (bR : R < c) (bS : S < 3 * c) (bq : S / c ≤ 3) :
    wrap64 (2 * (Q : Int)) = 2 * Q ∧ wrap64 (2 * (R : Int)) = 2 * R ∧ (a : Int) / c = A ∧ (a : Int) % c = B ∧ wrap64 (A : Int) = A ∧ wrap64 (2 * (Q : Int) + A) = 2 * Q + A ∧ wrap64 (2 * (R : Int) + B) = 2 * R + B := by
  refine ⟨w64 _ (by omega), w64 _ (by omega), ?_, ?_, w64 _ (by omega), w64 _ (by omega), w64 _ (by omega)⟩
  · rw [hA]; exact (Int.natCast_ediv a c).symm
  · rw [hB]; exact (Int.natCast_emod a c).symm
theorem cast_div (S c : Nat) : (S : Int).tdiv c = ((S / c : Nat) : Int) := by rw [Int.tdiv_eq_ediv_of_nonneg (Int.natCast_nonneg _)]; exact (Int.natCast_ediv S c).symm
theorem cast_mod (S c : Nat) : (S : Int).tmod c = ((S % c : Nat) : Int) := by rw [Int.tmod_eq_emod_of_nonneg (Int.natCast_nonneg _)]; exact (Int.natCast_emod S c).symm
theorem small_nat (s : Nat) (h : s ≤ 3) : wrap64 (s : Int) = s := w64 _ (by omega)
theorem near_q (Q A s Q' : Nat) (hq : Q ≤ 1000000000000000) (ha : A ≤ 1000000000000000) (hs : s ≤ 3) (h : Q' = 2 * Q + A + s) : wrap64 (2 * (Q : Int) + A + s) = Q' := by rw [w64 _ (by omega)]; omega
theorem near_q0 (Q s Q' : Nat) (hq : Q ≤ 1000000000000000) (hs : s ≤ 3) (h : Q' = 2 * Q + s) : wrap64 (2 * (Q : Int) + s) = Q' := by rw [w64 _ (by omega)]; omega
theorem round0 (Q R S Q' R' c : Nat) (bq : S / c ≤ 3) (q3 : Q ≤ 1000000000000000) (eS : S = 2 * R) (fQ : Q' = 2 * Q + S / c) (fR : R' = S % c) :
    ∃ s : Nat, (2 * (R : Int)).tdiv c = s ∧ wrap64 (s : Int) = s ∧ wrap64 (2 * (Q : Int) + s) = Q' ∧ (2 * (R : Int)) % c = R' := by
  have e : (2 * (R : Int)) = ((S : Nat) : Int) := by rw [eS]; simp
  exact ⟨S / c, by rw [e]; exact cast_div S c, small_nat _ bq, near_q0 Q (S / c) Q' q3 bq fQ, by rw [e, fR]; exact (Int.natCast_emod S c).symm⟩
theorem round1 (Q R S Q' R' A B c : Nat) (bq : S / c ≤ 3) (q3 : Q ≤ 1000000000000000) (bA : A ≤ 1000000000000000) (eS : S = 2 * R + B) (fQ : Q' = 2 * Q + A + S / c) (fR : R' = S % c) :
    ∃ s : Nat, (2 * (R : Int) + B).tdiv c = s ∧ wrap64 (s : Int) = s ∧ wrap64 (2 * (Q : Int) + A + s) = Q' ∧ (2 * (R : Int) + B).tmod c = R' := by
  have e : (2 * (R : Int) + B) = ((S : Nat) : Int) := by rw [eS]; simp
  exact ⟨S / c, by rw [e]; exact cast_div S c, small_nat _ bq, near_q Q A (S / c) Q' q3 bA bq fQ, by rw [e, fR]; exact cast_mod S c⟩
theorem pow51 : (2 : Nat) ^ 51 = 2251799813685248 := by decide
theorem pow_small (b : Nat) (hb : b ≤ 1000000000000000) : b / 2 ^ 51 = 0 := by
  rw [pow51]
  exact Nat.div_eq_of_lt (by omega)
theorem bit_two (m : Nat) : m % 2 = 0 ∨ m % 2 = 1 := by omega
theorem shr_lt (b i : Nat) (hb : b ≤ 1000000000000000) : b / 2 ^ i < 9223372036854775808 := Nat.lt_of_le_of_lt (Nat.div_le_self _ _) (Nat.lt_of_le_of_lt hb (by decide))
theorem pred_i (i : Nat) : ((i + 1 : Nat) : Int) - 1 = i := by omega
theorem shr_cast (b i : Nat) : (b : Int) / 2 ^ i = ((b / 2 ^ i : Nat) : Int) := by rw [Int.natCast_ediv, Int.natCast_pow]; rfl
theorem tail_big (a b c i : Nat) (h : ¬ a * (b / 2 ^ i) / c ≤ 1000000000000000) : ¬ a * b / c ≤ 1000000000000000 := fun h2 => h (Nat.le_trans (FixM.mul_mono a b c i) h2)
/-- What the model's loop hands back. -/
def MulOut (a b c : Nat) (e : Ending) : Prop :=
  (a * b / c ≤ 1000000000000000 ∧ e = .returned (.tuple #[.int .i64 ((a * b / c : Nat) : Int), .int .i64 ((a * b % c : Nat) : Int), .bool true])) ∨ (¬ a * b / c ≤ 1000000000000000 ∧ e = .returned (.tuple #[.int .i64 0, .int .i64 0, .bool false]))
set_option maxHeartbeats 4000000 in
theorem l02Mul_any (a b c : Nat) (ha : a ≤ 1000000000000000) (hb : b ≤ 1000000000000000) (hc : 1 ≤ c) (hc2 : c ≤ 1000000000000000) (w : World) :
    Calls Tryd.prog 73 #[.int .i64 a, .int .i64 b, .int .i64 c] w fun e w' => MulOut a b c e ∧ w' = w := by
  have HA := hid_intro ha
  have HB := hid_intro hb
  have HC := hid_intro hc
  have HC2 := hid_intro hc2
  have c0 : ¬ c = 0 := by omega
  clear ha hb hc hc2
  go_enter Tryd.func73, Tryd.ntmps73
  go_wp2
  go_loop [9, 10, 11] (fun x y z => ∃ j Q R : Nat, x = .int .i64 Q ∧ y = .int .i64 R ∧ z = .int .i64 ((j : Int) - 1) ∧ j ≤ 51 ∧ Hid (Q = a * (b / 2 ^ j) / c ∧ R = a * (b / 2 ^ j) % c ∧ Q ≤ 1000000000000000)) (fun _ _ z => ((intOf z) + 1).toNat)
  case atStart => exact ⟨51, 0, 0, rfl, rfl, rfl, by omega, hid_intro (by rw [pow_small b HB.out]; simp)⟩
  case round =>
    obtain ⟨j, Q, R, rfl, rfl, rfl, hj, HQ⟩ := hrel
    by_cases h0 : 0 ≤ (j : Int) - 1
    · obtain ⟨i, rfl⟩ : ∃ i, j = i + 1 := ⟨j - 1, by omega⟩
      obtain ⟨q1, q2, q3⟩ := HQ.out
      obtain ⟨A, B, S, Q', R', eA, eB, eS, eQ, eR, fQ, fR, bA, bB, bR, bS, bq⟩ := mul_step a b c i Q R HA.out HB.out HC.out HC2.out q1 q2 q3
      obtain ⟨n1, n2, n3, n4, n5, n6, n7⟩ := mul_nums a b c i Q R A B S Q' R' eA eB HC2.out q3 bA bB bR bS bq
      rw [pred_i i] at h0 ⊢
      have hs := shr_cast b i
      have hbit := i64_and1 (b / 2 ^ i) (shr_lt b i HB.out)
      obtain ⟨m1, m2⟩ : ∃ m, m = b / 2 ^ i := ⟨_, rfl⟩
      have HE := hid_intro (And.intro eQ eR)
      have HF := hid_intro (tail_big a b c i)
      rw [← m2] at hs hbit eS fQ
      rw [← eQ] at HF
      clear q1 q2 eQ eR eA eB HQ m2
      rcases bit_two m1 with hm | hm
      · rw [hm] at hbit eS fQ
        rw [Nat.zero_mul, Nat.add_zero] at eS fQ
        obtain ⟨s, t1, t2, t3, t4⟩ := round0 Q R S Q' R' c bq q3 eS fQ fR
        have HI := hid_intro hj
        clear bA bB bR bS bq fQ fR eS hm q3
        go_wp2
        · rename_i h
          have : ¬ Q' ≤ 1000000000000000 := by omega
          exact bodyPost_ret (v := .tuple #[.int .i64 0, .int .i64 0, .bool false]) (by simp [results, Tryd.results73, go_sem]) rfl ⟨.inr ⟨HF.out this, rfl⟩, rfl⟩
        · rename_i h
          go_round
          case rel => exact ⟨i, Q', R', by rw [t3], by rw [t4], rfl, by have := HI.out; omega, hid_intro ⟨HE.out.1, HE.out.2, by omega⟩⟩
          case measure => first | (simp [intOf]; done) | (simp [intOf]; omega)
      · rw [hm] at hbit eS fQ
        rw [Nat.one_mul] at eS fQ
        obtain ⟨s, t1, t2, t3, t4⟩ := round1 Q R S Q' R' A B c bq q3 bA eS fQ fR
        have HI := hid_intro hj
        clear bA bB bR bS bq fQ fR eS hm q3
        go_wp2
        · rename_i h _
          try rw [t1, t2, t3] at h
          have : ¬ Q' ≤ 1000000000000000 := by omega
          exact bodyPost_ret (v := .tuple #[.int .i64 0, .int .i64 0, .bool false]) (by simp [results, Tryd.results73, go_sem]) rfl ⟨.inr ⟨HF.out this, rfl⟩, rfl⟩
        · rename_i h
          try rw [t1, t2, t3] at h
          go_round
          case rel => exact ⟨i, Q', R', by first | rw [t1, t2, t3] | rw [t3] | rfl, by first | rw [t4] | rfl, rfl, by have := HI.out; omega, hid_intro ⟨HE.out.1, HE.out.2, by omega⟩⟩
          case measure => first | (simp [intOf]; done) | (simp [intOf]; omega)
    · obtain rfl : j = 0 := by omega
      obtain ⟨q1, q2, q3⟩ := HQ.out
      rw [Nat.pow_zero, Nat.div_one] at q1 q2
      have HO : Hid (MulOut a b c (.returned (.tuple #[.int .i64 (Q : Int), .int .i64 (R : Int), .bool true]))) := hid_intro (.inl ⟨by rw [← q1]; exact q3, by rw [q1, q2]⟩)
      clear q1 q2 q3 HQ
      go_wp2
      exact bodyPost_ret (v := .tuple #[.int .i64 (Q : Int), .int .i64 (R : Int), .bool true]) (by simp [results, Tryd.results73, go_sem]) rfl ⟨HO.out, rfl⟩
end FixR
end Go.Proofs.YtaihfidbpkbnkaaDoor
