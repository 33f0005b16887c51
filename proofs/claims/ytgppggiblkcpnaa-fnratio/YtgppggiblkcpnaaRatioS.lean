/-
  Which of two parts is more, the model's side: it goes down by quotients, and the difference of the cross products stays. No condition.
-/
import Derived.Test.YtgppggiblkcpnaaRatio
namespace Go.Proofs.Ytgppggiblkcpnaa
open Go.ChangeShapes Go.WideShapes Go.ChangeAt Go.RowKit
set_option linter.unusedVariables false
namespace RatR
theorem tdiv_nat (a b : Nat) : (a : Int).tdiv b = ((a / b : Nat) : Int) := by
  rw [Int.tdiv_eq_ediv_of_nonneg (by omega)]; simp
theorem tmod_nat (a b : Nat) : (a : Int).tmod b = ((a % b : Nat) : Int) := by
  rw [Int.tmod_eq_emod_of_nonneg (by omega)]; simp
theorem keep64 (n : Nat) (h : n ≤ 1000000000000000) : wrap64 (n : Int) = n := w64q _ (by omega)
/-- The difference of the cross products. -/
def diff (a b c d : Nat) : Int := ((a * d : Nat) : Int) - ((c * b : Nat) : Int)
theorem diff_step {a b c d : Nat} (h : a / b = c / d) : diff d (c % d) b (a % b) = diff a b c d := by
  have := FixM.ratio_same h
  unfold diff
  have e1 : a % b * d = d * (a % b) := Nat.mul_comm _ _
  have e2 : c % d * b = b * (c % d) := Nat.mul_comm _ _
  rw [e1, e2] at this
  simp only [Int.natCast_mul] at this ⊢
  omega
/-- What is told, by the difference. -/
def told (k : Int) : Int := if k < 0 then -1 else if 0 < k then 1 else 0
theorem told_cmp (a b c d : Nat) : told (diff a b c d) = cmpN (a * d) (c * b) := by
  unfold told diff
  rcases Nat.lt_trichotomy (a * d) (c * b) with h | h | h
  · rw [cmp_lt h, if_pos (by omega)]
  · rw [h, cmp_eq, if_neg (by omega), if_neg (by omega)]
  · rw [cmp_gt h, if_neg (by omega), if_pos (by omega)]
theorem told_lt {a b c d : Nat} (hb : 0 < b) (hd : 0 < d) (h : a / b < c / d) : told (diff a b c d) = -1 := by
  have := FixM.ratio_less hb hd h
  rw [told_cmp, cmp_lt this]
theorem told_gt {a b c d : Nat} (hb : 0 < b) (hd : 0 < d) (h : c / d < a / b) : told (diff a b c d) = 1 := by
  have := FixM.ratio_less hd hb h
  rw [told_cmp, cmp_gt this]
theorem told_zero {a b c d : Nat} (h : a / b = c / d) (ha : a % b = 0) (hc : c % d = 0) : told (diff a b c d) = 0 := by
  rw [← diff_step h, told_cmp, ha, hc]; simp [cmp_eq]
theorem told_left {a b c d : Nat} (hb : 0 < b) (h : a / b = c / d) (ha : a % b = 0) (hc : c % d ≠ 0) : told (diff a b c d) = -1 := by
  rw [← diff_step h, told_cmp, ha]
  exact cmp_lt (by rw [Nat.mul_zero]; exact Nat.mul_pos hb (by omega))
theorem told_right {a b c d : Nat} (hd : 0 < d) (h : a / b = c / d) (ha : a % b ≠ 0) (hc : c % d = 0) : told (diff a b c d) = 1 := by
  rw [← diff_step h, told_cmp, hc]
  exact cmp_gt (by rw [Nat.mul_zero]; exact Nat.mul_pos hd (by omega))
theorem facts (a b c d P Q A C : Nat) (hb : 1 ≤ b) (hd : 1 ≤ d) (ha : a ≤ 1000000000000000) (hb2 : b ≤ 1000000000000000) (hc : c ≤ 1000000000000000) (hd2 : d ≤ 1000000000000000) (hP : P = a / b) (hQ : Q = c / d) (hA : A = a % b) (hC : C = c % d) :
    (¬ (b : Int) = 0) ∧ (¬ (d : Int) = 0) ∧ Hid (A < b) ∧ Hid (C < d) ∧ wrap64 (P : Int) = P ∧ wrap64 (Q : Int) = Q ∧ wrap64 (A : Int) = A ∧ wrap64 (C : Int) = C ∧ (a : Int).tdiv b = P ∧ (c : Int).tdiv d = Q ∧ (a : Int).tmod b = A ∧ (c : Int).tmod d = C := by
  have bp := Nat.div_le_self a b
  have bq := Nat.div_le_self c d
  have br := Nat.mod_lt a hb
  have bs := Nat.mod_lt c hd
  rw [← hP] at bp
  rw [← hQ] at bq
  rw [← hA] at br
  rw [← hC] at bs
  refine ⟨by omega, by omega, br, bs, keep64 P (by omega), keep64 Q (by omega), keep64 A (by omega), keep64 C (by omega), ?_, ?_, ?_, ?_⟩
  · rw [hP]; exact tdiv_nat a b
  · rw [hQ]; exact tdiv_nat c d
  · rw [hA]; exact tmod_nat a b
  · rw [hC]; exact tmod_nat c d
theorem ne_t {x y : Nat} (h : x ≠ y) : ((x : Int) != (y : Int)) = true := by simp; omega
theorem ne_f {x y : Nat} (h : x = y) : ((x : Int) != (y : Int)) = false := by subst h; simp
theorem eq_t {x y : Nat} (h : x = y) : ((x : Int) == (y : Int)) = true := by subst h; simp
theorem eq_f {x y : Nat} (h : x ≠ y) : ((x : Int) == (y : Int)) = false := by simp; omega
theorem z_t {x : Nat} (h : x = 0) : ((x : Int) == 0) = true := by subst h; rfl
theorem z_f {x : Nat} (h : x ≠ 0) : ((x : Int) == 0) = false := by simp; omega
theorem lt_t {x y : Nat} (h : x < y) : (x : Int) < y := by omega
theorem lt_f {x y : Nat} (h : y < x) : ¬ (x : Int) < y := by omega
set_option maxRecDepth 100000 in
set_option maxHeartbeats 4000000 in
theorem spec_ratio (a b c d : Nat) (ha : a ≤ 1000000000000000) (hb : 1 ≤ b ∧ b ≤ 1000000000000000) (hc : c ≤ 1000000000000000) (hd : 1 ≤ d ∧ d ≤ 1000000000000000) (w : World) :
    Calls Try.prog 8 #[.int .i64 a, .int .i64 b, .int .i64 c, .int .i64 d] w fun e w' => e = .returned (.int .i64 (cmpN (a * d) (c * b))) ∧ w' = w := by
  rw [← told_cmp]
  have a1 : (0 : Int) ≤ a := by omega
  have a2 : (a : Int) ≤ 1000000000000000 := by omega
  have b1 : (1 : Int) ≤ b := by omega
  have b2 : (b : Int) ≤ 1000000000000000 := by omega
  have c1 : (0 : Int) ≤ c := by omega
  have c2 : (c : Int) ≤ 1000000000000000 := by omega
  have d1 : (1 : Int) ≤ d := by omega
  have d2 : (d : Int) ≤ 1000000000000000 := by omega
  obtain ⟨K, hK⟩ : ∃ K, K = diff a b c d := ⟨_, rfl⟩
  rw [← hK]
  have H0 := hid_intro (And.intro ha (And.intro hb (And.intro hc (And.intro hd hK))))
  clear ha hb hc hd hK
  go_enter Try.func8, Try.ntmps8
  go_wp2
  go_loop [0, 1, 2, 3, 9, 10] (fun xa xb xc xd _ _ => ∃ a b c d : Nat, xa = .int .i64 a ∧ xb = .int .i64 b ∧ xc = .int .i64 c ∧ xd = .int .i64 d ∧ Hid (a ≤ 1000000000000000 ∧ (1 ≤ b ∧ b ≤ 1000000000000000) ∧ c ≤ 1000000000000000 ∧ (1 ≤ d ∧ d ≤ 1000000000000000) ∧ K = diff a b c d)) (fun _ xb _ xd _ _ => (intOf xb).toNat + (intOf xd).toNat)
  case atStart => exact ⟨a, b, c, d, rfl, rfl, rfl, rfl, H0⟩
  case round =>
    clear H0 a1 a2 b1 b2 c1 c2 d1 d2
    obtain ⟨a, b, c, d, rfl, rfl, rfl, rfl, HR⟩ := hrel
    obtain ⟨P, hP⟩ : ∃ P, P = a / b := ⟨_, rfl⟩
    obtain ⟨Q, hQ⟩ : ∃ Q, Q = c / d := ⟨_, rfl⟩
    obtain ⟨A, hA⟩ : ∃ A, A = a % b := ⟨_, rfl⟩
    obtain ⟨C, hC⟩ : ∃ C, C = c % d := ⟨_, rfl⟩
    have F := facts a b c d P Q A C HR.out.2.1.1 HR.out.2.2.2.1.1 HR.out.1 HR.out.2.1.2 HR.out.2.2.1 HR.out.2.2.2.1.2 hP hQ hA hC
    obtain ⟨hb0, hd0, HBR, HBS, k1, k2, k3, k4, t1, t2, t3, t4⟩ := F
    have HP := hid_intro hP
    have HQ := hid_intro hQ
    have HA := hid_intro hA
    have HC := hid_intro hC
    clear hP hQ hA hC
    rcases Nat.lt_trichotomy P Q with h | h | h
    · have n1 := ne_t (Nat.ne_of_lt h)
      have n2 := lt_t h
      have HH := hid_intro h
      clear h
      go_wp2
      go_ret
      refine ⟨ret_int ?_, rfl⟩
      obtain ⟨ha, hb, hc, hd, hK⟩ := HR.out
      rw [hK]
      exact (told_lt hb.1 hd.1 (by rw [← HP.out, ← HQ.out]; exact HH.out)).symm
    · have n1 := ne_f h
      have HH := hid_intro h
      clear h
      by_cases zA : A = 0
      · by_cases zC : C = 0
        · have z1 := z_t zA
          have z2 := eq_t (zA.trans zC.symm)
          have ZA := hid_intro zA
          have ZC := hid_intro zC
          clear zA zC
          go_wp2
          go_ret
          refine ⟨ret_int ?_, rfl⟩
          obtain ⟨ha, hb, hc, hd, hK⟩ := HR.out
          rw [hK]
          exact (told_zero (by rw [← HP.out, ← HQ.out]; exact HH.out) (by rw [← HA.out]; exact ZA.out) (by rw [← HC.out]; exact ZC.out)).symm
        · have z1 := z_t zA
          have z2 := eq_f (x := A) (y := C) (fun e => by first | exact zC (e.symm.trans zA) | exact zA (e.trans zC))
          have ZA := hid_intro zA
          have ZC := hid_intro zC
          clear zA zC
          go_wp2
          go_ret
          refine ⟨ret_int ?_, rfl⟩
          obtain ⟨ha, hb, hc, hd, hK⟩ := HR.out
          rw [hK]
          exact (told_left hb.1 (by rw [← HP.out, ← HQ.out]; exact HH.out) (by rw [← HA.out]; exact ZA.out) (by rw [← HC.out]; exact ZC.out)).symm
      · have z1 := z_f zA
        by_cases zC : C = 0
        · have z3 := z_t zC
          have z2 := eq_f (x := A) (y := C) (fun e => by first | exact zC (e.symm.trans zA) | exact zA (e.trans zC))
          have ZA := hid_intro zA
          have ZC := hid_intro zC
          clear zA zC
          go_wp2
          go_ret
          refine ⟨ret_int ?_, rfl⟩
          obtain ⟨ha, hb, hc, hd, hK⟩ := HR.out
          rw [hK]
          exact (told_right hd.1 (by rw [← HP.out, ← HQ.out]; exact HH.out) (by rw [← HA.out]; exact ZA.out) (by rw [← HC.out]; exact ZC.out)).symm
        · have z3 := z_f zC
          have ZA := hid_intro zA
          have ZC := hid_intro zC
          clear zA zC
          go_wp2
          go_round
          case rel =>
            obtain ⟨ha, hb, hc, hd, hK⟩ := HR.out
            refine ⟨d, C, b, A, rfl, rfl, rfl, rfl, hd.2, ⟨?_, ?_⟩, hb.2, ⟨?_, ?_⟩, ?_⟩
            · exact Nat.pos_of_ne_zero ZC.out
            · exact Nat.le_trans (Nat.le_of_lt HBS.out) hd.2
            · exact Nat.pos_of_ne_zero ZA.out
            · exact Nat.le_trans (Nat.le_of_lt HBR.out) hb.2
            · rw [HC.out, HA.out, hK]
              exact (diff_step (by rw [← HP.out, ← HQ.out]; exact HH.out)).symm
          case measure =>
            have h1 := Nat.add_lt_add HBS.out HBR.out
            simp [intOf]
            rw [Nat.add_comm b d]
            exact h1
    · have n1 := ne_t (Nat.ne_of_gt h)
      have n2 := lt_f h
      have HH := hid_intro h
      clear h
      go_wp2
      go_ret
      refine ⟨ret_int ?_, rfl⟩
      obtain ⟨ha, hb, hc, hd, hK⟩ := HR.out
      rw [hK]
      exact (told_gt hb.1 hd.1 (by rw [← HP.out, ← HQ.out]; exact HH.out)).symm
end RatR
end Go.Proofs.Ytgppggiblkcpnaa
